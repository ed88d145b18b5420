/-
  One side of agreeing: settle.
  One side of agreeing: settle in general; confirm.
  One side of agreeing: answer, hear, take.
  One side of agreeing: hear.
  One side of agreeing: take of one option.
  One side of agreeing: take of any option.
  One side of agreeing: Take.
-/
import Derived.Test.YtnhlachoimlhhaaGreatDoorNgX
import Derived.BigQuiet
import Derived.Deep.AppendLies
import Derived.Deep.RegionHeld3
import Derived.IntWalk
namespace Go.Proofs.YtnhlachoimlhhaaGreatDoor
open Go.ChangeShapes Go.WideShapes Go.ChangeAt Go.RowKit
set_option linter.unusedVariables false
set_option linter.unusedSimpArgs false

set_option maxHeartbeats 2000000 in
set_option maxRecDepth 100000 in
theorem ngSettle_1 (s : NgS) (due : Value) (l : List UInt8) (hl : l.length ≤ 9223372036854775807) (hok : s.Ok) (C : Nat) (w : World) (h : NgAt s due C w) (hm : ftMay 1 l = true) :
    Calls Tryz.prog 152 #[.pointer (some ⟨C, 0, none⟩), .int .i64 1, .string (str l)] w fun e w' => e = .returned (.string (str (s.says 1 l))) ∧ NgAt (s.settled 1 l) due C w' ∧ Kept [C] w w' := by
  have HM := Lib.hid (fun W => ftMay_any 1 l hl W)
  rw [hm] at HM
  have HL := Lib.hid (fun W => ftList_any 1 W)
  rw [show (ftSpan 1).isSome = true from rfl] at HL
  have hlk := hok.like 1
  have HA := Lib.hid h
  have f0 : w.cell? ⟨C, 0, none⟩ = some (.bool s.server) := BlkIs.cell h 0
  have f2 : w.cell? ⟨C, 6, none⟩ = some (.string (str (s.like 1))) := BlkIs.cell h 6
  have f3 : w.cell? ⟨C, 8, none⟩ = some (.string (str (s.theirs 1))) := BlkIs.cell h 8
  have ff := BlkIs.free h 8
  have hst : ∀ x, BlkIs (ngCells { s with theirs := upd s.theirs 1 x } due) 111 C (w.setCell ⟨C, 8, none⟩ (.string (str x))) := fun x => BlkIs.set h 8 (.string (str x))
  unfold NgS.says NgS.settled
  have key : ∀ (sv : Bool) (p : Option (List UInt8)), s.server = sv → s.pick 1 l = p → Hid (∀ W, Calls Tryz.prog 60 (if sv = true ∨ ftLst 1 = false then #[.int .i64 1, .string (str (s.like 1)), .string (str l)] else #[.int .i64 1, .string (str l), .string (str (s.like 1))]) W fun e w' => e = .returned (ftRet p) ∧ ∃ n, w' = W.drewN n) := fun sv p hsv hp => Lib.hid (fun W => by
    have hp2 := hp
    unfold NgS.pick at hp2
    rw [if_pos hm, hsv] at hp2
    by_cases hc : sv = true ∨ ftLst 1 = false
    · rw [if_pos hc] at hp2 ⊢
      rw [← hp2]
      exact ftChoose_any 1 (s.like 1) l (by omega) hl W
    · rw [if_neg hc] at hp2 ⊢
      rw [← hp2]
      exact ftChoose_any 1 l (s.like 1) hl (by omega) W)
  obtain ⟨sv, hsv⟩ : ∃ sv, s.server = sv := ⟨_, rfl⟩
  obtain ⟨p, hp⟩ : ∃ p, s.pick 1 l = p := ⟨_, rfl⟩
  have HC := key sv p hsv hp
  rw [hsv] at f0
  rw [hp]
  have HPL : Hid (∀ x, p = some x → x.length ≤ 16) := Lib.hid (fun x hx => (NgS.pick_len (hp.trans hx)).1)
  clear key hsv hp hm
  cases sv with
  | true =>
    rw [if_pos (by decide)] at HC
    cases p with
    | none =>
      unfold ftRet at HC
      dsimp only [Option.getD, Option.isSome] at HC
      generalize str (s.like 1) = z at *
      generalize str l = y at *
      clear hst hlk hok h
      go_enter Tryz.func152, Tryz.ntmps152
      go_upto_region 4 with (go_at_call 102; (with_reducible refine (HM.out _).mono ?_); rintro e w1 ⟨rfl, n, rfl⟩)
      go_quiet (fail)
      go_wp2_with (first
        | (go_at_call 111; (with_reducible refine (HL.out _).mono ?_); rintro e w2 ⟨rfl, rfl⟩)
        | (go_at_call 60; (with_reducible refine (HC.out _).mono ?_); rintro e w3 ⟨rfl, m, rfl⟩))
      go_ret
      refine ⟨rfl, BlkIs.drewN HA.out _, (Kept.refl _ _).drewN _⟩
    | some x =>
      unfold ftRet at HC
      dsimp only [Option.getD, Option.isSome] at HC ⊢
      have hst1 := Lib.hid (hst x)
      rw [if_pos (show ftLst 1 = true from rfl)]
      have happ : str x ++ str (s.like 1) = str (x ++ s.like 1) := rfl
      obtain ⟨r, hr⟩ : ∃ r, str (x ++ s.like 1) = r := ⟨_, rfl⟩
      rw [hr] at happ ⊢
      clear hr
      have hs1 : (str x).size ≤ 16 := HPL.out x rfl
      have hs2 : (str (s.like 1)).size ≤ 16 := hok.like 1
      clear hst hlk hok h
      generalize str (s.like 1) = z at *
      generalize str l = y at *
      generalize str x = x1 at *
      go_enter Tryz.func152, Tryz.ntmps152
      go_upto_region 4 with (go_at_call 102; (with_reducible refine (HM.out _).mono ?_); rintro e w1 ⟨rfl, n, rfl⟩)
      go_quiet (fail)
      go_wp2_with (first
        | (go_at_call 111; (with_reducible refine (HL.out _).mono ?_); rintro e w2 ⟨rfl, rfl⟩)
        | (go_at_call 60; (with_reducible refine (HC.out _).mono ?_); rintro e w3 ⟨rfl, m, rfl⟩))
      go_ret
      exact ⟨rfl, BlkIs.drewN hst1.out _, ((Kept.refl [C] w).setCell (.inl (by simp)) _).drewN _⟩
  | false =>
    rw [if_neg (by decide)] at HC
    cases p with
    | none =>
      unfold ftRet at HC
      dsimp only [Option.getD, Option.isSome] at HC
      generalize str (s.like 1) = z at *
      generalize str l = y at *
      clear hst hlk hok h
      go_enter Tryz.func152, Tryz.ntmps152
      go_upto_region 4 with (go_at_call 102; (with_reducible refine (HM.out _).mono ?_); rintro e w1 ⟨rfl, n, rfl⟩)
      go_quiet (fail)
      go_wp2_with (first
        | (go_at_call 111; (with_reducible refine (HL.out _).mono ?_); rintro e w2 ⟨rfl, rfl⟩)
        | (go_at_call 60; (with_reducible refine (HC.out _).mono ?_); rintro e w3 ⟨rfl, m, rfl⟩))
      go_ret
      refine ⟨rfl, BlkIs.drewN HA.out _, (Kept.refl _ _).drewN _⟩
    | some x =>
      unfold ftRet at HC
      dsimp only [Option.getD, Option.isSome] at HC ⊢
      have hst1 := Lib.hid (hst x)
      rw [if_pos (show ftLst 1 = true from rfl)]
      have happ : str x ++ str (s.like 1) = str (x ++ s.like 1) := rfl
      obtain ⟨r, hr⟩ : ∃ r, str (x ++ s.like 1) = r := ⟨_, rfl⟩
      rw [hr] at happ ⊢
      clear hr
      have hs1 : (str x).size ≤ 16 := HPL.out x rfl
      have hs2 : (str (s.like 1)).size ≤ 16 := hok.like 1
      clear hst hlk hok h
      generalize str (s.like 1) = z at *
      generalize str l = y at *
      generalize str x = x1 at *
      go_enter Tryz.func152, Tryz.ntmps152
      go_upto_region 4 with (go_at_call 102; (with_reducible refine (HM.out _).mono ?_); rintro e w1 ⟨rfl, n, rfl⟩)
      go_quiet (fail)
      go_wp2_with (first
        | (go_at_call 111; (with_reducible refine (HL.out _).mono ?_); rintro e w2 ⟨rfl, rfl⟩)
        | (go_at_call 60; (with_reducible refine (HC.out _).mono ?_); rintro e w3 ⟨rfl, m, rfl⟩))
      go_ret
      exact ⟨rfl, BlkIs.drewN hst1.out _, ((Kept.refl [C] w).setCell (.inl (by simp)) _).drewN _⟩
set_option maxHeartbeats 2000000 in
set_option maxRecDepth 100000 in
theorem ngSettle_3 (s : NgS) (due : Value) (l : List UInt8) (hl : l.length ≤ 9223372036854775807) (hok : s.Ok) (C : Nat) (w : World) (h : NgAt s due C w) (hm : ftMay 3 l = true) :
    Calls Tryz.prog 152 #[.pointer (some ⟨C, 0, none⟩), .int .i64 3, .string (str l)] w fun e w' => e = .returned (.string (str (s.says 3 l))) ∧ NgAt (s.settled 3 l) due C w' ∧ Kept [C] w w' := by
  have HM := Lib.hid (fun W => ftMay_any 3 l hl W)
  rw [hm] at HM
  have HL := Lib.hid (fun W => ftList_any 3 W)
  rw [show (ftSpan 3).isSome = false from rfl] at HL
  have hlk := hok.like 3
  have HA := Lib.hid h
  have f0 : w.cell? ⟨C, 0, none⟩ = some (.bool s.server) := BlkIs.cell h 0
  have f2 : w.cell? ⟨C, 14, none⟩ = some (.string (str (s.like 3))) := BlkIs.cell h 14
  have f3 : w.cell? ⟨C, 16, none⟩ = some (.string (str (s.theirs 3))) := BlkIs.cell h 16
  have ff := BlkIs.free h 16
  have hst : ∀ x, BlkIs (ngCells { s with theirs := upd s.theirs 3 x } due) 111 C (w.setCell ⟨C, 16, none⟩ (.string (str x))) := fun x => BlkIs.set h 16 (.string (str x))
  unfold NgS.says NgS.settled
  have key : ∀ (sv : Bool) (p : Option (List UInt8)), s.server = sv → s.pick 3 l = p → Hid (∀ W, Calls Tryz.prog 60 (if sv = true ∨ ftLst 3 = false then #[.int .i64 3, .string (str (s.like 3)), .string (str l)] else #[.int .i64 3, .string (str l), .string (str (s.like 3))]) W fun e w' => e = .returned (ftRet p) ∧ ∃ n, w' = W.drewN n) := fun sv p hsv hp => Lib.hid (fun W => by
    have hp2 := hp
    unfold NgS.pick at hp2
    rw [if_pos hm, hsv] at hp2
    by_cases hc : sv = true ∨ ftLst 3 = false
    · rw [if_pos hc] at hp2 ⊢
      rw [← hp2]
      exact ftChoose_any 3 (s.like 3) l (by omega) hl W
    · rw [if_neg hc] at hp2 ⊢
      rw [← hp2]
      exact ftChoose_any 3 l (s.like 3) hl (by omega) W)
  obtain ⟨sv, hsv⟩ : ∃ sv, s.server = sv := ⟨_, rfl⟩
  obtain ⟨p, hp⟩ : ∃ p, s.pick 3 l = p := ⟨_, rfl⟩
  have HC := key sv p hsv hp
  rw [hsv] at f0
  rw [hp]
  have HPL : Hid (∀ x, p = some x → x.length ≤ 16) := Lib.hid (fun x hx => (NgS.pick_len (hp.trans hx)).1)
  clear key hsv hp hm
  cases sv with
  | true =>
    rw [if_pos (by decide)] at HC
    cases p with
    | none =>
      unfold ftRet at HC
      dsimp only [Option.getD, Option.isSome] at HC
      generalize str (s.like 3) = z at *
      generalize str l = y at *
      clear hst hlk hok h
      go_enter Tryz.func152, Tryz.ntmps152
      go_upto_region 4 with (go_at_call 102; (with_reducible refine (HM.out _).mono ?_); rintro e w1 ⟨rfl, n, rfl⟩)
      go_quiet (fail)
      go_wp2_with (first
        | (go_at_call 111; (with_reducible refine (HL.out _).mono ?_); rintro e w2 ⟨rfl, rfl⟩)
        | (go_at_call 60; (with_reducible refine (HC.out _).mono ?_); rintro e w3 ⟨rfl, m, rfl⟩))
      go_ret
      refine ⟨rfl, BlkIs.drewN HA.out _, (Kept.refl _ _).drewN _⟩
    | some x =>
      unfold ftRet at HC
      dsimp only [Option.getD, Option.isSome] at HC ⊢
      have hst1 := Lib.hid (hst x)
      rw [if_neg (show ¬ ftLst 3 = true by decide)]
      clear hst hlk hok h
      generalize str (s.like 3) = z at *
      generalize str l = y at *
      generalize str x = x1 at *
      go_enter Tryz.func152, Tryz.ntmps152
      go_upto_region 4 with (go_at_call 102; (with_reducible refine (HM.out _).mono ?_); rintro e w1 ⟨rfl, n, rfl⟩)
      go_quiet (fail)
      go_wp2_with (first
        | (go_at_call 111; (with_reducible refine (HL.out _).mono ?_); rintro e w2 ⟨rfl, rfl⟩)
        | (go_at_call 60; (with_reducible refine (HC.out _).mono ?_); rintro e w3 ⟨rfl, m, rfl⟩))
      go_ret
      exact ⟨rfl, BlkIs.drewN hst1.out _, ((Kept.refl [C] w).setCell (.inl (by simp)) _).drewN _⟩
  | false =>
    rw [if_pos (by decide)] at HC
    cases p with
    | none =>
      unfold ftRet at HC
      dsimp only [Option.getD, Option.isSome] at HC
      generalize str (s.like 3) = z at *
      generalize str l = y at *
      clear hst hlk hok h
      go_enter Tryz.func152, Tryz.ntmps152
      go_upto_region 4 with (go_at_call 102; (with_reducible refine (HM.out _).mono ?_); rintro e w1 ⟨rfl, n, rfl⟩)
      go_quiet (fail)
      go_wp2_with (first
        | (go_at_call 111; (with_reducible refine (HL.out _).mono ?_); rintro e w2 ⟨rfl, rfl⟩)
        | (go_at_call 60; (with_reducible refine (HC.out _).mono ?_); rintro e w3 ⟨rfl, m, rfl⟩))
      go_ret
      refine ⟨rfl, BlkIs.drewN HA.out _, (Kept.refl _ _).drewN _⟩
    | some x =>
      unfold ftRet at HC
      dsimp only [Option.getD, Option.isSome] at HC ⊢
      have hst1 := Lib.hid (hst x)
      rw [if_neg (show ¬ ftLst 3 = true by decide)]
      clear hst hlk hok h
      generalize str (s.like 3) = z at *
      generalize str l = y at *
      generalize str x = x1 at *
      go_enter Tryz.func152, Tryz.ntmps152
      go_upto_region 4 with (go_at_call 102; (with_reducible refine (HM.out _).mono ?_); rintro e w1 ⟨rfl, n, rfl⟩)
      go_quiet (fail)
      go_wp2_with (first
        | (go_at_call 111; (with_reducible refine (HL.out _).mono ?_); rintro e w2 ⟨rfl, rfl⟩)
        | (go_at_call 60; (with_reducible refine (HC.out _).mono ?_); rintro e w3 ⟨rfl, m, rfl⟩))
      go_ret
      exact ⟨rfl, BlkIs.drewN hst1.out _, ((Kept.refl [C] w).setCell (.inl (by simp)) _).drewN _⟩
set_option maxHeartbeats 2000000 in
set_option maxRecDepth 100000 in
theorem ngSettle_6 (s : NgS) (due : Value) (l : List UInt8) (hl : l.length ≤ 9223372036854775807) (hok : s.Ok) (C : Nat) (w : World) (h : NgAt s due C w) (hm : ftMay 6 l = true) :
    Calls Tryz.prog 152 #[.pointer (some ⟨C, 0, none⟩), .int .i64 6, .string (str l)] w fun e w' => e = .returned (.string (str (s.says 6 l))) ∧ NgAt (s.settled 6 l) due C w' ∧ Kept [C] w w' := by
  have HM := Lib.hid (fun W => ftMay_any 6 l hl W)
  rw [hm] at HM
  have HL := Lib.hid (fun W => ftList_any 6 W)
  rw [show (ftSpan 6).isSome = true from rfl] at HL
  have hlk := hok.like 6
  have HA := Lib.hid h
  have f0 : w.cell? ⟨C, 0, none⟩ = some (.bool s.server) := BlkIs.cell h 0
  have f2 : w.cell? ⟨C, 26, none⟩ = some (.string (str (s.like 6))) := BlkIs.cell h 26
  have f3 : w.cell? ⟨C, 28, none⟩ = some (.string (str (s.theirs 6))) := BlkIs.cell h 28
  have ff := BlkIs.free h 28
  have hst : ∀ x, BlkIs (ngCells { s with theirs := upd s.theirs 6 x } due) 111 C (w.setCell ⟨C, 28, none⟩ (.string (str x))) := fun x => BlkIs.set h 28 (.string (str x))
  unfold NgS.says NgS.settled
  have key : ∀ (sv : Bool) (p : Option (List UInt8)), s.server = sv → s.pick 6 l = p → Hid (∀ W, Calls Tryz.prog 60 (if sv = true ∨ ftLst 6 = false then #[.int .i64 6, .string (str (s.like 6)), .string (str l)] else #[.int .i64 6, .string (str l), .string (str (s.like 6))]) W fun e w' => e = .returned (ftRet p) ∧ ∃ n, w' = W.drewN n) := fun sv p hsv hp => Lib.hid (fun W => by
    have hp2 := hp
    unfold NgS.pick at hp2
    rw [if_pos hm, hsv] at hp2
    by_cases hc : sv = true ∨ ftLst 6 = false
    · rw [if_pos hc] at hp2 ⊢
      rw [← hp2]
      exact ftChoose_any 6 (s.like 6) l (by omega) hl W
    · rw [if_neg hc] at hp2 ⊢
      rw [← hp2]
      exact ftChoose_any 6 l (s.like 6) hl (by omega) W)
  obtain ⟨sv, hsv⟩ : ∃ sv, s.server = sv := ⟨_, rfl⟩
  obtain ⟨p, hp⟩ : ∃ p, s.pick 6 l = p := ⟨_, rfl⟩
  have HC := key sv p hsv hp
  rw [hsv] at f0
  rw [hp]
  have HPL : Hid (∀ x, p = some x → x.length ≤ 16) := Lib.hid (fun x hx => (NgS.pick_len (hp.trans hx)).1)
  clear key hsv hp hm
  cases sv with
  | true =>
    rw [if_pos (by decide)] at HC
    cases p with
    | none =>
      unfold ftRet at HC
      dsimp only [Option.getD, Option.isSome] at HC
      generalize str (s.like 6) = z at *
      generalize str l = y at *
      clear hst hlk hok h
      go_enter Tryz.func152, Tryz.ntmps152
      go_upto_region 4 with (go_at_call 102; (with_reducible refine (HM.out _).mono ?_); rintro e w1 ⟨rfl, n, rfl⟩)
      go_quiet (fail)
      go_wp2_with (first
        | (go_at_call 111; (with_reducible refine (HL.out _).mono ?_); rintro e w2 ⟨rfl, rfl⟩)
        | (go_at_call 60; (with_reducible refine (HC.out _).mono ?_); rintro e w3 ⟨rfl, m, rfl⟩))
      go_ret
      refine ⟨rfl, BlkIs.drewN HA.out _, (Kept.refl _ _).drewN _⟩
    | some x =>
      unfold ftRet at HC
      dsimp only [Option.getD, Option.isSome] at HC ⊢
      have hst1 := Lib.hid (hst x)
      rw [if_pos (show ftLst 6 = true from rfl)]
      have happ : str x ++ str (s.like 6) = str (x ++ s.like 6) := rfl
      obtain ⟨r, hr⟩ : ∃ r, str (x ++ s.like 6) = r := ⟨_, rfl⟩
      rw [hr] at happ ⊢
      clear hr
      have hs1 : (str x).size ≤ 16 := HPL.out x rfl
      have hs2 : (str (s.like 6)).size ≤ 16 := hok.like 6
      clear hst hlk hok h
      generalize str (s.like 6) = z at *
      generalize str l = y at *
      generalize str x = x1 at *
      go_enter Tryz.func152, Tryz.ntmps152
      go_upto_region 4 with (go_at_call 102; (with_reducible refine (HM.out _).mono ?_); rintro e w1 ⟨rfl, n, rfl⟩)
      go_quiet (fail)
      go_wp2_with (first
        | (go_at_call 111; (with_reducible refine (HL.out _).mono ?_); rintro e w2 ⟨rfl, rfl⟩)
        | (go_at_call 60; (with_reducible refine (HC.out _).mono ?_); rintro e w3 ⟨rfl, m, rfl⟩))
      go_ret
      exact ⟨rfl, BlkIs.drewN hst1.out _, ((Kept.refl [C] w).setCell (.inl (by simp)) _).drewN _⟩
  | false =>
    rw [if_neg (by decide)] at HC
    cases p with
    | none =>
      unfold ftRet at HC
      dsimp only [Option.getD, Option.isSome] at HC
      generalize str (s.like 6) = z at *
      generalize str l = y at *
      clear hst hlk hok h
      go_enter Tryz.func152, Tryz.ntmps152
      go_upto_region 4 with (go_at_call 102; (with_reducible refine (HM.out _).mono ?_); rintro e w1 ⟨rfl, n, rfl⟩)
      go_quiet (fail)
      go_wp2_with (first
        | (go_at_call 111; (with_reducible refine (HL.out _).mono ?_); rintro e w2 ⟨rfl, rfl⟩)
        | (go_at_call 60; (with_reducible refine (HC.out _).mono ?_); rintro e w3 ⟨rfl, m, rfl⟩))
      go_ret
      refine ⟨rfl, BlkIs.drewN HA.out _, (Kept.refl _ _).drewN _⟩
    | some x =>
      unfold ftRet at HC
      dsimp only [Option.getD, Option.isSome] at HC ⊢
      have hst1 := Lib.hid (hst x)
      rw [if_pos (show ftLst 6 = true from rfl)]
      have happ : str x ++ str (s.like 6) = str (x ++ s.like 6) := rfl
      obtain ⟨r, hr⟩ : ∃ r, str (x ++ s.like 6) = r := ⟨_, rfl⟩
      rw [hr] at happ ⊢
      clear hr
      have hs1 : (str x).size ≤ 16 := HPL.out x rfl
      have hs2 : (str (s.like 6)).size ≤ 16 := hok.like 6
      clear hst hlk hok h
      generalize str (s.like 6) = z at *
      generalize str l = y at *
      generalize str x = x1 at *
      go_enter Tryz.func152, Tryz.ntmps152
      go_upto_region 4 with (go_at_call 102; (with_reducible refine (HM.out _).mono ?_); rintro e w1 ⟨rfl, n, rfl⟩)
      go_quiet (fail)
      go_wp2_with (first
        | (go_at_call 111; (with_reducible refine (HL.out _).mono ?_); rintro e w2 ⟨rfl, rfl⟩)
        | (go_at_call 60; (with_reducible refine (HC.out _).mono ?_); rintro e w3 ⟨rfl, m, rfl⟩))
      go_ret
      exact ⟨rfl, BlkIs.drewN hst1.out _, ((Kept.refl [C] w).setCell (.inl (by simp)) _).drewN _⟩
set_option maxHeartbeats 2000000 in
set_option maxRecDepth 100000 in
theorem ngSettle_8 (s : NgS) (due : Value) (l : List UInt8) (hl : l.length ≤ 9223372036854775807) (hok : s.Ok) (C : Nat) (w : World) (h : NgAt s due C w) (hm : ftMay 8 l = true) :
    Calls Tryz.prog 152 #[.pointer (some ⟨C, 0, none⟩), .int .i64 8, .string (str l)] w fun e w' => e = .returned (.string (str (s.says 8 l))) ∧ NgAt (s.settled 8 l) due C w' ∧ Kept [C] w w' := by
  have HM := Lib.hid (fun W => ftMay_any 8 l hl W)
  rw [hm] at HM
  have HL := Lib.hid (fun W => ftList_any 8 W)
  rw [show (ftSpan 8).isSome = true from rfl] at HL
  have hlk := hok.like 8
  have HA := Lib.hid h
  have f0 : w.cell? ⟨C, 0, none⟩ = some (.bool s.server) := BlkIs.cell h 0
  have f2 : w.cell? ⟨C, 34, none⟩ = some (.string (str (s.like 8))) := BlkIs.cell h 34
  have f3 : w.cell? ⟨C, 36, none⟩ = some (.string (str (s.theirs 8))) := BlkIs.cell h 36
  have ff := BlkIs.free h 36
  have hst : ∀ x, BlkIs (ngCells { s with theirs := upd s.theirs 8 x } due) 111 C (w.setCell ⟨C, 36, none⟩ (.string (str x))) := fun x => BlkIs.set h 36 (.string (str x))
  unfold NgS.says NgS.settled
  have key : ∀ (sv : Bool) (p : Option (List UInt8)), s.server = sv → s.pick 8 l = p → Hid (∀ W, Calls Tryz.prog 60 (if sv = true ∨ ftLst 8 = false then #[.int .i64 8, .string (str (s.like 8)), .string (str l)] else #[.int .i64 8, .string (str l), .string (str (s.like 8))]) W fun e w' => e = .returned (ftRet p) ∧ ∃ n, w' = W.drewN n) := fun sv p hsv hp => Lib.hid (fun W => by
    have hp2 := hp
    unfold NgS.pick at hp2
    rw [if_pos hm, hsv] at hp2
    by_cases hc : sv = true ∨ ftLst 8 = false
    · rw [if_pos hc] at hp2 ⊢
      rw [← hp2]
      exact ftChoose_any 8 (s.like 8) l (by omega) hl W
    · rw [if_neg hc] at hp2 ⊢
      rw [← hp2]
      exact ftChoose_any 8 l (s.like 8) hl (by omega) W)
  obtain ⟨sv, hsv⟩ : ∃ sv, s.server = sv := ⟨_, rfl⟩
  obtain ⟨p, hp⟩ : ∃ p, s.pick 8 l = p := ⟨_, rfl⟩
  have HC := key sv p hsv hp
  rw [hsv] at f0
  rw [hp]
  have HPL : Hid (∀ x, p = some x → x.length ≤ 16) := Lib.hid (fun x hx => (NgS.pick_len (hp.trans hx)).1)
  clear key hsv hp hm
  cases sv with
  | true =>
    rw [if_pos (by decide)] at HC
    cases p with
    | none =>
      unfold ftRet at HC
      dsimp only [Option.getD, Option.isSome] at HC
      generalize str (s.like 8) = z at *
      generalize str l = y at *
      clear hst hlk hok h
      go_enter Tryz.func152, Tryz.ntmps152
      go_upto_region 4 with (go_at_call 102; (with_reducible refine (HM.out _).mono ?_); rintro e w1 ⟨rfl, n, rfl⟩)
      go_quiet (fail)
      go_wp2_with (first
        | (go_at_call 111; (with_reducible refine (HL.out _).mono ?_); rintro e w2 ⟨rfl, rfl⟩)
        | (go_at_call 60; (with_reducible refine (HC.out _).mono ?_); rintro e w3 ⟨rfl, m, rfl⟩))
      go_ret
      refine ⟨rfl, BlkIs.drewN HA.out _, (Kept.refl _ _).drewN _⟩
    | some x =>
      unfold ftRet at HC
      dsimp only [Option.getD, Option.isSome] at HC ⊢
      have hst1 := Lib.hid (hst x)
      rw [if_pos (show ftLst 8 = true from rfl)]
      have happ : str x ++ str (s.like 8) = str (x ++ s.like 8) := rfl
      obtain ⟨r, hr⟩ : ∃ r, str (x ++ s.like 8) = r := ⟨_, rfl⟩
      rw [hr] at happ ⊢
      clear hr
      have hs1 : (str x).size ≤ 16 := HPL.out x rfl
      have hs2 : (str (s.like 8)).size ≤ 16 := hok.like 8
      clear hst hlk hok h
      generalize str (s.like 8) = z at *
      generalize str l = y at *
      generalize str x = x1 at *
      go_enter Tryz.func152, Tryz.ntmps152
      go_upto_region 4 with (go_at_call 102; (with_reducible refine (HM.out _).mono ?_); rintro e w1 ⟨rfl, n, rfl⟩)
      go_quiet (fail)
      go_wp2_with (first
        | (go_at_call 111; (with_reducible refine (HL.out _).mono ?_); rintro e w2 ⟨rfl, rfl⟩)
        | (go_at_call 60; (with_reducible refine (HC.out _).mono ?_); rintro e w3 ⟨rfl, m, rfl⟩))
      go_ret
      exact ⟨rfl, BlkIs.drewN hst1.out _, ((Kept.refl [C] w).setCell (.inl (by simp)) _).drewN _⟩
  | false =>
    rw [if_neg (by decide)] at HC
    cases p with
    | none =>
      unfold ftRet at HC
      dsimp only [Option.getD, Option.isSome] at HC
      generalize str (s.like 8) = z at *
      generalize str l = y at *
      clear hst hlk hok h
      go_enter Tryz.func152, Tryz.ntmps152
      go_upto_region 4 with (go_at_call 102; (with_reducible refine (HM.out _).mono ?_); rintro e w1 ⟨rfl, n, rfl⟩)
      go_quiet (fail)
      go_wp2_with (first
        | (go_at_call 111; (with_reducible refine (HL.out _).mono ?_); rintro e w2 ⟨rfl, rfl⟩)
        | (go_at_call 60; (with_reducible refine (HC.out _).mono ?_); rintro e w3 ⟨rfl, m, rfl⟩))
      go_ret
      refine ⟨rfl, BlkIs.drewN HA.out _, (Kept.refl _ _).drewN _⟩
    | some x =>
      unfold ftRet at HC
      dsimp only [Option.getD, Option.isSome] at HC ⊢
      have hst1 := Lib.hid (hst x)
      rw [if_pos (show ftLst 8 = true from rfl)]
      have happ : str x ++ str (s.like 8) = str (x ++ s.like 8) := rfl
      obtain ⟨r, hr⟩ : ∃ r, str (x ++ s.like 8) = r := ⟨_, rfl⟩
      rw [hr] at happ ⊢
      clear hr
      have hs1 : (str x).size ≤ 16 := HPL.out x rfl
      have hs2 : (str (s.like 8)).size ≤ 16 := hok.like 8
      clear hst hlk hok h
      generalize str (s.like 8) = z at *
      generalize str l = y at *
      generalize str x = x1 at *
      go_enter Tryz.func152, Tryz.ntmps152
      go_upto_region 4 with (go_at_call 102; (with_reducible refine (HM.out _).mono ?_); rintro e w1 ⟨rfl, n, rfl⟩)
      go_quiet (fail)
      go_wp2_with (first
        | (go_at_call 111; (with_reducible refine (HL.out _).mono ?_); rintro e w2 ⟨rfl, rfl⟩)
        | (go_at_call 60; (with_reducible refine (HC.out _).mono ?_); rintro e w3 ⟨rfl, m, rfl⟩))
      go_ret
      exact ⟨rfl, BlkIs.drewN hst1.out _, ((Kept.refl [C] w).setCell (.inl (by simp)) _).drewN _⟩
end Go.Proofs.YtnhlachoimlhhaaGreatDoor

namespace Go.Proofs.YtnhlachoimlhhaaGreatDoor
open Go.ChangeShapes Go.WideShapes Go.ChangeAt Go.RowKit
set_option linter.unusedVariables false
set_option linter.unusedSimpArgs false

theorem ftMay_known {f : Int} {l : List UInt8} (h : ftMay f l = true) : ftKnown f = true := by
  unfold ftMay at h
  unfold ftKnown
  by_cases h3 : f = 3
  · rw [decide_eq_true h3]; rfl
  · rw [if_neg h3] at h
    cases hs : ftSpan f with
    | none => rw [hs] at h; cases h
    | some p => simp
set_option maxHeartbeats 2000000 in
set_option maxRecDepth 100000 in
theorem ngSettle_any (s : NgS) (due : Value) (f : Int) (l : List UInt8) (hl : l.length ≤ 9223372036854775807) (hok : s.Ok) (C : Nat) (w : World) (h : NgAt s due C w) :
    Calls Tryz.prog 152 #[.pointer (some ⟨C, 0, none⟩), .int .i64 f, .string (str l)] w fun e w' => e = .returned (.string (str (s.says f l))) ∧ NgAt (s.settled f l) due C w' ∧ Kept [C] w w' := by
  cases hm : ftMay f l with
  | true =>
    rcases ftKnown_cases (ftMay_known hm) with rfl | rfl | rfl | rfl
    · exact ngSettle_1 s due l hl hok C w h hm
    · exact ngSettle_3 s due l hl hok C w h hm
    · exact ngSettle_6 s due l hl hok C w h hm
    · exact ngSettle_8 s due l hl hok C w h hm
  | false =>
    have hp : s.pick f l = none := by
      unfold NgS.pick
      rw [if_neg (by rw [hm]; decide)]
    unfold NgS.says NgS.settled
    rw [hp]
    have HM := Lib.hid (fun W => ftMay_any f l hl W)
    rw [hm] at HM
    have HA := Lib.hid h
    clear hm hp h hl
    generalize str l = y at *
    go_enter Tryz.func152, Tryz.ntmps152
    go_wp2_with (go_at_call 102; (with_reducible refine (HM.out _).mono ?_); rintro e w1 ⟨rfl, n, rfl⟩)
    go_ret
    exact ⟨rfl, BlkIs.drewN HA.out _, (Kept.refl _ _).drewN _⟩
set_option maxHeartbeats 2000000 in
set_option maxRecDepth 100000 in
theorem ngConfirm_1 (s : NgS) (due : Value) (l : List UInt8) (hl : l.length ≤ 9223372036854775807) (hok : s.Ok) (C : Nat) (w : World) (h : NgAt s due C w) :
    Calls Tryz.prog 153 #[.pointer (some ⟨C, 0, none⟩), .int .i64 1, .string (str l)] w fun e w' => e = .returned (.bool (s.confirm 1 l).isSome) ∧ NgAt ((s.confirm 1 l).getD s) due C w' ∧ Kept [C] w w' := by
  have HK := Lib.hid (fun W => ftKnown_any 1 W)
  rw [show ftKnown 1 = true from rfl] at HK
  have HL := Lib.hid (fun W => ftList_any 1 W)
  rw [show (ftSpan 1).isSome = true from rfl] at HL
  have hwl := hok.want_len 1
  have HA := Lib.hid h
  have f0 : w.cell? ⟨C, 5, none⟩ = some (.string (str (s.want 1))) := BlkIs.cell h 5
  have f2 : w.cell? ⟨C, 7, none⟩ = some (.string (str (s.mine 1))) := BlkIs.cell h 7
  have ff0 := BlkIs.free h 5
  have ff2 := BlkIs.free h 7
  have hst0 := Lib.hid (show BlkIs (ngCells { s with want := upd s.want 1 [] } due) 111 C (w.setCell ⟨C, 5, none⟩ (.string ⟨#[]⟩)) from BlkIs.set h 5 (.string ⟨#[]⟩))
  have hst2 : ∀ x, BlkIs (ngCells { s with mine := upd s.mine 1 x, want := upd s.want 1 [] } due) 111 C ((w.setCell ⟨C, 7, none⟩ (.string (str x))).setCell ⟨C, 5, none⟩ (.string ⟨#[]⟩)) := fun x => BlkIs.set (BlkIs.set h 7 (.string (str x))) 5 (.string ⟨#[]⟩)
  by_cases hw : s.want 1 = []
  · have HR : Hid (s.confirm 1 l = some s) := Lib.hid (by unfold NgS.confirm; rw [if_neg (fun h => h.2 hw)])
    rw [HR.out]
    rw [hw, show str [] = ⟨#[]⟩ from rfl] at f0
    generalize str l = y at *
    clear hst0 hst2 hwl hok h hw f2
    go_enter Tryz.func153, Tryz.ntmps153
    go_wp2_with (go_at_call 74; (with_reducible refine (HK.out _).mono ?_); rintro e w1 ⟨rfl, rfl⟩)
    go_ret
    exact ⟨rfl, HA.out, Kept.refl _ _⟩
  · have hwe := str_ne hw
    cases l with
    | nil =>
      have HR : Hid (s.confirm 1 [] = some { s with want := upd s.want 1 [] }) := Lib.hid (by unfold NgS.confirm; rw [if_pos ⟨rfl, hw⟩])
      rw [HR.out, show str [] = ⟨#[]⟩ from rfl]
      generalize str (s.want 1) = z at *
      clear hst2 hwl hok h hw f2
      go_enter Tryz.func153, Tryz.ntmps153
      go_wp2_with (go_at_call 74; (with_reducible refine (HK.out _).mono ?_); rintro e w1 ⟨rfl, rfl⟩)
      go_ret
      exact ⟨rfl, hst0.out, (Kept.refl [C] w).setCell (.inl (by simp)) _⟩
    | cons b r =>
      have hle := str_ne (l := b :: r) (by simp)
      have hsl : ∀ W, (Instr.slice 9 (.string (str (b :: r))) none (some (.int .i64 1)) none).run Tryz.prog W = .ok (.string (str [b])) W := fun W => str_pre (b :: r) 1 (by simp) hl W
      have HH := Lib.hid (fun W => ngHas_list 1 rfl (s.want 1) (by omega) b W)
      have HR : Hid (s.confirm 1 (b :: r) = if b ∈ s.want 1 then some { s with mine := upd s.mine 1 [b], want := upd s.want 1 [] } else none) := Lib.hid (by
        unfold NgS.confirm
        rw [if_pos ⟨rfl, hw⟩]
        dsimp only
        rw [if_pos (show ftLst 1 = true from rfl)])
      rw [HR.out]
      have HST := Lib.hid (hst2 [b])
      have hys : 1 ≤ (str (b :: r)).size := by
        show 1 ≤ (b :: r).length
        simp
      generalize str (b :: r) = y at *
      generalize str [b] = x at *
      generalize str (s.want 1) = z at *
      clear hst2 hwl hok h hw hl HR hst0
      by_cases hin : b ∈ s.want 1
      · rw [decide_eq_true hin] at HH
        rw [if_pos hin]
        clear hin
        go_enter Tryz.func153, Tryz.ntmps153
        go_wp2_with (first
          | (go_at_call 74; (with_reducible refine (HK.out _).mono ?_); rintro e w1 ⟨rfl, rfl⟩)
          | (go_at_call 111; (with_reducible refine (HL.out _).mono ?_); rintro e w2 ⟨rfl, rfl⟩)
          | (go_at_call 189; (with_reducible refine (HH.out _).mono ?_); rintro e w3 ⟨rfl, rfl⟩))
        go_ret
        exact ⟨rfl, HST.out, ((Kept.refl [C] w).setCell (.inl (by simp)) _).setCell (.inl (by simp)) _⟩
      · rw [decide_eq_false hin] at HH
        rw [if_neg hin]
        clear hin
        go_enter Tryz.func153, Tryz.ntmps153
        go_wp2_with (first
          | (go_at_call 74; (with_reducible refine (HK.out _).mono ?_); rintro e w1 ⟨rfl, rfl⟩)
          | (go_at_call 111; (with_reducible refine (HL.out _).mono ?_); rintro e w2 ⟨rfl, rfl⟩)
          | (go_at_call 189; (with_reducible refine (HH.out _).mono ?_); rintro e w3 ⟨rfl, rfl⟩))
        go_ret
        exact ⟨rfl, HA.out, Kept.refl _ _⟩
set_option maxHeartbeats 2000000 in
set_option maxRecDepth 100000 in
theorem ngConfirm_3 (s : NgS) (due : Value) (l : List UInt8) (hl : l.length ≤ 9223372036854775807) (hok : s.Ok) (C : Nat) (w : World) (h : NgAt s due C w) :
    Calls Tryz.prog 153 #[.pointer (some ⟨C, 0, none⟩), .int .i64 3, .string (str l)] w fun e w' => e = .returned (.bool (s.confirm 3 l).isSome) ∧ NgAt ((s.confirm 3 l).getD s) due C w' ∧ Kept [C] w w' := by
  have HK := Lib.hid (fun W => ftKnown_any 3 W)
  rw [show ftKnown 3 = true from rfl] at HK
  have HL := Lib.hid (fun W => ftList_any 3 W)
  rw [show (ftSpan 3).isSome = false from rfl] at HL
  have hwl := hok.want_len 3
  have HA := Lib.hid h
  have f0 : w.cell? ⟨C, 13, none⟩ = some (.string (str (s.want 3))) := BlkIs.cell h 13
  have f2 : w.cell? ⟨C, 15, none⟩ = some (.string (str (s.mine 3))) := BlkIs.cell h 15
  have ff0 := BlkIs.free h 13
  have ff2 := BlkIs.free h 15
  have hst0 := Lib.hid (show BlkIs (ngCells { s with want := upd s.want 3 [] } due) 111 C (w.setCell ⟨C, 13, none⟩ (.string ⟨#[]⟩)) from BlkIs.set h 13 (.string ⟨#[]⟩))
  have hst2 : ∀ x, BlkIs (ngCells { s with mine := upd s.mine 3 x, want := upd s.want 3 [] } due) 111 C ((w.setCell ⟨C, 15, none⟩ (.string (str x))).setCell ⟨C, 13, none⟩ (.string ⟨#[]⟩)) := fun x => BlkIs.set (BlkIs.set h 15 (.string (str x))) 13 (.string ⟨#[]⟩)
  by_cases hw : s.want 3 = []
  · have HR : Hid (s.confirm 3 l = some s) := Lib.hid (by unfold NgS.confirm; rw [if_neg (fun h => h.2 hw)])
    rw [HR.out]
    rw [hw, show str [] = ⟨#[]⟩ from rfl] at f0
    generalize str l = y at *
    clear hst0 hst2 hwl hok h hw f2
    go_enter Tryz.func153, Tryz.ntmps153
    go_wp2_with (go_at_call 74; (with_reducible refine (HK.out _).mono ?_); rintro e w1 ⟨rfl, rfl⟩)
    go_ret
    exact ⟨rfl, HA.out, Kept.refl _ _⟩
  · have hwe := str_ne hw
    cases l with
    | nil =>
      have HR : Hid (s.confirm 3 [] = some { s with want := upd s.want 3 [] }) := Lib.hid (by unfold NgS.confirm; rw [if_pos ⟨rfl, hw⟩])
      rw [HR.out, show str [] = ⟨#[]⟩ from rfl]
      generalize str (s.want 3) = z at *
      clear hst2 hwl hok h hw f2
      go_enter Tryz.func153, Tryz.ntmps153
      go_wp2_with (go_at_call 74; (with_reducible refine (HK.out _).mono ?_); rintro e w1 ⟨rfl, rfl⟩)
      go_ret
      exact ⟨rfl, hst0.out, (Kept.refl [C] w).setCell (.inl (by simp)) _⟩
    | cons b r =>
      have hle := str_ne (l := b :: r) (by simp)
      have HH := Lib.hid (fun W => ngHas_one 3 rfl (s.want 3) (b :: r) W)
      have HR : Hid (s.confirm 3 (b :: r) = if s.want 3 = b :: r then some { s with mine := upd s.mine 3 (b :: r), want := upd s.want 3 [] } else none) := Lib.hid (by
        unfold NgS.confirm
        rw [if_pos ⟨rfl, hw⟩]
        dsimp only
        rw [if_neg (show ¬ ftLst 3 = true by decide)])
      rw [HR.out]
      have HST := Lib.hid (hst2 (b :: r))
      clear hst2 hwl hok h hw hl HR hst0
      by_cases hin : s.want 3 = b :: r
      · rw [decide_eq_true hin] at HH
        rw [if_pos hin]
        clear hin
        generalize str (b :: r) = y at *
        generalize str (s.want 3) = z at *
        go_enter Tryz.func153, Tryz.ntmps153
        go_wp2_with (first
          | (go_at_call 74; (with_reducible refine (HK.out _).mono ?_); rintro e w1 ⟨rfl, rfl⟩)
          | (go_at_call 111; (with_reducible refine (HL.out _).mono ?_); rintro e w2 ⟨rfl, rfl⟩)
          | (go_at_call 189; (with_reducible refine (HH.out _).mono ?_); rintro e w3 ⟨rfl, rfl⟩))
        go_ret
        exact ⟨rfl, HST.out, ((Kept.refl [C] w).setCell (.inl (by simp)) _).setCell (.inl (by simp)) _⟩
      · rw [decide_eq_false hin] at HH
        rw [if_neg hin]
        clear hin
        generalize str (b :: r) = y at *
        generalize str (s.want 3) = z at *
        go_enter Tryz.func153, Tryz.ntmps153
        go_wp2_with (first
          | (go_at_call 74; (with_reducible refine (HK.out _).mono ?_); rintro e w1 ⟨rfl, rfl⟩)
          | (go_at_call 111; (with_reducible refine (HL.out _).mono ?_); rintro e w2 ⟨rfl, rfl⟩)
          | (go_at_call 189; (with_reducible refine (HH.out _).mono ?_); rintro e w3 ⟨rfl, rfl⟩))
        go_ret
        exact ⟨rfl, HA.out, Kept.refl _ _⟩
set_option maxHeartbeats 2000000 in
set_option maxRecDepth 100000 in
theorem ngConfirm_6 (s : NgS) (due : Value) (l : List UInt8) (hl : l.length ≤ 9223372036854775807) (hok : s.Ok) (C : Nat) (w : World) (h : NgAt s due C w) :
    Calls Tryz.prog 153 #[.pointer (some ⟨C, 0, none⟩), .int .i64 6, .string (str l)] w fun e w' => e = .returned (.bool (s.confirm 6 l).isSome) ∧ NgAt ((s.confirm 6 l).getD s) due C w' ∧ Kept [C] w w' := by
  have HK := Lib.hid (fun W => ftKnown_any 6 W)
  rw [show ftKnown 6 = true from rfl] at HK
  have HL := Lib.hid (fun W => ftList_any 6 W)
  rw [show (ftSpan 6).isSome = true from rfl] at HL
  have hwl := hok.want_len 6
  have HA := Lib.hid h
  have f0 : w.cell? ⟨C, 25, none⟩ = some (.string (str (s.want 6))) := BlkIs.cell h 25
  have f2 : w.cell? ⟨C, 27, none⟩ = some (.string (str (s.mine 6))) := BlkIs.cell h 27
  have ff0 := BlkIs.free h 25
  have ff2 := BlkIs.free h 27
  have hst0 := Lib.hid (show BlkIs (ngCells { s with want := upd s.want 6 [] } due) 111 C (w.setCell ⟨C, 25, none⟩ (.string ⟨#[]⟩)) from BlkIs.set h 25 (.string ⟨#[]⟩))
  have hst2 : ∀ x, BlkIs (ngCells { s with mine := upd s.mine 6 x, want := upd s.want 6 [] } due) 111 C ((w.setCell ⟨C, 27, none⟩ (.string (str x))).setCell ⟨C, 25, none⟩ (.string ⟨#[]⟩)) := fun x => BlkIs.set (BlkIs.set h 27 (.string (str x))) 25 (.string ⟨#[]⟩)
  by_cases hw : s.want 6 = []
  · have HR : Hid (s.confirm 6 l = some s) := Lib.hid (by unfold NgS.confirm; rw [if_neg (fun h => h.2 hw)])
    rw [HR.out]
    rw [hw, show str [] = ⟨#[]⟩ from rfl] at f0
    generalize str l = y at *
    clear hst0 hst2 hwl hok h hw f2
    go_enter Tryz.func153, Tryz.ntmps153
    go_wp2_with (go_at_call 74; (with_reducible refine (HK.out _).mono ?_); rintro e w1 ⟨rfl, rfl⟩)
    go_ret
    exact ⟨rfl, HA.out, Kept.refl _ _⟩
  · have hwe := str_ne hw
    cases l with
    | nil =>
      have HR : Hid (s.confirm 6 [] = some { s with want := upd s.want 6 [] }) := Lib.hid (by unfold NgS.confirm; rw [if_pos ⟨rfl, hw⟩])
      rw [HR.out, show str [] = ⟨#[]⟩ from rfl]
      generalize str (s.want 6) = z at *
      clear hst2 hwl hok h hw f2
      go_enter Tryz.func153, Tryz.ntmps153
      go_wp2_with (go_at_call 74; (with_reducible refine (HK.out _).mono ?_); rintro e w1 ⟨rfl, rfl⟩)
      go_ret
      exact ⟨rfl, hst0.out, (Kept.refl [C] w).setCell (.inl (by simp)) _⟩
    | cons b r =>
      have hle := str_ne (l := b :: r) (by simp)
      have hsl : ∀ W, (Instr.slice 9 (.string (str (b :: r))) none (some (.int .i64 1)) none).run Tryz.prog W = .ok (.string (str [b])) W := fun W => str_pre (b :: r) 1 (by simp) hl W
      have HH := Lib.hid (fun W => ngHas_list 6 rfl (s.want 6) (by omega) b W)
      have HR : Hid (s.confirm 6 (b :: r) = if b ∈ s.want 6 then some { s with mine := upd s.mine 6 [b], want := upd s.want 6 [] } else none) := Lib.hid (by
        unfold NgS.confirm
        rw [if_pos ⟨rfl, hw⟩]
        dsimp only
        rw [if_pos (show ftLst 6 = true from rfl)])
      rw [HR.out]
      have HST := Lib.hid (hst2 [b])
      have hys : 1 ≤ (str (b :: r)).size := by
        show 1 ≤ (b :: r).length
        simp
      generalize str (b :: r) = y at *
      generalize str [b] = x at *
      generalize str (s.want 6) = z at *
      clear hst2 hwl hok h hw hl HR hst0
      by_cases hin : b ∈ s.want 6
      · rw [decide_eq_true hin] at HH
        rw [if_pos hin]
        clear hin
        go_enter Tryz.func153, Tryz.ntmps153
        go_wp2_with (first
          | (go_at_call 74; (with_reducible refine (HK.out _).mono ?_); rintro e w1 ⟨rfl, rfl⟩)
          | (go_at_call 111; (with_reducible refine (HL.out _).mono ?_); rintro e w2 ⟨rfl, rfl⟩)
          | (go_at_call 189; (with_reducible refine (HH.out _).mono ?_); rintro e w3 ⟨rfl, rfl⟩))
        go_ret
        exact ⟨rfl, HST.out, ((Kept.refl [C] w).setCell (.inl (by simp)) _).setCell (.inl (by simp)) _⟩
      · rw [decide_eq_false hin] at HH
        rw [if_neg hin]
        clear hin
        go_enter Tryz.func153, Tryz.ntmps153
        go_wp2_with (first
          | (go_at_call 74; (with_reducible refine (HK.out _).mono ?_); rintro e w1 ⟨rfl, rfl⟩)
          | (go_at_call 111; (with_reducible refine (HL.out _).mono ?_); rintro e w2 ⟨rfl, rfl⟩)
          | (go_at_call 189; (with_reducible refine (HH.out _).mono ?_); rintro e w3 ⟨rfl, rfl⟩))
        go_ret
        exact ⟨rfl, HA.out, Kept.refl _ _⟩
set_option maxHeartbeats 2000000 in
set_option maxRecDepth 100000 in
theorem ngConfirm_8 (s : NgS) (due : Value) (l : List UInt8) (hl : l.length ≤ 9223372036854775807) (hok : s.Ok) (C : Nat) (w : World) (h : NgAt s due C w) :
    Calls Tryz.prog 153 #[.pointer (some ⟨C, 0, none⟩), .int .i64 8, .string (str l)] w fun e w' => e = .returned (.bool (s.confirm 8 l).isSome) ∧ NgAt ((s.confirm 8 l).getD s) due C w' ∧ Kept [C] w w' := by
  have HK := Lib.hid (fun W => ftKnown_any 8 W)
  rw [show ftKnown 8 = true from rfl] at HK
  have HL := Lib.hid (fun W => ftList_any 8 W)
  rw [show (ftSpan 8).isSome = true from rfl] at HL
  have hwl := hok.want_len 8
  have HA := Lib.hid h
  have f0 : w.cell? ⟨C, 33, none⟩ = some (.string (str (s.want 8))) := BlkIs.cell h 33
  have f2 : w.cell? ⟨C, 35, none⟩ = some (.string (str (s.mine 8))) := BlkIs.cell h 35
  have ff0 := BlkIs.free h 33
  have ff2 := BlkIs.free h 35
  have hst0 := Lib.hid (show BlkIs (ngCells { s with want := upd s.want 8 [] } due) 111 C (w.setCell ⟨C, 33, none⟩ (.string ⟨#[]⟩)) from BlkIs.set h 33 (.string ⟨#[]⟩))
  have hst2 : ∀ x, BlkIs (ngCells { s with mine := upd s.mine 8 x, want := upd s.want 8 [] } due) 111 C ((w.setCell ⟨C, 35, none⟩ (.string (str x))).setCell ⟨C, 33, none⟩ (.string ⟨#[]⟩)) := fun x => BlkIs.set (BlkIs.set h 35 (.string (str x))) 33 (.string ⟨#[]⟩)
  by_cases hw : s.want 8 = []
  · have HR : Hid (s.confirm 8 l = some s) := Lib.hid (by unfold NgS.confirm; rw [if_neg (fun h => h.2 hw)])
    rw [HR.out]
    rw [hw, show str [] = ⟨#[]⟩ from rfl] at f0
    generalize str l = y at *
    clear hst0 hst2 hwl hok h hw f2
    go_enter Tryz.func153, Tryz.ntmps153
    go_wp2_with (go_at_call 74; (with_reducible refine (HK.out _).mono ?_); rintro e w1 ⟨rfl, rfl⟩)
    go_ret
    exact ⟨rfl, HA.out, Kept.refl _ _⟩
  · have hwe := str_ne hw
    cases l with
    | nil =>
      have HR : Hid (s.confirm 8 [] = some { s with want := upd s.want 8 [] }) := Lib.hid (by unfold NgS.confirm; rw [if_pos ⟨rfl, hw⟩])
      rw [HR.out, show str [] = ⟨#[]⟩ from rfl]
      generalize str (s.want 8) = z at *
      clear hst2 hwl hok h hw f2
      go_enter Tryz.func153, Tryz.ntmps153
      go_wp2_with (go_at_call 74; (with_reducible refine (HK.out _).mono ?_); rintro e w1 ⟨rfl, rfl⟩)
      go_ret
      exact ⟨rfl, hst0.out, (Kept.refl [C] w).setCell (.inl (by simp)) _⟩
    | cons b r =>
      have hle := str_ne (l := b :: r) (by simp)
      have hsl : ∀ W, (Instr.slice 9 (.string (str (b :: r))) none (some (.int .i64 1)) none).run Tryz.prog W = .ok (.string (str [b])) W := fun W => str_pre (b :: r) 1 (by simp) hl W
      have HH := Lib.hid (fun W => ngHas_list 8 rfl (s.want 8) (by omega) b W)
      have HR : Hid (s.confirm 8 (b :: r) = if b ∈ s.want 8 then some { s with mine := upd s.mine 8 [b], want := upd s.want 8 [] } else none) := Lib.hid (by
        unfold NgS.confirm
        rw [if_pos ⟨rfl, hw⟩]
        dsimp only
        rw [if_pos (show ftLst 8 = true from rfl)])
      rw [HR.out]
      have HST := Lib.hid (hst2 [b])
      have hys : 1 ≤ (str (b :: r)).size := by
        show 1 ≤ (b :: r).length
        simp
      generalize str (b :: r) = y at *
      generalize str [b] = x at *
      generalize str (s.want 8) = z at *
      clear hst2 hwl hok h hw hl HR hst0
      by_cases hin : b ∈ s.want 8
      · rw [decide_eq_true hin] at HH
        rw [if_pos hin]
        clear hin
        go_enter Tryz.func153, Tryz.ntmps153
        go_wp2_with (first
          | (go_at_call 74; (with_reducible refine (HK.out _).mono ?_); rintro e w1 ⟨rfl, rfl⟩)
          | (go_at_call 111; (with_reducible refine (HL.out _).mono ?_); rintro e w2 ⟨rfl, rfl⟩)
          | (go_at_call 189; (with_reducible refine (HH.out _).mono ?_); rintro e w3 ⟨rfl, rfl⟩))
        go_ret
        exact ⟨rfl, HST.out, ((Kept.refl [C] w).setCell (.inl (by simp)) _).setCell (.inl (by simp)) _⟩
      · rw [decide_eq_false hin] at HH
        rw [if_neg hin]
        clear hin
        go_enter Tryz.func153, Tryz.ntmps153
        go_wp2_with (first
          | (go_at_call 74; (with_reducible refine (HK.out _).mono ?_); rintro e w1 ⟨rfl, rfl⟩)
          | (go_at_call 111; (with_reducible refine (HL.out _).mono ?_); rintro e w2 ⟨rfl, rfl⟩)
          | (go_at_call 189; (with_reducible refine (HH.out _).mono ?_); rintro e w3 ⟨rfl, rfl⟩))
        go_ret
        exact ⟨rfl, HA.out, Kept.refl _ _⟩
set_option maxHeartbeats 2000000 in
set_option maxRecDepth 100000 in
theorem ngConfirm_any (s : NgS) (due : Value) (f : Int) (l : List UInt8) (hl : l.length ≤ 9223372036854775807) (hok : s.Ok) (C : Nat) (w : World) (h : NgAt s due C w) :
    Calls Tryz.prog 153 #[.pointer (some ⟨C, 0, none⟩), .int .i64 f, .string (str l)] w fun e w' => e = .returned (.bool (s.confirm f l).isSome) ∧ NgAt ((s.confirm f l).getD s) due C w' ∧ Kept [C] w w' := by
  cases hk : ftKnown f with
  | true =>
    rcases ftKnown_cases hk with rfl | rfl | rfl | rfl
    · exact ngConfirm_1 s due l hl hok C w h
    · exact ngConfirm_3 s due l hl hok C w h
    · exact ngConfirm_6 s due l hl hok C w h
    · exact ngConfirm_8 s due l hl hok C w h
  | false =>
    have HR : Hid (s.confirm f l = some s) := Lib.hid (by unfold NgS.confirm; rw [if_neg (fun h => by rw [hk] at h; exact absurd h.1 (by decide))])
    rw [HR.out]
    have HK := Lib.hid (fun W => ftKnown_any f W)
    rw [hk] at HK
    have HA := Lib.hid h
    clear h hk hl
    generalize str l = y at *
    go_enter Tryz.func153, Tryz.ntmps153
    go_wp2_with (go_at_call 74; (with_reducible refine (HK.out _).mono ?_); rintro e w1 ⟨rfl, rfl⟩)
    go_ret
    exact ⟨rfl, HA.out, Kept.refl _ _⟩
end Go.Proofs.YtnhlachoimlhhaaGreatDoor

namespace Go.Proofs.YtnhlachoimlhhaaGreatDoor
open Go.ChangeShapes Go.WideShapes Go.ChangeAt Go.RowKit
set_option linter.unusedVariables false
set_option linter.unusedSimpArgs false

/-- From w to w' one side has come to hold this; nothing else has turned but the row of its answers. -/
def NgTo (s : NgS) (os : List M.Opt) (C : Nat) (v : Value) (w w' : World) : Prop :=
  ∃ v', OpRow v' os w' ∧ NgAt s v' C w' ∧ Kept (C :: ownB v) w w' ∧ (∀ g, v'.ownBlock = some g → v.ownBlock = some g ∨ w.heap.size ≤ g)
theorem NgTo.kept {s : NgS} {os : List M.Opt} {C : Nat} {v : Value} {w w' : World} (hr : OpRow v os w) (h : NgAt s v C w') (k : Kept [C] w w') (hne : v.ownBlock ≠ some C) : NgTo s os C v w w' :=
  ⟨v, hr.kept k (fun g hg hm => by
    rw [List.mem_singleton.1 hm] at hg
    exact hne hg), h, k.more (fun x hx => by
    rw [List.mem_singleton.1 hx]
    simp), fun g hg => .inl hg⟩
theorem NgTo.trans {s3 : NgS} {os3 : List M.Opt} {C : Nat} {v v2 : Value} {w w2 w3 : World} (k : Kept (C :: ownB v) w w2) (ho : ∀ g, v2.ownBlock = some g → v.ownBlock = some g ∨ w.heap.size ≤ g) (h : NgTo s3 os3 C v2 w2 w3) : NgTo s3 os3 C v w w3 := by
  obtain ⟨v3, a, b, c, d⟩ := h
  refine ⟨v3, a, b, k.trans c (fun x hx => ?_), fun g hg => ?_⟩
  · rcases List.mem_cons.1 hx with rfl | hx
    · exact .inl (by simp)
    · rcases ho x (mem_ownB.1 hx) with h | h
      · exact .inl (List.mem_cons_of_mem _ (mem_ownB.2 h))
      · exact .inr h
  · rcases d g hg with h | h
    · exact ho g h
    · exact .inr (Nat.le_trans k.size h)
/-- append of one option, at a step of a region that draws. -/
theorem step_optA {ops : Array Oper} {o : Oper} {a : Act} {w1 : World} {K : Act → World → Prop} {Q : Exit → Act → World → Prop} {E : Prop} (hgd : o.guard = none) (s x : Operand)
    (ho : o.op = .call { callee := .builtin .append, args := #[s, x], argTypes := #[28, 28] })
    (v : Value) (os : List M.Opt) (hs : a.eval s = v) (w0 : World) (p : M.Opt) (hw : w1 = w0.alloc (OvBox p)) (hb : OpRow v os w0) (H : Nat) (hH : w0.heap.size = H)
    (hx : a.eval x = .slice (some ⟨H, 0, none⟩) 1 1) (hlen : os.length ≤ 1073741824)
    (h : ∀ g cap w', OpRow (.slice (some ⟨g, 0, none⟩) (os.length + 1) cap) (os ++ [p]) w' → Kept (ownB v) w0 w' → (v.ownBlock = some g ∨ g = H + 1) → K (a.put o.dst (.slice (some ⟨g, 0, none⟩) (os.length + 1) cap)) w') :
    if Region.wanted o (yielded ops a.tmps) = true then Oper.wp Tryz.prog o a w1 K Q else E := by
  obtain ⟨i0, hi, hz0, hz1, hz2⟩ := info_parts infoOv2
  subst hH hw
  have hb' : OpRow v os (w0.alloc (OvBox p)) := hb.kept (S := []) ((Kept.refl [] w0).alloc _) (fun _ _ h => by cases h)
  refine step_append_lies _ hgd s x 28 ho 0 106 i0 (.agg #[.int .i64 0, .string ⟨#[]⟩]) 2 24 Tryz.underlying28 hi hz0 hz1 hz2 rfl (by decide) v os.length (ovList os) hs hb' ⟨w0.heap.size, 0, none⟩ 1 1 [.int .i64 p.t, .string (str p.d)] hx rfl (ovBox_cells p w0) (by intro u hu; simp at hu; rcases hu with rfl | rfl <;> rfl) (by decide) (by unfold maxLen; omega) (by omega) (Nat.zero_le _) _ rfl ?_
  intro g cap w' ho' hg hat hlt
  refine h g cap w' ?_ ?_ ?_
  · unfold OpRow
    rw [List.length_append, ovList_snoc]
    exact ho'
  · exact ((Kept.refl (ownB v) w0).alloc _).grown hg (fun k hk => .inl (mem_ownB.2 hk))
  · simpa using hat
theorem ngAnswer_end {s : NgS} {os : List M.Opt} {v : Value} {p : M.Opt} {C g cap : Nat} {w w1 w9 : World} (hne : v.ownBlock ≠ some C) (k1 : Kept [] w w1) (h9 : NgAt s v C w9) (ho : OpRow (.slice (some ⟨g, 0, none⟩) (os.length + 1) cap) (os ++ [p]) w9) (k9 : Kept (ownB v) w1 w9) (hat : v.ownBlock = some g ∨ g = w1.heap.size + 1) :
    NgTo s (os ++ [p]) C v w (w9.setCell ⟨C, 37, none⟩ (.slice (some ⟨g, 0, none⟩) (os.length + 1) cap)) := by
  have kc : Kept [C] w9 (w9.setCell ⟨C, 37, none⟩ (.slice (some ⟨g, 0, none⟩) (os.length + 1) cap)) := (Kept.refl [C] w9).setCell (.inl (by simp)) _
  have hgC : (Value.slice (some ⟨g, 0, none⟩) (os.length + 1) cap).ownBlock ≠ some C := ho.blk h9 (by decide)
  refine ⟨_, ho.kept kc (fun q hq hm => ?_), BlkIs.set h9 37 _, ((k1.more (fun x hx => by cases hx)).trans' (k9.more (fun x hx => List.mem_cons_of_mem _ hx))).trans' (kc.more (fun x hx => ?_)), fun q hq => ?_⟩
  · rw [List.mem_singleton.1 hm] at hq
    exact hgC hq
  · rw [List.mem_singleton.1 hx]
    simp
  · have e : g = q := by simpa [Value.ownBlock] using hq
    subst e
    rcases hat with h | h
    · exact .inl h
    · have := k1.size
      exact .inr (by omega)
set_option maxHeartbeats 2000000 in
set_option maxRecDepth 100000 in
theorem ngAnswer_no (s : NgS) (t : Int) (b : UInt8) (C : Nat) (w : World) :
    Calls Tryz.prog 151 #[.pointer (some ⟨C, 0, none⟩), .int .i64 t, .int .i64 (b.toNat : Int), .string (str []), .bool true] w fun e w' => e = .returned (.bool false) ∧ w' = w := by
  rw [show str [] = ⟨#[]⟩ from rfl]
  go_enter Tryz.func151, Tryz.ntmps151
  go_wp2
  go_ret
  exact ⟨rfl, rfl⟩
set_option maxHeartbeats 2000000 in
set_option maxRecDepth 100000 in
theorem ngAnswer_yes (s : NgS) (os : List M.Opt) (v : Value) (t : Int) (b : UInt8) (l : List UInt8) (hl : l.length ≤ 1000) (must : Bool) (hm : ¬ (l = [] ∧ must = true)) (C : Nat) (w : World) (h : NgAt s v C w) (hr : OpRow v os w) (hlen : os.length ≤ 1000000) :
    Calls Tryz.prog 151 #[.pointer (some ⟨C, 0, none⟩), .int .i64 t, .int .i64 (b.toNat : Int), .string (str l), .bool must] w fun e w' => e = .returned (.bool true) ∧ NgTo s (os ++ [⟨t, b :: l⟩]) C v w w' := by
  have hne : v.ownBlock ≠ some C := hr.blk h (by decide)
  have HSY : Hid (∀ W, Calls Tryz.prog 70 #[.int .i64 t, .int .i64 (b.toNat : Int), .string (str l)] W fun e w' => e = .returned (Ov ⟨t, b :: l⟩) ∧ Below W.heap.size W w') := Lib.hid (fun W => ngSay_any t b l (by omega) W)
  unfold Ov at HSY
  have HA := Lib.hid h
  have HR := Lib.hid hr
  have HNE := Lib.hid hne
  have HLEN : Hid (os.length ≤ 1073741824) := Lib.hid (by omega)
  obtain ⟨y, hy⟩ : ∃ y, str (b :: l) = y := ⟨_, rfl⟩
  have HY := Lib.hid hy
  dsimp only at HSY
  rw [hy] at HSY
  have c0 : w.cell? ⟨C, 37, none⟩ = some v := BlkIs.cell h 37
  have f0 := BlkIs.free h 37
  have key : (str l).toList.isEmpty = false ∨ must = false := by
    cases must with
    | false => exact .inr rfl
    | true => exact .inl (str_ne (fun e => hm ⟨e, rfl⟩))
  clear hm hy h hr hne hl hlen
  generalize str l = x at *
  cases hx : x.toList.isEmpty with
  | false =>
    go_enter Tryz.func151, Tryz.ntmps151
    go_wp2
    go_region_law (first
      | (go_simp; go_at_call 70; (with_reducible refine (HSY.out _).mono ?_); rintro e w1 ⟨rfl, hb1⟩; have hA1 : NgAt s v C w1 := BlkIs.below (w := w.drew) HA.out hb1; have c1 : w1.cell? ⟨C, 37, none⟩ = some v := BlkIs.cell hA1 37; have f1 := BlkIs.free hA1 37; have c2 : ∀ o, (w1.alloc o).cell? ⟨C, 37, none⟩ = some v := fun o => BlkIs.cell (BlkIs.alloc hA1 o) 37; have HK1 : Hid (Kept [] w w1) := Lib.hid (((Kept.refl [] w).drew).trans' (Kept.of_below [] hb1)); have HA1 := Lib.hid hA1; have HR1 : Hid (OpRow v os w1) := Lib.hid (HR.out.kept HK1.out (fun _ _ h => by cases h)); clear hA1 hb1)
      | (refine step_optA rfl (.tmp 20) (.tmp 25) rfl v os (by simp [Act.eval, Act.put]) w1 ⟨t, b :: l⟩ (by show _ = w1.alloc (.cells #[.int .i64 t, .string (str (b :: l))] _); rw [HY.out]) HR1.out _ rfl (by simp [Act.eval, Act.put]) HLEN.out ?_; intro g2 cap2 w9 ho9 hk9 hat9; have hA9 : NgAt s v C w9 := BlkIs.kept HA1.out hk9 (fun hm => HNE.out (mem_ownB.1 hm)); have f9 := BlkIs.free hA9 37; have c9 : w9.cell? ⟨C, 37, none⟩ = some v := BlkIs.cell hA9 37; have HA9 := Lib.hid hA9))
    all_goals
      go_wp2
      go_ret
      exact ⟨rfl, ngAnswer_end HNE.out HK1.out HA9.out ho9 hk9 hat9⟩
  | true =>
    have hmf : must = false := by
      rcases key with h | h
      · rw [hx] at h; cases h
      · exact h
    subst hmf
    go_enter Tryz.func151, Tryz.ntmps151
    go_wp2
    go_region_law (first
      | (go_simp; go_at_call 70; (with_reducible refine (HSY.out _).mono ?_); rintro e w1 ⟨rfl, hb1⟩; have hA1 : NgAt s v C w1 := BlkIs.below (w := w.drew) HA.out hb1; have c1 : w1.cell? ⟨C, 37, none⟩ = some v := BlkIs.cell hA1 37; have f1 := BlkIs.free hA1 37; have c2 : ∀ o, (w1.alloc o).cell? ⟨C, 37, none⟩ = some v := fun o => BlkIs.cell (BlkIs.alloc hA1 o) 37; have HK1 : Hid (Kept [] w w1) := Lib.hid (((Kept.refl [] w).drew).trans' (Kept.of_below [] hb1)); have HA1 := Lib.hid hA1; have HR1 : Hid (OpRow v os w1) := Lib.hid (HR.out.kept HK1.out (fun _ _ h => by cases h)); clear hA1 hb1)
      | (refine step_optA rfl (.tmp 20) (.tmp 25) rfl v os (by simp [Act.eval, Act.put]) w1 ⟨t, b :: l⟩ (by show _ = w1.alloc (.cells #[.int .i64 t, .string (str (b :: l))] _); rw [HY.out]) HR1.out _ rfl (by simp [Act.eval, Act.put]) HLEN.out ?_; intro g2 cap2 w9 ho9 hk9 hat9; have hA9 : NgAt s v C w9 := BlkIs.kept HA1.out hk9 (fun hm => HNE.out (mem_ownB.1 hm)); have f9 := BlkIs.free hA9 37; have c9 : w9.cell? ⟨C, 37, none⟩ = some v := BlkIs.cell hA9 37; have HA9 := Lib.hid hA9))
    all_goals
      go_wp2
      go_ret
      exact ⟨rfl, ngAnswer_end HNE.out HK1.out HA9.out ho9 hk9 hat9⟩
end Go.Proofs.YtnhlachoimlhhaaGreatDoor

namespace Go.Proofs.YtnhlachoimlhhaaGreatDoor
open Go.ChangeShapes Go.WideShapes Go.ChangeAt Go.RowKit
set_option linter.unusedVariables false
set_option linter.unusedSimpArgs false

set_option maxHeartbeats 2000000 in
set_option maxRecDepth 100000 in
theorem ngHear_any (s : NgS) (os : List M.Opt) (v : Value) (t : Int) (b : UInt8) (l : List UInt8) (hl : l.length ≤ 9223372036854775807) (must : Bool) (hok : s.Ok) (C : Nat) (w : World) (h : NgAt s v C w) (hr : OpRow v os w) (hlen : os.length ≤ 1000000) :
    Calls Tryz.prog 108 #[.pointer (some ⟨C, 0, none⟩), .int .i64 t, .int .i64 (b.toNat : Int), .string (str l), .bool must] w fun e w' => e = .returned (.bool (s.hear os t b l must).ok) ∧ NgTo (s.hear os t b l must).s (s.hear os t b l must).due C v w w' := by
  have hne : v.ownBlock ≠ some C := hr.blk h (by decide)
  by_cases h32 : t = 32
  · subst h32
    have HS := Lib.hid (ngSettle_any s v (b.toNat : Int) l hl hok C w h)
    have HA : Hid (∀ w2, NgAt (s.settled (b.toNat : Int) l) v C w2 → Kept [C] w w2 → Calls Tryz.prog 151 #[.pointer (some ⟨C, 0, none⟩), .int .i64 35, .int .i64 (b.toNat : Int), .string (str (s.says (b.toNat : Int) l)), .bool must] w2 fun e w' => e = .returned (.bool (s.hear os 32 b l must).ok) ∧ NgTo (s.hear os 32 b l must).s (s.hear os 32 b l must).due C v w w') := Lib.hid (fun w2 h2 k2 => by
      have hr2 : OpRow v os w2 := hr.kept k2 (fun g hg hm => by
        rw [List.mem_singleton.1 hm] at hg
        exact hne hg)
      by_cases hc : s.says (b.toNat : Int) l = [] ∧ must = true
      · have e : s.hear os 32 b l must = ⟨false, s.settled (b.toNat : Int) l, os⟩ := by unfold NgS.hear; rw [if_pos rfl, if_pos hc]
        rw [e, hc.1, hc.2]
        refine (ngAnswer_no s 35 b C w2).mono ?_
        rintro e w' ⟨rfl, rfl⟩
        exact ⟨rfl, NgTo.kept hr h2 k2 hne⟩
      · have e : s.hear os 32 b l must = ⟨true, s.settled (b.toNat : Int) l, os ++ [⟨35, b :: s.says (b.toNat : Int) l⟩]⟩ := by unfold NgS.hear; rw [if_pos rfl, if_neg hc]
        rw [e]
        refine (ngAnswer_yes (s.settled (b.toNat : Int) l) os v 35 b (s.says (b.toNat : Int) l) (by have := hok.says (b.toNat : Int) l; omega) must hc C w2 h2 hr2 hlen).mono ?_
        rintro e w' ⟨rfl, hn⟩
        exact ⟨rfl, NgTo.trans (k2.more (fun x hx => by
          rw [List.mem_singleton.1 hx]
          simp)) (fun g hg => .inl hg) hn⟩)
    generalize s.hear os 32 b l must = R at *
    generalize s.settled (b.toNat : Int) l = S2 at *
    generalize str (s.says (b.toNat : Int) l) = z at *
    generalize str l = y at *
    generalize (b.toNat : Int) = f at *
    clear h hr hok hne hl
    go_enter Tryz.func108, Tryz.ntmps108
    go_wp2_with (first
      | (go_at_call 152; (with_reducible refine HS.out.mono ?_); rintro e w2 ⟨rfl, h2, k2⟩)
      | (go_at_call 151; (with_reducible refine (HA.out _ h2 k2).mono ?_); rintro e w3 ⟨rfl, h3⟩))
    go_ret
    exact ⟨rfl, h3⟩
  have b32 : ((t : Int) == 32) = false := by rw [beq_eq_false_iff_ne]; exact h32
  by_cases h34 : t = 34
  · subst h34
    have HA : Hid (Calls Tryz.prog 151 #[.pointer (some ⟨C, 0, none⟩), .int .i64 33, .int .i64 (b.toNat : Int), .string ⟨#[]⟩, .bool must] w fun e w' => e = .returned (.bool (s.hear os 34 b l must).ok) ∧ NgTo (s.hear os 34 b l must).s (s.hear os 34 b l must).due C v w w') := Lib.hid (by
      rw [show (⟨#[]⟩ : ByteArray) = str [] from rfl]
      cases must with
      | true =>
        refine (ngAnswer_no s 33 b C w).mono ?_
        rintro e w' ⟨rfl, rfl⟩
        exact ⟨rfl, NgTo.kept hr h (Kept.refl _ _) hne⟩
      | false => exact ngAnswer_yes s os v 33 b [] (by decide) false (by simp) C w h hr hlen)
    generalize s.hear os 34 b l must = R at *
    generalize str l = y at *
    generalize (b.toNat : Int) = f at *
    clear h hr hok hne hl
    go_enter Tryz.func108, Tryz.ntmps108
    go_wp2_with (go_at_call 151; (with_reducible refine HA.out.mono ?_); rintro e w3 ⟨rfl, h3⟩)
    go_ret
    exact ⟨rfl, h3⟩
  have b34 : ((t : Int) == 34) = false := by rw [beq_eq_false_iff_ne]; exact h34
  by_cases h35 : t = 35
  · subst h35
    have HC : Hid (Calls Tryz.prog 153 #[.pointer (some ⟨C, 0, none⟩), .int .i64 (b.toNat : Int), .string (str l)] w fun e w' => e = .returned (.bool (s.hear os 35 b l must).ok) ∧ NgTo (s.hear os 35 b l must).s (s.hear os 35 b l must).due C v w w') := Lib.hid (by
      refine (ngConfirm_any s v (b.toNat : Int) l hl hok C w h).mono ?_
      rintro e w' ⟨rfl, h2, k2⟩
      have e : s.hear os 35 b l must = ⟨(s.confirm (b.toNat : Int) l).isSome, (s.confirm (b.toNat : Int) l).getD s, os⟩ := by
        unfold NgS.hear
        rw [if_neg (by decide), if_neg (by decide), if_pos rfl]
        cases s.confirm (b.toNat : Int) l <;> rfl
      rw [e]
      exact ⟨rfl, NgTo.kept hr h2 k2 hne⟩)
    generalize s.hear os 35 b l must = R at *
    generalize str l = y at *
    generalize (b.toNat : Int) = f at *
    clear h hr hok hne hl
    go_enter Tryz.func108, Tryz.ntmps108
    go_wp2_with (go_at_call 153; (with_reducible refine HC.out.mono ?_); rintro e w3 ⟨rfl, h3⟩)
    go_ret
    exact ⟨rfl, h3⟩
  have b35 : ((t : Int) == 35) = false := by rw [beq_eq_false_iff_ne]; exact h35
  have e : s.hear os t b l must = ⟨true, s, os⟩ := by unfold NgS.hear; rw [if_neg h32, if_neg h34, if_neg h35]
  rw [e]
  have HE := Lib.hid (NgTo.kept hr h (Kept.refl _ _) hne)
  generalize str l = y at *
  generalize (b.toNat : Int) = f at *
  clear h hr hok hne hl e
  go_enter Tryz.func108, Tryz.ntmps108
  go_wp2
  go_ret
  exact ⟨rfl, HE.out⟩
end Go.Proofs.YtnhlachoimlhhaaGreatDoor

namespace Go.Proofs.YtnhlachoimlhhaaGreatDoor
open Go.ChangeShapes Go.WideShapes Go.ChangeAt Go.RowKit
set_option linter.unusedVariables false
set_option linter.unusedSimpArgs false

theorem str_tail (b : UInt8) (r : List UInt8) (W : World) : (Instr.slice 9 (.string (str (b :: r))) (some (.int .i64 1)) none none).run Tryz.prog W = .ok (.string (str r)) W := by
  have e := str_extract (b :: r) 1 (b :: r).length
  rw [List.take_length, show (b :: r).drop 1 = r from rfl] at e
  rw [← e]
  have hs : (str (b :: r)).size = (b :: r).length := rfl
  have h1 : 1 ≤ (b :: r).length := by simp
  go_simp
  intro h
  omega
theorem str_head (b : UInt8) (r : List UInt8) : 0 < (str (b :: r)).size ∧ ∀ h : 0 < (str (b :: r)).size, (str (b :: r))[0]'h = b := ⟨by show 0 < (b :: r).length; simp, fun h => rfl⟩
set_option maxHeartbeats 4000000 in
set_option maxRecDepth 100000 in
theorem ngTake1_32 (s : NgS) (os : List M.Opt) (v : Value) (b : UInt8) (l : List UInt8) (hl : (b :: l).length ≤ 9223372036854775807) (must : Bool) (hok : s.Ok) (C : Nat) (w : World) (h : NgAt s v C w) (hr : OpRow v os w) (hlen : os.length ≤ 1000000) :
    Calls Tryz.prog 71 #[.pointer (some ⟨C, 0, none⟩), Ov ⟨32, b :: l⟩, .bool must] w fun e w' => e = .returned (.bool (s.hear os 32 b l must).ok) ∧ NgTo (s.hear os 32 b l must).s (s.hear os 32 b l must).due C v w w' := by
  have HH : Hid (∀ W, Kept [] w W → Calls Tryz.prog 108 #[.pointer (some ⟨C, 0, none⟩), .int .i64 32, .int .i64 (b.toNat : Int), .string (str l), .bool must] W fun e w' => e = .returned (.bool (s.hear os 32 b l must).ok) ∧ NgTo (s.hear os 32 b l must).s (s.hear os 32 b l must).due C v w w' ∧ Kept (C :: ownB v) W w') := Lib.hid (fun W k => by
    refine (ngHear_any s os v 32 b l (by simp at hl; omega) must hok C W (BlkIs.kept h k (by simp)) (hr.kept k (fun _ _ h => by cases h)) hlen).mono ?_
    rintro e w' ⟨rfl, h2⟩
    obtain ⟨v3, q1, q2, q3, q4⟩ := h2
    exact ⟨rfl, NgTo.trans (k.more (fun x hx => by cases hx)) (fun g hg => .inl hg) ⟨v3, q1, q2, q3, q4⟩, q3⟩)
  have HNN : Hid (w.heap.size ∉ C :: ownB v) := Lib.hid (fun hm => by
    rcases List.mem_cons.1 hm with e | e
    · have := h.lt; omega
    · have := hr.lt _ (mem_ownB.1 e); omega)
  generalize s.hear os 32 b l must = R at *
  have hwp : IntKind.i64.wrap (b.toNat : Int) = (b.toNat : Int) := IntWalk.i64_in _ (by have := UInt8.toNat_lt b; omega)
  rw [← hwp] at HH
  clear hwp
  obtain ⟨hz, hx⟩ := str_head b l
  have hsl := str_tail b l
  have hem := str_ne (l := b :: l) (by simp)
  have hsz : (str (b :: l)).size ≤ 9223372036854775807 := hl
  unfold Ov
  dsimp only
  obtain ⟨y, hy⟩ : ∃ y, str (b :: l) = y := ⟨_, rfl⟩
  rw [hy] at hsl hem hsz ⊢
  have hz2 : 0 < y.size := by rw [← hy]; exact hz
  have hx0 : y[0] = b := by
    subst hy
    exact hx _
  rw [← hx0] at HH
  clear hy hz hx hx0 h hr hok hl
  generalize str l = x at *
  go_enter Tryz.func71, Tryz.ntmps71
  go_wp2
  have HBX : Hid (BlkIs #[.int .i64 32, .string y] 106 w.heap.size (w.alloc (.cells #[.int .i64 32, .string y] 106))) := Lib.hid (BlkIs.new _ _ _)
  have HS : Hid (∀ W, BlkIs #[.int .i64 32, .string y] 106 w.heap.size W → BlkIs #[.int .i64 32, .string y] 106 w.heap.size W ∧ W.cell? ⟨w.heap.size, 0, none⟩ = some (.int .i64 32) ∧ W.cell? ⟨w.heap.size, 1, none⟩ = some (.string y)) := Lib.hid (fun W h => ⟨h, BlkIs.cell h 0, BlkIs.cell h 1⟩)
  go_region_held3 (fun W => BlkIs #[.int .i64 32, .string y] 106 w.heap.size W ∧ W.cell? ⟨w.heap.size, 0, none⟩ = some (.int .i64 32) ∧ W.cell? ⟨w.heap.size, 1, none⟩ = some (.string y))
    (first | exact HS.out _ HBX.out | exact HS.out _ (BlkIs.drewN HBX.out 1) | exact HS.out _ (BlkIs.kept (BlkIs.drewN HBX.out 1) k3 HNN.out))
    ((go_at_call 108; (with_reducible refine (HH.out _ (((Kept.refl [] w).alloc _).drew)).mono ?_); rintro e w3 ⟨rfl, h3, k3⟩))
  all_goals
    go_wp2
    go_ret
    exact ⟨rfl, h3⟩
set_option maxHeartbeats 4000000 in
set_option maxRecDepth 100000 in
theorem ngTake1_33 (s : NgS) (os : List M.Opt) (v : Value) (b : UInt8) (l : List UInt8) (hl : (b :: l).length ≤ 9223372036854775807) (must : Bool) (hok : s.Ok) (C : Nat) (w : World) (h : NgAt s v C w) (hr : OpRow v os w) (hlen : os.length ≤ 1000000) :
    Calls Tryz.prog 71 #[.pointer (some ⟨C, 0, none⟩), Ov ⟨33, b :: l⟩, .bool must] w fun e w' => e = .returned (.bool (s.hear os 33 b l must).ok) ∧ NgTo (s.hear os 33 b l must).s (s.hear os 33 b l must).due C v w w' := by
  have HH : Hid (∀ W, Kept [] w W → Calls Tryz.prog 108 #[.pointer (some ⟨C, 0, none⟩), .int .i64 33, .int .i64 (b.toNat : Int), .string (str l), .bool must] W fun e w' => e = .returned (.bool (s.hear os 33 b l must).ok) ∧ NgTo (s.hear os 33 b l must).s (s.hear os 33 b l must).due C v w w' ∧ Kept (C :: ownB v) W w') := Lib.hid (fun W k => by
    refine (ngHear_any s os v 33 b l (by simp at hl; omega) must hok C W (BlkIs.kept h k (by simp)) (hr.kept k (fun _ _ h => by cases h)) hlen).mono ?_
    rintro e w' ⟨rfl, h2⟩
    obtain ⟨v3, q1, q2, q3, q4⟩ := h2
    exact ⟨rfl, NgTo.trans (k.more (fun x hx => by cases hx)) (fun g hg => .inl hg) ⟨v3, q1, q2, q3, q4⟩, q3⟩)
  have HNN : Hid (w.heap.size ∉ C :: ownB v) := Lib.hid (fun hm => by
    rcases List.mem_cons.1 hm with e | e
    · have := h.lt; omega
    · have := hr.lt _ (mem_ownB.1 e); omega)
  generalize s.hear os 33 b l must = R at *
  have hwp : IntKind.i64.wrap (b.toNat : Int) = (b.toNat : Int) := IntWalk.i64_in _ (by have := UInt8.toNat_lt b; omega)
  rw [← hwp] at HH
  clear hwp
  obtain ⟨hz, hx⟩ := str_head b l
  have hsl := str_tail b l
  have hem := str_ne (l := b :: l) (by simp)
  have hsz : (str (b :: l)).size ≤ 9223372036854775807 := hl
  unfold Ov
  dsimp only
  obtain ⟨y, hy⟩ : ∃ y, str (b :: l) = y := ⟨_, rfl⟩
  rw [hy] at hsl hem hsz ⊢
  have hz2 : 0 < y.size := by rw [← hy]; exact hz
  have hx0 : y[0] = b := by
    subst hy
    exact hx _
  rw [← hx0] at HH
  clear hy hz hx hx0 h hr hok hl
  generalize str l = x at *
  go_enter Tryz.func71, Tryz.ntmps71
  go_wp2
  have HBX : Hid (BlkIs #[.int .i64 33, .string y] 106 w.heap.size (w.alloc (.cells #[.int .i64 33, .string y] 106))) := Lib.hid (BlkIs.new _ _ _)
  have HS : Hid (∀ W, BlkIs #[.int .i64 33, .string y] 106 w.heap.size W → BlkIs #[.int .i64 33, .string y] 106 w.heap.size W ∧ W.cell? ⟨w.heap.size, 0, none⟩ = some (.int .i64 33) ∧ W.cell? ⟨w.heap.size, 1, none⟩ = some (.string y)) := Lib.hid (fun W h => ⟨h, BlkIs.cell h 0, BlkIs.cell h 1⟩)
  go_region_held3 (fun W => BlkIs #[.int .i64 33, .string y] 106 w.heap.size W ∧ W.cell? ⟨w.heap.size, 0, none⟩ = some (.int .i64 33) ∧ W.cell? ⟨w.heap.size, 1, none⟩ = some (.string y))
    (first | exact HS.out _ HBX.out | exact HS.out _ (BlkIs.drewN HBX.out 1) | exact HS.out _ (BlkIs.kept (BlkIs.drewN HBX.out 1) k3 HNN.out))
    ((go_at_call 108; (with_reducible refine (HH.out _ (((Kept.refl [] w).alloc _).drew)).mono ?_); rintro e w3 ⟨rfl, h3, k3⟩))
  all_goals
    go_wp2
    go_ret
    exact ⟨rfl, h3⟩
set_option maxHeartbeats 4000000 in
set_option maxRecDepth 100000 in
theorem ngTake1_34 (s : NgS) (os : List M.Opt) (v : Value) (b : UInt8) (l : List UInt8) (hl : (b :: l).length ≤ 9223372036854775807) (must : Bool) (hok : s.Ok) (C : Nat) (w : World) (h : NgAt s v C w) (hr : OpRow v os w) (hlen : os.length ≤ 1000000) :
    Calls Tryz.prog 71 #[.pointer (some ⟨C, 0, none⟩), Ov ⟨34, b :: l⟩, .bool must] w fun e w' => e = .returned (.bool (s.hear os 34 b l must).ok) ∧ NgTo (s.hear os 34 b l must).s (s.hear os 34 b l must).due C v w w' := by
  have HH : Hid (∀ W, Kept [] w W → Calls Tryz.prog 108 #[.pointer (some ⟨C, 0, none⟩), .int .i64 34, .int .i64 (b.toNat : Int), .string (str l), .bool must] W fun e w' => e = .returned (.bool (s.hear os 34 b l must).ok) ∧ NgTo (s.hear os 34 b l must).s (s.hear os 34 b l must).due C v w w' ∧ Kept (C :: ownB v) W w') := Lib.hid (fun W k => by
    refine (ngHear_any s os v 34 b l (by simp at hl; omega) must hok C W (BlkIs.kept h k (by simp)) (hr.kept k (fun _ _ h => by cases h)) hlen).mono ?_
    rintro e w' ⟨rfl, h2⟩
    obtain ⟨v3, q1, q2, q3, q4⟩ := h2
    exact ⟨rfl, NgTo.trans (k.more (fun x hx => by cases hx)) (fun g hg => .inl hg) ⟨v3, q1, q2, q3, q4⟩, q3⟩)
  have HNN : Hid (w.heap.size ∉ C :: ownB v) := Lib.hid (fun hm => by
    rcases List.mem_cons.1 hm with e | e
    · have := h.lt; omega
    · have := hr.lt _ (mem_ownB.1 e); omega)
  generalize s.hear os 34 b l must = R at *
  have hwp : IntKind.i64.wrap (b.toNat : Int) = (b.toNat : Int) := IntWalk.i64_in _ (by have := UInt8.toNat_lt b; omega)
  rw [← hwp] at HH
  clear hwp
  obtain ⟨hz, hx⟩ := str_head b l
  have hsl := str_tail b l
  have hem := str_ne (l := b :: l) (by simp)
  have hsz : (str (b :: l)).size ≤ 9223372036854775807 := hl
  unfold Ov
  dsimp only
  obtain ⟨y, hy⟩ : ∃ y, str (b :: l) = y := ⟨_, rfl⟩
  rw [hy] at hsl hem hsz ⊢
  have hz2 : 0 < y.size := by rw [← hy]; exact hz
  have hx0 : y[0] = b := by
    subst hy
    exact hx _
  rw [← hx0] at HH
  clear hy hz hx hx0 h hr hok hl
  generalize str l = x at *
  go_enter Tryz.func71, Tryz.ntmps71
  go_wp2
  have HBX : Hid (BlkIs #[.int .i64 34, .string y] 106 w.heap.size (w.alloc (.cells #[.int .i64 34, .string y] 106))) := Lib.hid (BlkIs.new _ _ _)
  have HS : Hid (∀ W, BlkIs #[.int .i64 34, .string y] 106 w.heap.size W → BlkIs #[.int .i64 34, .string y] 106 w.heap.size W ∧ W.cell? ⟨w.heap.size, 0, none⟩ = some (.int .i64 34) ∧ W.cell? ⟨w.heap.size, 1, none⟩ = some (.string y)) := Lib.hid (fun W h => ⟨h, BlkIs.cell h 0, BlkIs.cell h 1⟩)
  go_region_held3 (fun W => BlkIs #[.int .i64 34, .string y] 106 w.heap.size W ∧ W.cell? ⟨w.heap.size, 0, none⟩ = some (.int .i64 34) ∧ W.cell? ⟨w.heap.size, 1, none⟩ = some (.string y))
    (first | exact HS.out _ HBX.out | exact HS.out _ (BlkIs.drewN HBX.out 1) | exact HS.out _ (BlkIs.kept (BlkIs.drewN HBX.out 1) k3 HNN.out))
    ((go_at_call 108; (with_reducible refine (HH.out _ (((Kept.refl [] w).alloc _).drew)).mono ?_); rintro e w3 ⟨rfl, h3, k3⟩))
  all_goals
    go_wp2
    go_ret
    exact ⟨rfl, h3⟩
set_option maxHeartbeats 4000000 in
set_option maxRecDepth 100000 in
theorem ngTake1_35 (s : NgS) (os : List M.Opt) (v : Value) (b : UInt8) (l : List UInt8) (hl : (b :: l).length ≤ 9223372036854775807) (must : Bool) (hok : s.Ok) (C : Nat) (w : World) (h : NgAt s v C w) (hr : OpRow v os w) (hlen : os.length ≤ 1000000) :
    Calls Tryz.prog 71 #[.pointer (some ⟨C, 0, none⟩), Ov ⟨35, b :: l⟩, .bool must] w fun e w' => e = .returned (.bool (s.hear os 35 b l must).ok) ∧ NgTo (s.hear os 35 b l must).s (s.hear os 35 b l must).due C v w w' := by
  have HH : Hid (∀ W, Kept [] w W → Calls Tryz.prog 108 #[.pointer (some ⟨C, 0, none⟩), .int .i64 35, .int .i64 (b.toNat : Int), .string (str l), .bool must] W fun e w' => e = .returned (.bool (s.hear os 35 b l must).ok) ∧ NgTo (s.hear os 35 b l must).s (s.hear os 35 b l must).due C v w w' ∧ Kept (C :: ownB v) W w') := Lib.hid (fun W k => by
    refine (ngHear_any s os v 35 b l (by simp at hl; omega) must hok C W (BlkIs.kept h k (by simp)) (hr.kept k (fun _ _ h => by cases h)) hlen).mono ?_
    rintro e w' ⟨rfl, h2⟩
    obtain ⟨v3, q1, q2, q3, q4⟩ := h2
    exact ⟨rfl, NgTo.trans (k.more (fun x hx => by cases hx)) (fun g hg => .inl hg) ⟨v3, q1, q2, q3, q4⟩, q3⟩)
  have HNN : Hid (w.heap.size ∉ C :: ownB v) := Lib.hid (fun hm => by
    rcases List.mem_cons.1 hm with e | e
    · have := h.lt; omega
    · have := hr.lt _ (mem_ownB.1 e); omega)
  generalize s.hear os 35 b l must = R at *
  have hwp : IntKind.i64.wrap (b.toNat : Int) = (b.toNat : Int) := IntWalk.i64_in _ (by have := UInt8.toNat_lt b; omega)
  rw [← hwp] at HH
  clear hwp
  obtain ⟨hz, hx⟩ := str_head b l
  have hsl := str_tail b l
  have hem := str_ne (l := b :: l) (by simp)
  have hsz : (str (b :: l)).size ≤ 9223372036854775807 := hl
  unfold Ov
  dsimp only
  obtain ⟨y, hy⟩ : ∃ y, str (b :: l) = y := ⟨_, rfl⟩
  rw [hy] at hsl hem hsz ⊢
  have hz2 : 0 < y.size := by rw [← hy]; exact hz
  have hx0 : y[0] = b := by
    subst hy
    exact hx _
  rw [← hx0] at HH
  clear hy hz hx hx0 h hr hok hl
  generalize str l = x at *
  go_enter Tryz.func71, Tryz.ntmps71
  go_wp2
  have HBX : Hid (BlkIs #[.int .i64 35, .string y] 106 w.heap.size (w.alloc (.cells #[.int .i64 35, .string y] 106))) := Lib.hid (BlkIs.new _ _ _)
  have HS : Hid (∀ W, BlkIs #[.int .i64 35, .string y] 106 w.heap.size W → BlkIs #[.int .i64 35, .string y] 106 w.heap.size W ∧ W.cell? ⟨w.heap.size, 0, none⟩ = some (.int .i64 35) ∧ W.cell? ⟨w.heap.size, 1, none⟩ = some (.string y)) := Lib.hid (fun W h => ⟨h, BlkIs.cell h 0, BlkIs.cell h 1⟩)
  go_region_held3 (fun W => BlkIs #[.int .i64 35, .string y] 106 w.heap.size W ∧ W.cell? ⟨w.heap.size, 0, none⟩ = some (.int .i64 35) ∧ W.cell? ⟨w.heap.size, 1, none⟩ = some (.string y))
    (first | exact HS.out _ HBX.out | exact HS.out _ (BlkIs.drewN HBX.out 1) | exact HS.out _ (BlkIs.kept (BlkIs.drewN HBX.out 1) k3 HNN.out))
    ((go_at_call 108; (with_reducible refine (HH.out _ (((Kept.refl [] w).alloc _).drew)).mono ?_); rintro e w3 ⟨rfl, h3, k3⟩))
  all_goals
    go_wp2
    go_ret
    exact ⟨rfl, h3⟩
set_option maxHeartbeats 4000000 in
set_option maxRecDepth 100000 in
theorem ngTake1_none (s : NgS) (os : List M.Opt) (v : Value) (t : Int) (ht : t = 32 ∨ t = 33 ∨ t = 34 ∨ t = 35) (must : Bool) (C : Nat) (w : World) :
    Calls Tryz.prog 71 #[.pointer (some ⟨C, 0, none⟩), Ov ⟨t, []⟩, .bool must] w fun e w' => e = .returned (.bool false) ∧ Kept [] w w' := by
  unfold Ov
  dsimp only
  rw [show str [] = ⟨#[]⟩ from rfl]
  rcases ht with rfl | rfl | rfl | rfl
  · go_enter Tryz.func71, Tryz.ntmps71
    go_wp2
    go_quiet (fail)
    go_wp2
    go_ret
    exact ⟨rfl, ((Kept.refl [] w).alloc _).drewN _⟩
  · go_enter Tryz.func71, Tryz.ntmps71
    go_wp2
    go_quiet (fail)
    go_wp2
    go_ret
    exact ⟨rfl, ((Kept.refl [] w).alloc _).drewN _⟩
  · go_enter Tryz.func71, Tryz.ntmps71
    go_wp2
    go_quiet (fail)
    go_wp2
    go_ret
    exact ⟨rfl, ((Kept.refl [] w).alloc _).drewN _⟩
  · go_enter Tryz.func71, Tryz.ntmps71
    go_wp2
    go_quiet (fail)
    go_wp2
    go_ret
    exact ⟨rfl, ((Kept.refl [] w).alloc _).drewN _⟩
end Go.Proofs.YtnhlachoimlhhaaGreatDoor

namespace Go.Proofs.YtnhlachoimlhhaaGreatDoor
open Go.ChangeShapes Go.WideShapes Go.ChangeAt Go.RowKit
set_option linter.unusedVariables false
set_option linter.unusedSimpArgs false

set_option maxHeartbeats 4000000 in
set_option maxRecDepth 100000 in
theorem ngTake1_other (t : Int) (x : ByteArray) (hk : ngKind t = false) (must : Bool) (C : Nat) (w : World) :
    Calls Tryz.prog 71 #[.pointer (some ⟨C, 0, none⟩), .agg #[.int .i64 t, .string x], .bool must] w fun e w' => e = .returned (.bool (ngQuiet t || !must)) ∧ Kept [] w w' := by
  have h1 := of_decide_eq_false hk
  have b32 : ((t : Int) == 32) = false := by rw [beq_eq_false_iff_ne]; omega
  have b33 : ((t : Int) == 33) = false := by rw [beq_eq_false_iff_ne]; omega
  have b34 : ((t : Int) == 34) = false := by rw [beq_eq_false_iff_ne]; omega
  have b35 : ((t : Int) == 35) = false := by rw [beq_eq_false_iff_ne]; omega
  clear h1 hk
  by_cases h38 : t = 38
  · subst h38
    rw [show ngQuiet 38 = true from rfl]
    go_enter Tryz.func71, Tryz.ntmps71
    go_wp2
    go_ret
    exact ⟨rfl, (Kept.refl [] w).alloc _⟩
  have b38 : ((t : Int) == 38) = false := by rw [beq_eq_false_iff_ne]; exact h38
  by_cases h39 : t = 39
  · subst h39
    rw [show ngQuiet 39 = true from rfl]
    go_enter Tryz.func71, Tryz.ntmps71
    go_wp2
    go_ret
    exact ⟨rfl, (Kept.refl [] w).alloc _⟩
  have b39 : ((t : Int) == 39) = false := by rw [beq_eq_false_iff_ne]; exact h39
  by_cases h43 : t = 43
  · subst h43
    rw [show ngQuiet 43 = true from rfl]
    go_enter Tryz.func71, Tryz.ntmps71
    go_wp2
    go_ret
    exact ⟨rfl, (Kept.refl [] w).alloc _⟩
  have b43 : ((t : Int) == 43) = false := by rw [beq_eq_false_iff_ne]; exact h43
  by_cases h193 : t = 193
  · subst h193
    rw [show ngQuiet 193 = true from rfl]
    go_enter Tryz.func71, Tryz.ntmps71
    go_wp2
    go_ret
    exact ⟨rfl, (Kept.refl [] w).alloc _⟩
  have b193 : ((t : Int) == 193) = false := by rw [beq_eq_false_iff_ne]; exact h193
  by_cases h194 : t = 194
  · subst h194
    rw [show ngQuiet 194 = true from rfl]
    go_enter Tryz.func71, Tryz.ntmps71
    go_wp2
    go_ret
    exact ⟨rfl, (Kept.refl [] w).alloc _⟩
  have b194 : ((t : Int) == 194) = false := by rw [beq_eq_false_iff_ne]; exact h194
  rw [show ngQuiet t = false from decide_eq_false (by omega)]
  clear h38 h39 h43 h193 h194
  cases must with
  | true =>
    go_enter Tryz.func71, Tryz.ntmps71
    go_wp2
    go_ret
    exact ⟨rfl, (Kept.refl [] w).alloc _⟩
  | false =>
    go_enter Tryz.func71, Tryz.ntmps71
    go_wp2
    go_ret
    exact ⟨rfl, (Kept.refl [] w).alloc _⟩
theorem NgTo.same {s : NgS} {os : List M.Opt} {C : Nat} {v : Value} {w w' : World} (h : NgAt s v C w) (hr : OpRow v os w) (k : Kept [] w w') : NgTo s os C v w w' :=
  ⟨v, hr.kept k (fun _ _ h => by cases h), BlkIs.kept h k (by simp), k.more (fun x hx => by cases hx), fun g hg => .inl hg⟩
theorem ngTake1_any (s : NgS) (os : List M.Opt) (v : Value) (o : M.Opt) (hl : o.d.length ≤ 9223372036854775807) (must : Bool) (hok : s.Ok) (C : Nat) (w : World) (h : NgAt s v C w) (hr : OpRow v os w) (hlen : os.length ≤ 1000000) :
    Calls Tryz.prog 71 #[.pointer (some ⟨C, 0, none⟩), Ov o, .bool must] w fun e w' => e = .returned (.bool (s.take1 os o must).ok) ∧ NgTo (s.take1 os o must).s (s.take1 os o must).due C v w w' := by
  obtain ⟨t, d⟩ := o
  by_cases hk : ngKind t = true
  · have hk2 : t = 32 ∨ t = 33 ∨ t = 34 ∨ t = 35 := of_decide_eq_true hk
    cases d with
    | nil =>
      have e : s.take1 os ⟨t, []⟩ must = ⟨false, s, os⟩ := by unfold NgS.take1; rw [if_pos hk]
      rw [e]
      refine (ngTake1_none s os v t hk2 must C w).mono ?_
      rintro e w' ⟨rfl, k⟩
      exact ⟨rfl, NgTo.same h hr k⟩
    | cons b l =>
      have e : s.take1 os ⟨t, b :: l⟩ must = s.hear os t b l must := by unfold NgS.take1; rw [if_pos hk]
      rw [e]
      rcases hk2 with rfl | rfl | rfl | rfl
      · exact ngTake1_32 s os v b l hl must hok C w h hr hlen
      · exact ngTake1_33 s os v b l hl must hok C w h hr hlen
      · exact ngTake1_34 s os v b l hl must hok C w h hr hlen
      · exact ngTake1_35 s os v b l hl must hok C w h hr hlen
  · have hkf : ngKind t = false := by simpa using hk
    have e : s.take1 os ⟨t, d⟩ must = ⟨ngQuiet t || !must, s, os⟩ := by
      unfold NgS.take1
      rw [if_neg hk]
      cases ngQuiet t <;> rfl
    rw [e]
    refine (ngTake1_other t (str d) hkf must C w).mono ?_
    rintro e w' ⟨rfl, k⟩
    exact ⟨rfl, NgTo.same h hr k⟩
end Go.Proofs.YtnhlachoimlhhaaGreatDoor

namespace Go.Proofs.YtnhlachoimlhhaaGreatDoor
open Go.ChangeShapes Go.WideShapes Go.ChangeAt Go.RowKit
set_option linter.unusedVariables false
set_option linter.unusedSimpArgs false

theorem OptsAt.cellsN {w : World} {v : Value} {os : List M.Opt} (h : OptsAt w v os) : ∃ p cap, v = .slice p os.length cap ∧ ∀ k, k < os.length → ∃ b o, p = some ⟨b, o, none⟩ ∧ v.ownBlock = some b ∧ b < w.heap.size ∧ (∀ i, i < os.length → w.cell? ⟨b, o + i * 2, none⟩ = some (.int .i64 (os.getD i ⟨0, []⟩).t) ∧ w.cell? ⟨b, o + i * 2 + 1, none⟩ = some (.string (str (os.getD i ⟨0, []⟩).d))) := by
  rcases h.at_ with ⟨rfl, a, cap, rfl⟩ | ⟨b, o, cap, rfl, hb, hc⟩
  · exact ⟨a, cap, rfl, fun k hk => absurd hk (Nat.not_lt_zero _)⟩
  · exact ⟨_, cap, rfl, fun k hk => ⟨b, o, rfl, rfl, hb, hc⟩⟩
theorem Kept.cellN {S : List Nat} {w w' : World} (k : Kept S w w') {b i : Nat} (hb : b < w.heap.size) (hn : b ∉ S) : w'.cell? ⟨b, i, none⟩ = w.cell? ⟨b, i, none⟩ := by
  have h := k.block b hb hn
  unfold World.cell?
  simp only [h]
theorem NgS.takeTo_step (s : NgS) (due los : List M.Opt) (k : Nat) (hok : (s.takeTo due los k).ok = true) : s.takeTo due los (k + 1) = (s.takeTo due los k).s.take1 (s.takeTo due los k).due (los.getD k ⟨0, []⟩) (decide (0 < k ∧ (los.getD (k - 1) ⟨0, []⟩).t = 1)) := by
  rw [NgS.takeTo, if_pos hok]
theorem NgS.takeTo_no (s : NgS) (due los : List M.Opt) (k : Nat) (hno : (s.takeTo due los k).ok = false) : ∀ j, k ≤ j → s.takeTo due los j = s.takeTo due los k
  | 0, h => by
    obtain rfl : k = 0 := by omega
    rfl
  | j + 1, h => by
    by_cases e : k = j + 1
    · rw [e]
    · have ih := NgS.takeTo_no s due los k hno j (by omega)
      rw [NgS.takeTo, ih, if_neg (by rw [hno]; decide)]
set_option maxHeartbeats 4000000 in
set_option maxRecDepth 100000 in
theorem ngTake_any (s : NgS) (os : List M.Opt) (v : Value) (L : Value) (los : List M.Opt) (hok : s.Ok) (C : Nat) (w : World) (h : NgAt s v C w) (hr : OpRow v os w) (hlen : os.length + los.length ≤ 1000000) (hL : OptsAt w L los) (hd : ∀ b, L.ownBlock = some b → b ≠ C ∧ v.ownBlock ≠ some b) :
    Calls Tryz.prog 24 #[.pointer (some ⟨C, 0, none⟩), L] w fun e w' => e = .returned (.bool (s.take os los).ok) ∧ NgTo (s.take os los).s (s.take os los).due C v w w' := by
  have HDT := Lib.hid hL.data
  obtain ⟨p, cap, rfl, hp⟩ := hL.cellsN
  have HP := Lib.hid hp
  have HOK := Lib.hid (NgS.Ok.takeTo hok os los)
  have HT1 := Lib.hid (fun (s1 : NgS) (os1 : List M.Opt) (v1 : Value) (o : M.Opt) h1 must h2 W h3 h4 h5 => ngTake1_any s1 os1 v1 o h1 must h2 C W h3 h4 h5)
  have HST := Lib.hid (NgS.takeTo_step s os los)
  have HNO := Lib.hid (NgS.takeTo_no s os los)
  have H0 : Hid (NgTo s os C v w w) := Lib.hid (NgTo.same h hr (Kept.refl _ _))
  have HD := Lib.hid hd
  have HLEN := Lib.hid hlen
  have HN : Hid (los.length ≤ 1000000) := Lib.hid (by omega)
  have hN := HN.out
  have HTK : Hid (s.take os los = s.takeTo os los los.length) := Lib.hid rfl
  rw [HTK.out]
  obtain ⟨N, hNN⟩ : ∃ N, los.length = N := ⟨_, rfl⟩
  rw [hNN] at HP HD HLEN hN HN HTK ⊢
  clear h hr hL hp hok hd hlen hNN
  go_enter Tryz.func24, Tryz.ntmps24
  go_wp2
  go_loopw [12] (fun iv wr => ∃ k : Nat, iv = .int .i64 (k : Int) ∧ k ≤ N ∧ Hid ((s.takeTo os los k).ok = true) ∧ Hid (NgTo (s.takeTo os los k).s (s.takeTo os los k).due C v w wr)) (fun iv _ => N - (intOf iv).toNat)
  case atStart => exact ⟨0, rfl, Nat.zero_le _, Lib.hid rfl, H0⟩
  case round =>
    obtain ⟨k, rfl, hk, hgo, hto⟩ := hrel
    by_cases hkn : k < N
    · have d9 : decide ((k : Int) < (N : Int)) = true := decide_eq_true (by omega)
      obtain ⟨b, o, rfl, hob, hb, hc⟩ := HP.out k hkn
      obtain ⟨hbC, hbv⟩ := HD.out b hob
      have HKC := Lib.hid hto.out
      have hbn : b ∉ C :: ownB v := fun hm => by
        rcases List.mem_cons.1 hm with e | e
        · exact hbC e
        · exact hbv (mem_ownB.1 e)
      obtain ⟨v1, q1, q2, q3, q4⟩ := hto.out
      have hcw : ∀ i, i < N → wr.cell? ⟨b, o + i * 2, none⟩ = some (.int .i64 (los.getD i ⟨0, []⟩).t) ∧ wr.cell? ⟨b, o + i * 2 + 1, none⟩ = some (.string (str (los.getD i ⟨0, []⟩).d)) := fun i hi => ⟨(q3.cellN hb hbn).trans (hc i hi).1, (q3.cellN hb hbn).trans (hc i hi).2⟩
      have hdl : (los.getD k ⟨0, []⟩).d.length ≤ 9223372036854775807 := by
        rw [List.getD_eq_getElem?_getD]
        cases hg : los[k]? with
        | none => simp
        | some o => have := HDT.out o (List.mem_of_getElem? hg); unfold maxLen at this; simp; omega
      have hok1 := HOK.out k
      obtain ⟨R, hR⟩ : ∃ R, s.takeTo os los (k + 1) = R := ⟨_, rfl⟩
      have HTC0 : Hid (∀ (must : Bool), must = decide (0 < k ∧ (los.getD (k - 1) ⟨0, []⟩).t = 1) → ∀ W, Kept [] wr W → Calls Tryz.prog 71 #[.pointer (some ⟨C, 0, none⟩), .agg #[.int .i64 (los.getD k ⟨0, []⟩).t, .string (str (los.getD k ⟨0, []⟩).d)], .bool must] W fun e w' => e = .returned (.bool R.ok) ∧ NgTo R.s R.due C v w w') := Lib.hid (fun must hm W kW => by
        have e := HST.out k hgo.out
        rw [hR] at e
        rw [e, ← hm]
        refine (HT1.out (s.takeTo os los k).s (s.takeTo os los k).due v1 (los.getD k ⟨0, []⟩) hdl must hok1.1 W (BlkIs.kept q2 kW (by simp)) (q1.kept kW (fun _ _ h => by cases h)) (by have := hok1.2; have := HLEN.out; omega)).mono ?_
        rintro e w' ⟨rfl, h2⟩
        exact ⟨rfl, NgTo.trans (q3.trans' (kW.more (fun x hx => by cases hx))) q4 h2⟩)
      have HKS : Hid (w.heap.size ≤ wr.heap.size) := Lib.hid q3.size
      obtain ⟨c0, c1⟩ := hcw k hkn
      have HR := Lib.hid hR
      have HPV : Hid (0 < k → wr.cell? ⟨b, o + (k - 1) * 2, none⟩ = some (.int .i64 (los.getD (k - 1) ⟨0, []⟩).t)) := Lib.hid (fun h0 => (hcw (k - 1) (by omega)).1)
      clear hcw hbn q1 q2 q3 q4 hdl hok1 hob hbC hbv hR
      obtain ⟨t1, ht1⟩ : ∃ t1, (los.getD k ⟨0, []⟩).t = t1 := ⟨_, rfl⟩
      obtain ⟨x1, hx1⟩ : ∃ x1, str (los.getD k ⟨0, []⟩).d = x1 := ⟨_, rfl⟩
      rw [ht1, hx1] at HTC0
      rw [ht1] at c0
      rw [hx1] at c1
      clear ht1 hx1
      obtain ⟨tp, htp⟩ : ∃ tp, (los.getD (k - 1) ⟨0, []⟩).t = tp := ⟨_, rfl⟩
      rw [htp] at HTC0 HPV
      clear htp
      by_cases hk0 : k = 0
      · subst hk0
        have HTC := Lib.hid (HTC0.out false (by simp))
        rw [Nat.zero_mul, Nat.add_zero] at c0
        rw [Nat.zero_mul, Nat.add_zero] at c1
        clear HTC0 HPV
        cases hro : R.ok with
        | true =>
          rw [hro] at HTC
          go_wp2_with (go_at_call 71; (with_reducible refine (HTC.out _ (Kept.refl [] wr |>.alloc _)).mono ?_); rintro e w3 ⟨rfl, h3⟩; have H3 := Lib.hid h3; clear h3)
          refine ⟨⟨(0 + 1), by go_num, by omega, Lib.hid (by rw [HR.out]; exact hro), Lib.hid (by rw [HR.out]; exact H3.out)⟩, ?_⟩
          simp [intOf]; omega
        | false =>
          rw [hro] at HTC
          have HE : Hid (s.takeTo os los N = R) := Lib.hid ((HNO.out (0 + 1) (by rw [HR.out]; exact hro) N (by omega)).trans HR.out)
          go_wp2_with (go_at_call 71; (with_reducible refine (HTC.out _ (Kept.refl [] wr |>.alloc _)).mono ?_); rintro e w3 ⟨rfl, h3⟩; have H3 := Lib.hid h3; clear h3)
          go_ret
          exact ⟨by rw [HE.out, hro]; rfl, by rw [HE.out]; exact H3.out⟩
      · obtain ⟨m, rfl⟩ : ∃ m, k = m + 1 := ⟨k - 1, by omega⟩
        have cp := HPV.out (by omega)
        rw [Nat.add_sub_cancel] at cp
        have hbr : b < wr.heap.size := Nat.lt_of_lt_of_le hb HKS.out
        have cp : ∀ X, (wr.alloc X).cell? ⟨b, o + m * 2, none⟩ = some (.int .i64 tp) := fun X => (((Kept.refl [] wr).alloc X).cellN hbr (by simp)).trans cp
        have dg : decide ((0 : Int) < (m : Int) + 1) = true := decide_eq_true (by omega)
        have d8 : decide ((m : Int) + 1 < (N : Int)) = true := decide_eq_true (by omega)
        by_cases ht : tp = 1
        · have HTC := Lib.hid (HTC0.out true (by rw [ht]; simp))
          subst ht
          clear HTC0 HPV
          cases hro : R.ok with
          | true =>
            rw [hro] at HTC
            go_wp2_with (go_at_call 71; (with_reducible refine (HTC.out _ (Kept.refl [] wr |>.alloc _)).mono ?_); rintro e w3 ⟨rfl, h3⟩; have H3 := Lib.hid h3; clear h3)
            refine ⟨⟨(m + 1 + 1), by go_num, by omega, Lib.hid (by rw [HR.out]; exact hro), Lib.hid (by rw [HR.out]; exact H3.out)⟩, ?_⟩
            simp [intOf]; omega
          | false =>
            rw [hro] at HTC
            have HE : Hid (s.takeTo os los N = R) := Lib.hid ((HNO.out (m + 1 + 1) (by rw [HR.out]; exact hro) N (by omega)).trans HR.out)
            go_wp2_with (go_at_call 71; (with_reducible refine (HTC.out _ (Kept.refl [] wr |>.alloc _)).mono ?_); rintro e w3 ⟨rfl, h3⟩; have H3 := Lib.hid h3; clear h3)
            go_ret
            exact ⟨by rw [HE.out, hro]; rfl, by rw [HE.out]; exact H3.out⟩
        · have HTC := Lib.hid (HTC0.out false (by simp [ht]))
          have bt : ((tp : Int) == 1) = false := by rw [beq_eq_false_iff_ne]; exact ht
          clear HTC0 HPV ht
          cases hro : R.ok with
          | true =>
            rw [hro] at HTC
            go_wp2_with (go_at_call 71; (with_reducible refine (HTC.out _ (Kept.refl [] wr |>.alloc _)).mono ?_); rintro e w3 ⟨rfl, h3⟩; have H3 := Lib.hid h3; clear h3)
            refine ⟨⟨(m + 1 + 1), by go_num, by omega, Lib.hid (by rw [HR.out]; exact hro), Lib.hid (by rw [HR.out]; exact H3.out)⟩, ?_⟩
            simp [intOf]; omega
          | false =>
            rw [hro] at HTC
            have HE : Hid (s.takeTo os los N = R) := Lib.hid ((HNO.out (m + 1 + 1) (by rw [HR.out]; exact hro) N (by omega)).trans HR.out)
            go_wp2_with (go_at_call 71; (with_reducible refine (HTC.out _ (Kept.refl [] wr |>.alloc _)).mono ?_); rintro e w3 ⟨rfl, h3⟩; have H3 := Lib.hid h3; clear h3)
            go_ret
            exact ⟨by rw [HE.out, hro]; rfl, by rw [HE.out]; exact H3.out⟩
    · obtain rfl : k = N := by omega
      have d9 : decide ((k : Int) < (k : Int)) = false := decide_eq_false (by omega)
      go_wp2
      go_ret
      exact ⟨by rw [hgo.out]; rfl, hto.out⟩
end Go.Proofs.YtnhlachoimlhhaaGreatDoor
