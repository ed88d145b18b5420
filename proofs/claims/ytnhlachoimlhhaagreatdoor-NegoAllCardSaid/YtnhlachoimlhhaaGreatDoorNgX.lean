/-
  One side of agreeing: what it holds; judge, Want, Like, Mine, Theirs.
  One side of agreeing: Mine, Theirs.
  Agreeing on features as functions of what is held: settle, confirm, one option, a list of them, what goes with a packet.
  One side of agreeing: rows of options of one's own; say; Done.
  One side of agreeing: Done.
  One side of agreeing: Opts.
  strings.Contains of a text of one byte; nego.has.
-/
import Derived.Test.YtnhlachoimlhhaaGreatDoorFtW
import Derived.Test.YtnhlachoimlhhaaGreatDoorBlk
import Derived.Test.YtnhlachoimlhhaaGreatDoorOpB
import Derived.Deep.MidRow
import Derived.Maps.AppendAt
namespace Go.Proofs.YtnhlachoimlhhaaGreatDoor
open Go.ChangeShapes Go.WideShapes Go.ChangeAt Go.RowKit
set_option linter.unusedVariables false
set_option linter.unusedSimpArgs false

structure NgS where
  server : Bool
  want : Int → List UInt8
  like : Int → List UInt8
  mine : Int → List UInt8
  theirs : Int → List UInt8
def upd (g : Int → List UInt8) (f : Int) (l : List UInt8) : Int → List UInt8 := fun x => if x = f then l else g x
def eS : Value := .string { data := #[] }
def sV (l : List UInt8) : Value := .string (str l)
def ngCells (s : NgS) (due : Value) : Array Value := #[.bool s.server, eS, eS, eS, eS, sV (s.want 1), sV (s.like 1), sV (s.mine 1), sV (s.theirs 1), eS, eS, eS, eS,
  sV (s.want 3), sV (s.like 3), sV (s.mine 3), sV (s.theirs 3), eS, eS, eS, eS, eS, eS, eS, eS, sV (s.want 6), sV (s.like 6), sV (s.mine 6), sV (s.theirs 6), eS, eS, eS, eS,
  sV (s.want 8), sV (s.like 8), sV (s.mine 8), sV (s.theirs 8), due]
def NgAt (s : NgS) (due : Value) (C : Nat) (w : World) : Prop := BlkIs (ngCells s due) 111 C w
def ngJudge (f : Int) (l : List UInt8) : Int := if ftKnown f = true then (if ftMay f l = true then 0 else 3) else 10
theorem ftKnown_cases {f : Int} (h : ftKnown f = true) : f = 1 ∨ f = 3 ∨ f = 6 ∨ f = 8 := by
  rcases ft_kinds f with h1 | h1 | h1 | h1 | ⟨h1, h3, h6, h8⟩
  · exact .inl h1
  · exact .inr (.inl h1)
  · exact .inr (.inr (.inl h1))
  · exact .inr (.inr (.inr h1))
  · unfold ftKnown at h
    rw [ftSpan_out h1 h6 h8, decide_eq_false h3] at h
    exact absurd h (by decide)
theorem ngJudge_any (f : Int) (l : List UInt8) (hl : l.length ≤ 9223372036854775807) (C : Nat) (w : World) :
    Calls Tryz.prog 67 #[.pointer (some ⟨C, 0, none⟩), .int .i64 f, .string (str l)] w fun e w' => e = .returned (.int .i64 (ngJudge f l)) ∧ ∃ n, w' = w.drewN n := by
  have HK := Lib.hid (fun W => ftKnown_any f W)
  have HM := Lib.hid (fun W => ftMay_any f l hl W)
  unfold ngJudge
  generalize ftKnown f = k at *
  generalize ftMay f l = m at *
  generalize str l = s at *
  cases k with
  | false =>
    go_enter Tryz.func67, Tryz.ntmps67
    go_wp2_with (go_at_call 74; (with_reducible refine (HK.out _).mono ?_); rintro e w1 ⟨rfl, rfl⟩)
    go_ret
    exact ⟨rfl, 0, rfl⟩
  | true =>
    cases m with
    | false =>
      go_enter Tryz.func67, Tryz.ntmps67
      go_wp2_with (first
        | (go_at_call 74; (with_reducible refine (HK.out _).mono ?_); rintro e w1 ⟨rfl, rfl⟩)
        | (go_at_call 102; (with_reducible refine (HM.out _).mono ?_); rintro e w2 ⟨rfl, n, rfl⟩))
      go_ret
      exact ⟨rfl, n, rfl⟩
    | true =>
      go_enter Tryz.func67, Tryz.ntmps67
      go_wp2_with (first
        | (go_at_call 74; (with_reducible refine (HK.out _).mono ?_); rintro e w1 ⟨rfl, rfl⟩)
        | (go_at_call 102; (with_reducible refine (HM.out _).mono ?_); rintro e w2 ⟨rfl, n, rfl⟩))
      go_ret
      exact ⟨rfl, n, rfl⟩
theorem ngJudge_cases (f : Int) (l : List UInt8) : (ngJudge f l = 10) ∨ (ngJudge f l = 3) ∨ (ngJudge f l = 0 ∧ (f = 1 ∨ f = 3 ∨ f = 6 ∨ f = 8)) := by
  unfold ngJudge
  by_cases h : ftKnown f = true
  · rw [if_pos h]
    split
    · exact .inr (.inr ⟨rfl, ftKnown_cases h⟩)
    · exact .inr (.inl rfl)
  · rw [if_neg h]
    exact .inl rfl
set_option maxHeartbeats 2000000 in
set_option maxRecDepth 100000 in
theorem ngWant_any (s : NgS) (due : Value) (f : Int) (l : List UInt8) (hl : l.length ≤ 9223372036854775807) (C : Nat) (w : World) (h : NgAt s due C w) :
    Calls Tryz.prog 18 #[.pointer (some ⟨C, 0, none⟩), .int .i64 f, .string (str l)] w fun e w' => e = .returned (.int .i64 (ngJudge f l)) ∧ NgAt (if ngJudge f l = 0 then { s with want := upd s.want f l } else s) due C w' ∧ Kept [C] w w' := by
  have HJ := Lib.hid (fun W => ngJudge_any f l hl C W)
  have hcs := ngJudge_cases f l
  generalize ngJudge f l = j at *
  have HA := Lib.hid h
  rcases hcs with rfl | rfl | ⟨rfl, hf⟩
  · go_enter Tryz.func18, Tryz.ntmps18
    clear h
    go_wp2_with (go_at_call 67; (with_reducible refine (HJ.out _).mono ?_); rintro e w1 ⟨rfl, n, rfl⟩)
    go_ret
    exact ⟨rfl, BlkIs.drewN HA.out n, (Kept.refl _ _).drewN n⟩
  · go_enter Tryz.func18, Tryz.ntmps18
    clear h
    go_wp2_with (go_at_call 67; (with_reducible refine (HJ.out _).mono ?_); rintro e w1 ⟨rfl, n, rfl⟩)
    go_ret
    exact ⟨rfl, BlkIs.drewN HA.out n, (Kept.refl _ _).drewN n⟩
  · rw [if_pos rfl]
    rcases hf with rfl | rfl | rfl | rfl
    · have ff := BlkIs.free h 5
      have fc := BlkIs.cell h 5
      clear h
      go_enter Tryz.func18, Tryz.ntmps18
      go_wp2_with (go_at_call 67; (with_reducible refine (HJ.out _).mono ?_); rintro e w1 ⟨rfl, n, rfl⟩)
      go_ret
      exact ⟨rfl, BlkIs.set (BlkIs.drewN HA.out n) 5 _, ((Kept.refl _ _).drewN n).setCell (.inl (by simp)) _⟩
    · have ff := BlkIs.free h 13
      have fc := BlkIs.cell h 13
      clear h
      go_enter Tryz.func18, Tryz.ntmps18
      go_wp2_with (go_at_call 67; (with_reducible refine (HJ.out _).mono ?_); rintro e w1 ⟨rfl, n, rfl⟩)
      go_ret
      exact ⟨rfl, BlkIs.set (BlkIs.drewN HA.out n) 13 _, ((Kept.refl _ _).drewN n).setCell (.inl (by simp)) _⟩
    · have ff := BlkIs.free h 25
      have fc := BlkIs.cell h 25
      clear h
      go_enter Tryz.func18, Tryz.ntmps18
      go_wp2_with (go_at_call 67; (with_reducible refine (HJ.out _).mono ?_); rintro e w1 ⟨rfl, n, rfl⟩)
      go_ret
      exact ⟨rfl, BlkIs.set (BlkIs.drewN HA.out n) 25 _, ((Kept.refl _ _).drewN n).setCell (.inl (by simp)) _⟩
    · have ff := BlkIs.free h 33
      have fc := BlkIs.cell h 33
      clear h
      go_enter Tryz.func18, Tryz.ntmps18
      go_wp2_with (go_at_call 67; (with_reducible refine (HJ.out _).mono ?_); rintro e w1 ⟨rfl, n, rfl⟩)
      go_ret
      exact ⟨rfl, BlkIs.set (BlkIs.drewN HA.out n) 33 _, ((Kept.refl _ _).drewN n).setCell (.inl (by simp)) _⟩
set_option maxHeartbeats 2000000 in
set_option maxRecDepth 100000 in
theorem ngLike_any (s : NgS) (due : Value) (f : Int) (l : List UInt8) (hl : l.length ≤ 9223372036854775807) (C : Nat) (w : World) (h : NgAt s due C w) :
    Calls Tryz.prog 20 #[.pointer (some ⟨C, 0, none⟩), .int .i64 f, .string (str l)] w fun e w' => e = .returned (.int .i64 (ngJudge f l)) ∧ NgAt (if ngJudge f l = 0 then { s with like := upd s.like f l } else s) due C w' ∧ Kept [C] w w' := by
  have HJ := Lib.hid (fun W => ngJudge_any f l hl C W)
  have hcs := ngJudge_cases f l
  generalize ngJudge f l = j at *
  have HA := Lib.hid h
  rcases hcs with rfl | rfl | ⟨rfl, hf⟩
  · go_enter Tryz.func20, Tryz.ntmps20
    clear h
    go_wp2_with (go_at_call 67; (with_reducible refine (HJ.out _).mono ?_); rintro e w1 ⟨rfl, n, rfl⟩)
    go_ret
    exact ⟨rfl, BlkIs.drewN HA.out n, (Kept.refl _ _).drewN n⟩
  · go_enter Tryz.func20, Tryz.ntmps20
    clear h
    go_wp2_with (go_at_call 67; (with_reducible refine (HJ.out _).mono ?_); rintro e w1 ⟨rfl, n, rfl⟩)
    go_ret
    exact ⟨rfl, BlkIs.drewN HA.out n, (Kept.refl _ _).drewN n⟩
  · rw [if_pos rfl]
    rcases hf with rfl | rfl | rfl | rfl
    · have ff := BlkIs.free h 6
      have fc := BlkIs.cell h 6
      clear h
      go_enter Tryz.func20, Tryz.ntmps20
      go_wp2_with (go_at_call 67; (with_reducible refine (HJ.out _).mono ?_); rintro e w1 ⟨rfl, n, rfl⟩)
      go_ret
      exact ⟨rfl, BlkIs.set (BlkIs.drewN HA.out n) 6 _, ((Kept.refl _ _).drewN n).setCell (.inl (by simp)) _⟩
    · have ff := BlkIs.free h 14
      have fc := BlkIs.cell h 14
      clear h
      go_enter Tryz.func20, Tryz.ntmps20
      go_wp2_with (go_at_call 67; (with_reducible refine (HJ.out _).mono ?_); rintro e w1 ⟨rfl, n, rfl⟩)
      go_ret
      exact ⟨rfl, BlkIs.set (BlkIs.drewN HA.out n) 14 _, ((Kept.refl _ _).drewN n).setCell (.inl (by simp)) _⟩
    · have ff := BlkIs.free h 26
      have fc := BlkIs.cell h 26
      clear h
      go_enter Tryz.func20, Tryz.ntmps20
      go_wp2_with (go_at_call 67; (with_reducible refine (HJ.out _).mono ?_); rintro e w1 ⟨rfl, n, rfl⟩)
      go_ret
      exact ⟨rfl, BlkIs.set (BlkIs.drewN HA.out n) 26 _, ((Kept.refl _ _).drewN n).setCell (.inl (by simp)) _⟩
    · have ff := BlkIs.free h 34
      have fc := BlkIs.cell h 34
      clear h
      go_enter Tryz.func20, Tryz.ntmps20
      go_wp2_with (go_at_call 67; (with_reducible refine (HJ.out _).mono ?_); rintro e w1 ⟨rfl, n, rfl⟩)
      go_ret
      exact ⟨rfl, BlkIs.set (BlkIs.drewN HA.out n) 34 _, ((Kept.refl _ _).drewN n).setCell (.inl (by simp)) _⟩
end Go.Proofs.YtnhlachoimlhhaaGreatDoor

namespace Go.Proofs.YtnhlachoimlhhaaGreatDoor
open Go.ChangeShapes Go.WideShapes Go.ChangeAt Go.RowKit
set_option linter.unusedVariables false
set_option linter.unusedSimpArgs false

set_option maxHeartbeats 2000000 in
set_option maxRecDepth 100000 in
theorem ngMine_any (s : NgS) (due : Value) (f : Int) (C : Nat) (w : World) (h : NgAt s due C w) :
    Calls Tryz.prog 28 #[.pointer (some ⟨C, 0, none⟩), .int .i64 f] w fun e w' => e = .returned (.string (str (if ftKnown f = true then s.mine f else []))) ∧ ∃ n, w' = w.drewN n := by
  have HK := Lib.hid (fun W => ftKnown_any f W)
  cases hk : ftKnown f with
  | false =>
    rw [hk] at HK
    clear hk h
    go_enter Tryz.func28, Tryz.ntmps28
    go_wp2_with (go_at_call 74; (with_reducible refine (HK.out _).mono ?_); rintro e w1 ⟨rfl, rfl⟩)
    go_ret
    exact ⟨rfl, 0, rfl⟩
  | true =>
    rw [hk] at HK
    rw [if_pos rfl]
    rcases ftKnown_cases hk with rfl | rfl | rfl | rfl
    · have fc : w.cell? ⟨C, 7, none⟩ = some (.string (str (s.mine 1))) := BlkIs.cell h 7
      clear h hk
      generalize str (s.mine 1) = r at *
      go_enter Tryz.func28, Tryz.ntmps28
      go_wp2_with (go_at_call 74; (with_reducible refine (HK.out _).mono ?_); rintro e w1 ⟨rfl, rfl⟩)
      go_ret
      exact ⟨rfl, 0, rfl⟩
    · have fc : w.cell? ⟨C, 15, none⟩ = some (.string (str (s.mine 3))) := BlkIs.cell h 15
      clear h hk
      generalize str (s.mine 3) = r at *
      go_enter Tryz.func28, Tryz.ntmps28
      go_wp2_with (go_at_call 74; (with_reducible refine (HK.out _).mono ?_); rintro e w1 ⟨rfl, rfl⟩)
      go_ret
      exact ⟨rfl, 0, rfl⟩
    · have fc : w.cell? ⟨C, 27, none⟩ = some (.string (str (s.mine 6))) := BlkIs.cell h 27
      clear h hk
      generalize str (s.mine 6) = r at *
      go_enter Tryz.func28, Tryz.ntmps28
      go_wp2_with (go_at_call 74; (with_reducible refine (HK.out _).mono ?_); rintro e w1 ⟨rfl, rfl⟩)
      go_ret
      exact ⟨rfl, 0, rfl⟩
    · have fc : w.cell? ⟨C, 35, none⟩ = some (.string (str (s.mine 8))) := BlkIs.cell h 35
      clear h hk
      generalize str (s.mine 8) = r at *
      go_enter Tryz.func28, Tryz.ntmps28
      go_wp2_with (go_at_call 74; (with_reducible refine (HK.out _).mono ?_); rintro e w1 ⟨rfl, rfl⟩)
      go_ret
      exact ⟨rfl, 0, rfl⟩
set_option maxHeartbeats 2000000 in
set_option maxRecDepth 100000 in
theorem ngTheirs_any (s : NgS) (due : Value) (f : Int) (C : Nat) (w : World) (h : NgAt s due C w) :
    Calls Tryz.prog 29 #[.pointer (some ⟨C, 0, none⟩), .int .i64 f] w fun e w' => e = .returned (.string (str (if ftKnown f = true then s.theirs f else []))) ∧ ∃ n, w' = w.drewN n := by
  have HK := Lib.hid (fun W => ftKnown_any f W)
  cases hk : ftKnown f with
  | false =>
    rw [hk] at HK
    clear hk h
    go_enter Tryz.func29, Tryz.ntmps29
    go_wp2_with (go_at_call 74; (with_reducible refine (HK.out _).mono ?_); rintro e w1 ⟨rfl, rfl⟩)
    go_ret
    exact ⟨rfl, 0, rfl⟩
  | true =>
    rw [hk] at HK
    rw [if_pos rfl]
    rcases ftKnown_cases hk with rfl | rfl | rfl | rfl
    · have fc : w.cell? ⟨C, 8, none⟩ = some (.string (str (s.theirs 1))) := BlkIs.cell h 8
      clear h hk
      generalize str (s.theirs 1) = r at *
      go_enter Tryz.func29, Tryz.ntmps29
      go_wp2_with (go_at_call 74; (with_reducible refine (HK.out _).mono ?_); rintro e w1 ⟨rfl, rfl⟩)
      go_ret
      exact ⟨rfl, 0, rfl⟩
    · have fc : w.cell? ⟨C, 16, none⟩ = some (.string (str (s.theirs 3))) := BlkIs.cell h 16
      clear h hk
      generalize str (s.theirs 3) = r at *
      go_enter Tryz.func29, Tryz.ntmps29
      go_wp2_with (go_at_call 74; (with_reducible refine (HK.out _).mono ?_); rintro e w1 ⟨rfl, rfl⟩)
      go_ret
      exact ⟨rfl, 0, rfl⟩
    · have fc : w.cell? ⟨C, 28, none⟩ = some (.string (str (s.theirs 6))) := BlkIs.cell h 28
      clear h hk
      generalize str (s.theirs 6) = r at *
      go_enter Tryz.func29, Tryz.ntmps29
      go_wp2_with (go_at_call 74; (with_reducible refine (HK.out _).mono ?_); rintro e w1 ⟨rfl, rfl⟩)
      go_ret
      exact ⟨rfl, 0, rfl⟩
    · have fc : w.cell? ⟨C, 36, none⟩ = some (.string (str (s.theirs 8))) := BlkIs.cell h 36
      clear h hk
      generalize str (s.theirs 8) = r at *
      go_enter Tryz.func29, Tryz.ntmps29
      go_wp2_with (go_at_call 74; (with_reducible refine (HK.out _).mono ?_); rintro e w1 ⟨rfl, rfl⟩)
      go_ret
      exact ⟨rfl, 0, rfl⟩
end Go.Proofs.YtnhlachoimlhhaaGreatDoor

namespace Go.Proofs.YtnhlachoimlhhaaGreatDoor
open Go.ChangeShapes Go.WideShapes Go.ChangeAt Go.RowKit
set_option linter.unusedVariables false
set_option linter.unusedSimpArgs false

def ftLst (f : Int) : Bool := (ftSpan f).isSome
/-- What both come to of f, where the other one asks for v. -/
def NgS.pick (s : NgS) (f : Int) (v : List UInt8) : Option (List UInt8) :=
  if ftMay f v = true then (if s.server = true ∨ ftLst f = false then ftChoose f (s.like f) v else ftChoose f v (s.like f)) else none
def NgS.settled (s : NgS) (f : Int) (v : List UInt8) : NgS := match s.pick f v with | none => s | some x => { s with theirs := upd s.theirs f x }
/-- What stands behind f in the answer. -/
def NgS.says (s : NgS) (f : Int) (v : List UInt8) : List UInt8 := match s.pick f v with | none => [] | some x => if ftLst f = true then x ++ s.like f else x
/-- What is held of a Confirm; none: it can't be. -/
def NgS.confirm (s : NgS) (f : Int) (v : List UInt8) : Option NgS :=
  if ftKnown f = true ∧ s.want f ≠ [] then
    (match v with
    | [] => some { s with want := upd s.want f [] }
    | b :: r => if ftLst f = true then (if b ∈ s.want f then some { s with mine := upd s.mine f [b], want := upd s.want f [] } else none)
      else if s.want f = b :: r then some { s with mine := upd s.mine f (b :: r), want := upd s.want f [] } else none)
  else some s
/-- What was taken, what is held now, which answers are due. -/
structure NgO where
  ok : Bool
  s : NgS
  due : List M.Opt
def ngKind (t : Int) : Bool := decide (t = 32 ∨ t = 33 ∨ t = 34 ∨ t = 35)
def ngQuiet (t : Int) : Bool := decide (t = 38 ∨ t = 39 ∨ t = 43 ∨ t = 193 ∨ t = 194)
def NgS.hear (s : NgS) (due : List M.Opt) (t : Int) (b : UInt8) (v : List UInt8) (must : Bool) : NgO :=
  if t = 32 then (if s.says (b.toNat : Int) v = [] ∧ must = true then ⟨false, s.settled (b.toNat : Int) v, due⟩ else ⟨true, s.settled (b.toNat : Int) v, due ++ [⟨35, b :: s.says (b.toNat : Int) v⟩]⟩)
  else if t = 34 then (if must = true then ⟨false, s, due⟩ else ⟨true, s, due ++ [⟨33, [b]⟩]⟩)
  else if t = 35 then (match s.confirm (b.toNat : Int) v with | none => ⟨false, s, due⟩ | some s2 => ⟨true, s2, due⟩)
  else ⟨true, s, due⟩
def NgS.take1 (s : NgS) (due : List M.Opt) (o : M.Opt) (must : Bool) : NgO :=
  if ngKind o.t = true then (match o.d with | [] => ⟨false, s, due⟩ | b :: v => s.hear due o.t b v must)
  else if ngQuiet o.t = true then ⟨true, s, due⟩ else ⟨!must, s, due⟩
/-- The first k options of a list, taken. -/
def NgS.takeTo (s : NgS) (due : List M.Opt) (os : List M.Opt) : Nat → NgO
  | 0 => ⟨true, s, due⟩
  | k + 1 => let r := s.takeTo due os k; if r.ok = true then r.s.take1 r.due (os.getD k ⟨0, []⟩) (decide (0 < k ∧ (os.getD (k - 1) ⟨0, []⟩).t = 1)) else r
def NgS.take (s : NgS) (due : List M.Opt) (os : List M.Opt) : NgO := s.takeTo due os os.length
def NgS.ask (s : NgS) (f : UInt8) : List M.Opt := if s.want (f.toNat : Int) = [] then [] else [⟨32, f :: s.want (f.toNat : Int)⟩]
/-- What goes with the next packet behind the answers. -/
def NgS.asks (s : NgS) : List M.Opt := s.ask 1 ++ s.ask 3 ++ s.ask 6 ++ s.ask 8
def NgS.done (s : NgS) : Bool := decide (s.want 1 = []) && decide (s.want 3 = []) && decide (s.want 6 = []) && decide (s.want 8 = [])
/-- What is asked for may be, and is no long text; what is liked, too. -/
structure NgS.Ok (s : NgS) : Prop where
  want : ∀ f, s.want f = [] ∨ ftMay f (s.want f) = true
  like : ∀ f, (s.like f).length ≤ 16
  mine : ∀ f, (s.mine f).length ≤ 16
  theirs : ∀ f, (s.theirs f).length ≤ 16
theorem ftMay_len {f : Int} {l : List UInt8} (h : ftMay f l = true) : l.length ≤ 16 ∧ 1 ≤ l.length := by
  unfold ftMay at h
  by_cases h3 : f = 3
  · rw [if_pos h3] at h
    simp at h
    omega
  · rw [if_neg h3] at h
    have hs : ftSpan f = none ∨ ∃ lo hi, ftSpan f = some (lo, hi) ∧ hi < 16 := by
      unfold ftSpan
      split
      · exact .inr ⟨_, _, rfl, by decide⟩
      · split
        · exact .inr ⟨_, _, rfl, by decide⟩
        · split
          · exact .inr ⟨_, _, rfl, by decide⟩
          · exact .inl rfl
    rcases hs with hs | ⟨lo, hi, hs, hh⟩
    · rw [hs] at h
      cases h
    · rw [hs] at h
      unfold ftList at h
      have h1 : FtGood lo hi l ∧ l ≠ [] := by simpa using h
      refine ⟨nodup_short 16 l h1.1.1 (fun b hb => by have := (h1.1.2 b hb).2; omega), ?_⟩
      cases l with
      | nil => exact absurd rfl h1.2
      | cons _ _ => simp
theorem ftPick_one {s c x : List UInt8} (h : ftPick s c = some x) : ∃ b, x = [b] ∧ b ∈ s ∧ b ∈ c := by
  unfold ftPick at h
  cases hf : s.find? fun b => decide (b ∈ c) with
  | none => rw [hf] at h; cases h
  | some b =>
    rw [hf] at h
    injection h with h
    exact ⟨b, h.symm, List.mem_of_find?_eq_some hf, by simpa using List.find?_some hf⟩
theorem ftChoose_len {f : Int} {a c x : List UInt8} (h : ftChoose f a c = some x) : x.length ≤ 16 ∧ 1 ≤ x.length := by
  unfold ftChoose at h
  by_cases hm : ftMay f c = true
  · rw [if_pos hm] at h
    by_cases h3 : f = 3
    · rw [if_pos h3] at h
      injection h with h
      subst h
      exact ftMay_len hm
    · rw [if_neg h3] at h
      by_cases hm2 : ftMay f a = true
      · rw [if_pos hm2] at h
        obtain ⟨b, rfl, _⟩ := ftPick_one h
        simp
      · rw [if_neg hm2] at h
        cases h
  · rw [if_neg hm] at h
    cases h
theorem NgS.pick_len {s : NgS} {f : Int} {v x : List UInt8} (h : s.pick f v = some x) : x.length ≤ 16 ∧ 1 ≤ x.length := by
  unfold NgS.pick at h
  split at h
  · split at h
    · exact ftChoose_len h
    · exact ftChoose_len h
  · cases h
theorem upd_len {g : Int → List UInt8} {f : Int} {l : List UInt8} (h : ∀ x, (g x).length ≤ 16) (hl : l.length ≤ 16) : ∀ x, (upd g f l x).length ≤ 16 := by
  intro x
  unfold upd
  split
  · exact hl
  · exact h x
theorem NgS.Ok.settled {s : NgS} (h : s.Ok) (f : Int) (v : List UInt8) : (s.settled f v).Ok := by
  unfold NgS.settled
  cases hp : s.pick f v with
  | none => exact h
  | some x => exact ⟨h.want, h.like, h.mine, upd_len h.theirs (NgS.pick_len hp).1⟩
theorem NgS.Ok.says {s : NgS} (h : s.Ok) (f : Int) (v : List UInt8) : (s.says f v).length ≤ 32 := by
  unfold NgS.says
  cases hp : s.pick f v with
  | none => simp
  | some x =>
    have h1 := (NgS.pick_len hp).1
    have h2 := h.like f
    dsimp only
    split
    · rw [List.length_append]; omega
    · omega
theorem upd_none {g : Int → List UInt8} {f : Int} (h : ∀ x, g x = [] ∨ ftMay x (g x) = true) : ∀ x, upd g f [] x = [] ∨ ftMay x (upd g f [] x) = true := by
  intro x
  unfold upd
  split
  · exact .inl rfl
  · exact h x
theorem NgS.Ok.confirm {s s2 : NgS} (h : s.Ok) {f : Int} {v : List UInt8} (hc : s.confirm f v = some s2) : s2.Ok := by
  unfold NgS.confirm at hc
  split at hc
  · rename_i h1
    have h2 : (s.want f).length ≤ 16 := by
      rcases h.want f with h3 | h3
      · exact absurd h3 h1.2
      · exact (ftMay_len h3).1
    split at hc
    · injection hc with hc
      subst hc
      exact ⟨upd_none h.want, h.like, h.mine, h.theirs⟩
    · split at hc
      · split at hc
        · injection hc with hc
          subst hc
          exact ⟨upd_none h.want, h.like, upd_len h.mine (by simp), h.theirs⟩
        · cases hc
      · split at hc
        · rename_i h3
          injection hc with hc
          subst hc
          exact ⟨upd_none h.want, h.like, upd_len h.mine (by rw [← h3]; exact h2), h.theirs⟩
        · cases hc
  · injection hc with hc
    subst hc
    exact h
theorem NgS.Ok.want_ {s : NgS} (h : s.Ok) (f : Int) (l : List UInt8) (hm : ftMay f l = true) : ({ s with want := upd s.want f l } : NgS).Ok :=
  ⟨fun x => by
    show upd s.want f l x = [] ∨ ftMay x (upd s.want f l x) = true
    unfold upd
    split
    · rename_i hx
      subst hx
      exact .inr hm
    · exact h.want x, h.like, h.mine, h.theirs⟩
theorem NgS.Ok.like_ {s : NgS} (h : s.Ok) (f : Int) (l : List UInt8) (hm : ftMay f l = true) : ({ s with like := upd s.like f l } : NgS).Ok := ⟨h.want, upd_len h.like (ftMay_len hm).1, h.mine, h.theirs⟩
theorem NgS.Ok.want_len {s : NgS} (h : s.Ok) (f : Int) : (s.want f).length ≤ 16 := by
  rcases h.want f with h3 | h3
  · rw [h3]; simp
  · exact (ftMay_len h3).1
theorem NgS.Ok.hear {s : NgS} (h : s.Ok) (due : List M.Opt) (t : Int) (b : UInt8) (v : List UInt8) (must : Bool) : (s.hear due t b v must).s.Ok ∧ (s.hear due t b v must).due.length ≤ due.length + 1 := by
  unfold NgS.hear
  split
  · split
    · exact ⟨h.settled _ _, by simp⟩
    · exact ⟨h.settled _ _, by simp⟩
  · split
    · split
      · exact ⟨h, by simp⟩
      · exact ⟨h, by simp⟩
    · split
      · split
        · exact ⟨h, by simp⟩
        · rename_i hc
          exact ⟨h.confirm hc, by simp⟩
      · exact ⟨h, by simp⟩
theorem NgS.Ok.take1 {s : NgS} (h : s.Ok) (due : List M.Opt) (o : M.Opt) (must : Bool) : (s.take1 due o must).s.Ok ∧ (s.take1 due o must).due.length ≤ due.length + 1 := by
  unfold NgS.take1
  split
  · split
    · exact ⟨h, by simp⟩
    · exact h.hear _ _ _ _ _
  · split
    · exact ⟨h, by simp⟩
    · exact ⟨h, by simp⟩
theorem NgS.Ok.takeTo {s : NgS} (h : s.Ok) (due os : List M.Opt) : ∀ k, (s.takeTo due os k).s.Ok ∧ (s.takeTo due os k).due.length ≤ due.length + k
  | 0 => ⟨h, Nat.le_refl _⟩
  | k + 1 => by
    have ih := NgS.Ok.takeTo h due os k
    unfold NgS.takeTo
    dsimp only
    split
    · have h2 := NgS.Ok.take1 ih.1 (s.takeTo due os k).due (os.getD k ⟨0, []⟩) (decide (0 < k ∧ (os.getD (k - 1) ⟨0, []⟩).t = 1))
      exact ⟨h2.1, by omega⟩
    · exact ⟨ih.1, by omega⟩
theorem NgS.asks_len (s : NgS) : s.asks.length ≤ 4 := by
  have h : ∀ f, (s.ask f).length ≤ 1 := fun f => by unfold NgS.ask; split <;> simp
  unfold NgS.asks
  simp only [List.length_append]
  have := h 1; have := h 3; have := h 6; have := h 8
  omega
end Go.Proofs.YtnhlachoimlhhaaGreatDoor

namespace Go.Proofs.YtnhlachoimlhhaaGreatDoor
open Go.ChangeShapes Go.WideShapes Go.ChangeAt Go.RowKit
set_option linter.unusedVariables false
set_option linter.unusedSimpArgs false

/-- A row of options that lies at its block's head. -/
def OpRow (v : Value) (os : List M.Opt) (w : World) : Prop := w.ownsRow 0 106 2 v os.length (ovList os)
theorem OpRow.nil (w : World) : OpRow (.slice none 0 0) [] w := World.ownsRow_nil _ _ _ _
theorem OpRow.kept {v : Value} {os : List M.Opt} {S : List Nat} {w w' : World} (h : OpRow v os w) (k : Kept S w w') (hn : ∀ g, v.ownBlock = some g → g ∉ S) : OpRow v os w' := by
  refine ⟨h.1, ?_⟩
  rcases h.2 with hv | ⟨g, cap, cur, rfl, hb, hg, rest⟩
  · exact .inl hv
  · exact .inr ⟨g, cap, cur, rfl, hb, (k.block g (Array.getElem?_eq_some_iff.1 hg).1 (hn g rfl)).trans hg, rest⟩
theorem OpRow.lt {v : Value} {os : List M.Opt} {w : World} (h : OpRow v os w) : ∀ g, v.ownBlock = some g → g < w.heap.size := by
  intro g hg
  rcases h.2 with ⟨rfl, _⟩ | ⟨a, cap, cur, rfl, _, ha, _⟩
  · cases hg
  · have e1 : a = g := by simpa [Value.ownBlock] using hg
    subst e1
    exact (Array.getElem?_eq_some_iff.1 ha).1
theorem OpRow.blk {v : Value} {os : List M.Opt} {w : World} {T' C : Nat} {cs : Array Value} (h : OpRow v os w) (h' : BlkIs cs T' C w) (hT : 106 ≠ T') : v.ownBlock ≠ some C := by
  intro hg
  rcases h.2 with ⟨rfl, _⟩ | ⟨a, cap, cur, rfl, _, ha, _⟩
  · cases hg
  · have e1 : a = C := by simpa [Value.ownBlock] using hg
    subst e1
    unfold BlkIs at h'
    rw [ha] at h'
    injection h' with h'
    injection h' with _ h' _
    exact hT h'
/-- The blocks that a slice owns. -/
def ownB (v : Value) : List Nat := v.ownBlock.toList
theorem mem_ownB {v : Value} {x : Nat} : x ∈ ownB v ↔ v.ownBlock = some x := by unfold ownB; simp
set_option maxRecDepth 100000 in
theorem ngSay_any (t : Int) (b : UInt8) (l : List UInt8) (hl : l.length ≤ 1099511627776) (w : World) :
    Calls Tryz.prog 70 #[.int .i64 t, .int .i64 (b.toNat : Int), .string (str l)] w fun e w' => e = .returned (Ov ⟨t, b :: l⟩) ∧ Below w.heap.size w w' := by
  have hb := UInt8.toNat_lt b
  have q1 : IntKind.u8.wrap (b.toNat : Int) = (b.toNat : Int) := by rw [IntKind.wrap_u8]; omega
  have hcv := fun W => conv_one b.toNat hb W
  have hof : UInt8.ofNat b.toNat = b := by simp
  rw [hof] at hcv
  have happ : str [b] ++ str l = str (b :: l) := rfl
  obtain ⟨n, hn⟩ : ∃ n, b.toNat = n := ⟨_, rfl⟩
  rw [hn] at hb q1 hcv ⊢
  unfold Ov
  obtain ⟨r, hr⟩ : ∃ r, str (b :: l) = r := ⟨_, rfl⟩
  obtain ⟨x, hx⟩ : ∃ x, str [b] = x := ⟨_, rfl⟩
  obtain ⟨y, hy⟩ : ∃ y, str l = y := ⟨_, rfl⟩
  have hxs : x.size = 1 := by rw [← hx]; rfl
  have hys : y.size ≤ 1099511627776 := by rw [← hy]; exact hl
  rw [hr, hx, hy] at happ
  rw [hx] at hcv
  dsimp only
  rw [hr, hy]
  clear hr hx hy hof hn hl
  have HC := Lib.hid (hcv (w.alloc (.cells #[.int .i64 0, .string ⟨#[]⟩] 106)))
  clear hcv
  have hcv := HC.out
  clear HC
  rw [show (w.alloc (.cells #[.int .i64 0, .string ⟨#[]⟩] 106)).heap.size = w.heap.size + 1 by simp] at hcv
  go_enter Tryz.func70, Tryz.ntmps70
  go_wp2
  refine bodyPost_ret (results_cell_row Tryz.results70 _ _ w.heap.size 106 #[.int .i64 t, .string r] (0, 0) _ rfl ((BlkIs.new #[.int .i64 t, .string r] 106 w).alloc _) Tryz.underlying106 rfl infoOv) rfl ⟨rfl, (((Kept.refl [] w).alloc _).alloc _).below0⟩
/-- What lies at the nine features. -/
def ngFeats (s : NgS) : List Value := [eS, eS, eS, eS, sV (s.want 1), sV (s.like 1), sV (s.mine 1), sV (s.theirs 1), eS, eS, eS, eS,
  sV (s.want 3), sV (s.like 3), sV (s.mine 3), sV (s.theirs 3), eS, eS, eS, eS, eS, eS, eS, eS, sV (s.want 6), sV (s.like 6), sV (s.mine 6), sV (s.theirs 6), eS, eS, eS, eS,
  sV (s.want 8), sV (s.like 8), sV (s.mine 8), sV (s.theirs 8)]
theorem NgAt.feats {s : NgS} {due : Value} {C : Nat} {w : World} (h : NgAt s due C w) : w.rangeAt C 1 (ngFeats s) := by
  intro j v hv
  rw [BlkIs.cell h (1 + j)]
  have e : (ngCells s due).toList = .bool s.server :: (ngFeats s ++ [due]) := rfl
  have hj : j < (ngFeats s).length := (List.getElem?_eq_some_iff.1 hv).1
  rw [← Array.getElem?_toList, e, Nat.add_comm, List.getElem?_cons_succ, List.getElem?_append_left hj]
  exact hv
theorem infoFeats : (Tryz.prog.info? 109).map (·.size) = some 36 := by kernel_rfl
end Go.Proofs.YtnhlachoimlhhaaGreatDoor

namespace Go.Proofs.YtnhlachoimlhhaaGreatDoor
open Go.ChangeShapes Go.WideShapes Go.ChangeAt Go.RowKit
set_option linter.unusedVariables false
set_option linter.unusedSimpArgs false

/-- What stands at a feature of nine. -/
def ngSel (g : Int → List UInt8) (k : Nat) : List UInt8 := if k = 1 ∨ k = 3 ∨ k = 6 ∨ k = 8 then g (k : Int) else []
set_option maxRecDepth 100000 in
theorem ngFeats_at (s : NgS) (k : Nat) (hk : k < 9) (w : World) : (Instr.index 109 (.agg (ngFeats s).toArray) (.int .i64 (k : Int))).run Tryz.prog w = .ok (.agg #[sV (ngSel s.want k), sV (ngSel s.like k), sV (ngSel s.mine k), sV (ngSel s.theirs k)]) w := by
  have h : k = 0 ∨ k = 1 ∨ k = 2 ∨ k = 3 ∨ k = 4 ∨ k = 5 ∨ k = 6 ∨ k = 7 ∨ k = 8 := by omega
  rcases h with rfl | rfl | rfl | rfl | rfl | rfl | rfl | rfl | rfl
  all_goals
    clear hk
    go_simp
    try rfl
theorem ngDone_yes {s : NgS} (h : ∀ j, j < 9 → ngSel s.want j = []) : s.done = true := by
  have h1 := h 1 (by decide)
  have h3 := h 3 (by decide)
  have h6 := h 6 (by decide)
  have h8 := h 8 (by decide)
  unfold ngSel at h1 h3 h6 h8
  simp at h1 h3 h6 h8
  simp [NgS.done, h1, h3, h6, h8]
theorem ngDone_no {s : NgS} {j : Nat} (h : ngSel s.want j ≠ []) : s.done = false := by
  unfold ngSel at h
  by_cases hj : j = 1 ∨ j = 3 ∨ j = 6 ∨ j = 8
  · rw [if_pos hj] at h
    rcases hj with rfl | rfl | rfl | rfl <;> simp_all [NgS.done]
  · rw [if_neg hj] at h
    exact absurd rfl h
theorem str_ne {l : List UInt8} (h : l ≠ []) : (str l).toList.isEmpty = false := by
  rw [str_toList]
  cases l with
  | nil => exact absurd rfl h
  | cons _ _ => rfl
set_option maxHeartbeats 4000000 in
set_option maxRecDepth 100000 in
theorem ngDone_any (s : NgS) (due : Value) (C : Nat) (w : World) (h : NgAt s due C w) :
    Calls Tryz.prog 26 #[.pointer (some ⟨C, 0, none⟩)] w fun e w' => e = .returned (.bool s.done) ∧ Below w.heap.size w w' := by
  have HF := Lib.hid h.feats
  have HIX := Lib.hid (ngFeats_at s)
  have HI := infoFeats
  obtain ⟨V, hV⟩ : ∃ V, (ngFeats s).toArray = V := ⟨_, rfl⟩
  have HL : Hid ((ngFeats s).length = 36) := Lib.hid rfl
  rw [hV] at HIX
  have HV := Lib.hid hV
  clear hV h
  go_enter Tryz.func26, Tryz.ntmps26
  go_wp2_with (refine wpList_load_mid rfl _ _ rfl C 1 rfl (ngFeats s) _ HF.out Tryz.underlying109 rfl infoFeats ?_; rw [HV.out])
  clear HF
  go_loopw [11] (fun iv wr => ∃ k : Nat, iv = .int .i64 (k : Int) ∧ k ≤ 9 ∧ Hid (∀ j, j < k → ngSel s.want j = []) ∧ Hid (Kept [] w wr)) (fun iv _ => 9 - (intOf iv).toNat)
  case atStart => exact ⟨0, rfl, by decide, Lib.hid (fun j hj => absurd hj (Nat.not_lt_zero _)), Lib.hid (Kept.refl _ _)⟩
  case round =>
    obtain ⟨k, rfl, hk, hg, hwr⟩ := hrel
    by_cases hk9 : k < 9
    · have d9 : decide ((k : Int) < 9) = true := decide_eq_true (by omega)
      have hix := HIX.out k hk9
      unfold sV at hix
      obtain ⟨q, hq⟩ : ∃ q, ngSel s.want k = q := ⟨_, rfl⟩
      rw [hq] at hix
      by_cases hne : q = []
      · have HG2 : Hid (∀ j, j < k + 1 → ngSel s.want j = []) := Lib.hid (fun j hj => by
          by_cases h : j < k
          · exact hg.out j h
          · obtain rfl : j = k := by omega
            exact hq.trans hne)
        subst hne
        have e : str [] = ⟨#[]⟩ := rfl
        rw [e] at hix
        clear hq
        generalize str (ngSel s.like k) = x1 at *
        generalize str (ngSel s.mine k) = x2 at *
        generalize str (ngSel s.theirs k) = x3 at *
        go_wp2
        refine ⟨⟨k + 1, by go_num, by omega, HG2, Lib.hid (hwr.out.alloc _)⟩, ?_⟩
        simp [intOf]; omega
      · have hem := str_ne hne
        have HD : Hid (s.done = false) := Lib.hid (ngDone_no (by rw [hq]; exact hne))
        generalize str q = x0 at *
        clear hq hne
        generalize str (ngSel s.like k) = x1 at *
        generalize str (ngSel s.mine k) = x2 at *
        generalize str (ngSel s.theirs k) = x3 at *
        go_wp2
        go_ret
        exact ⟨by rw [HD.out]; rfl, (hwr.out.alloc _).below0⟩
    · obtain rfl : k = 9 := by omega
      have HD : Hid (s.done = true) := Lib.hid (ngDone_yes hg.out)
      go_wp2
      go_ret
      exact ⟨by rw [HD.out]; rfl, hwr.out.below0⟩
end Go.Proofs.YtnhlachoimlhhaaGreatDoor

namespace Go.Proofs.YtnhlachoimlhhaaGreatDoor
open Go.ChangeShapes Go.WideShapes Go.ChangeAt Go.RowKit
set_option linter.unusedVariables false
set_option linter.unusedSimpArgs false

/-- append of one option, literal. -/
theorem wp_optA {ops : Array Oper} {rest : List Oper} {o : Oper} {a : Act} {Q : Exit → Act → World → Prop} (hgd : o.guard = none) (s x : Operand)
    (ho : o.op = .call { callee := .builtin .append, args := #[s, x], argTypes := #[28, 28] })
    (v : Value) (os : List M.Opt) (hs : a.eval s = v) (w0 w1 : World) (p : M.Opt) (hw : w1 = w0.alloc (OvBox p)) (hb : OpRow v os w0) (H : Nat) (hH : w0.heap.size = H)
    (hx : a.eval x = .slice (some ⟨H, 0, none⟩) 1 1) (hlen : os.length ≤ 1073741824)
    (h : ∀ v' w', OpRow v' (os ++ [p]) w' → Kept (ownB v) w0 w' → (v'.ownBlock = v.ownBlock ∨ v'.ownBlock = some (H + 1)) → v' ≠ .slice none 0 0 → wpList Tryz.prog ops Q rest (a.put o.dst v') w') : wpList Tryz.prog ops Q (o :: rest) a w1 := by
  obtain ⟨i0, hi, hz0, hz1, hz2⟩ := info_parts infoOv2
  subst hH hw
  have hb' : OpRow v os (w0.alloc (OvBox p)) := hb.kept (S := []) ((Kept.refl [] w0).alloc _) (fun _ _ h => by cases h)
  refine wpList_append_own_at _ hgd s x 28 ho 0 106 i0 (.agg #[.int .i64 0, .string ⟨#[]⟩]) 2 24 Tryz.underlying28 hi hz0 hz1 hz2 rfl (by decide) v os.length (ovList os) hs hb' ⟨w0.heap.size, 0, none⟩ 1 1 [.int .i64 p.t, .string (str p.d)] hx rfl (ovBox_cells p w0) (by intro u hu; simp at hu; rcases hu with rfl | rfl <;> rfl) (by unfold maxLen; omega) (by omega) (Nat.zero_le _) ?_
  intro v' w' ho' hg hnil hat
  refine h v' w' ?_ ?_ ?_ ?_
  · unfold OpRow
    rw [List.length_append, ovList_snoc]
    exact ho'
  · exact ((Kept.refl (ownB v) w0).alloc _).grown hg (fun k hk => .inl (mem_ownB.2 hk))
  · simpa using hat
  · intro e
    have := (hnil.1 e).2
    omega
/-- Of the features below k those that are asked for. -/
def NgS.asksTo (s : NgS) : Nat → List M.Opt
  | 0 => []
  | k + 1 => s.asksTo k ++ if ngSel s.want k = [] then [] else [⟨32, UInt8.ofNat k :: ngSel s.want k⟩]
theorem NgS.asks_all (s : NgS) : s.asksTo 9 = s.asks := by
  simp [NgS.asksTo, NgS.asks, NgS.ask, ngSel]
theorem NgS.asksTo_len (s : NgS) (k : Nat) : (s.asksTo k).length ≤ k := by
  induction k with
  | zero => simp [NgS.asksTo]
  | succ k ih =>
    unfold NgS.asksTo
    rw [List.length_append]
    split
    · simp; omega
    · simp; omega
set_option maxHeartbeats 4000000 in
set_option maxRecDepth 100000 in
theorem ngOpts_any (s : NgS) (os : List M.Opt) (v : Value) (C : Nat) (w : World) (h : NgAt s v C w) (hr : OpRow v os w) (hok : s.Ok) (hlen : os.length ≤ 1000000) :
    Calls Tryz.prog 22 #[.pointer (some ⟨C, 0, none⟩)] w fun e w' => ∃ v', e = .returned v' ∧ OpRow v' (os ++ s.asks) w' ∧ NgAt s (.slice none 0 0) C w' ∧ Kept (C :: ownB v) w w' ∧ (∀ g, v'.ownBlock = some g → v.ownBlock = some g ∨ w.heap.size ≤ g) := by
  have hne : v.ownBlock ≠ some C := hr.blk h (by decide)
  have fc : w.cell? ⟨C, 37, none⟩ = some v := BlkIs.cell h 37
  have ff := BlkIs.free h 37
  have HK1 : Hid (Kept [C] w (w.setCell ⟨C, 37, none⟩ (.slice none 0 0))) := Lib.hid ((Kept.refl [C] w).setCell (.inl (by simp)) _)
  have HA1 : Hid (NgAt s (.slice none 0 0) C (w.setCell ⟨C, 37, none⟩ (.slice none 0 0))) := Lib.hid (BlkIs.set h 37 (.slice none 0 0))
  have HR1 : Hid (OpRow v os (w.setCell ⟨C, 37, none⟩ (.slice none 0 0))) := Lib.hid (hr.kept HK1.out (fun g hg hm => by
    rw [List.mem_singleton.1 hm] at hg
    exact hne hg))
  have HF1 : Hid ((w.setCell ⟨C, 37, none⟩ (.slice none 0 0)).rangeAt C 1 (ngFeats s)) := Lib.hid HA1.out.feats
  have HWL := Lib.hid hok.want_len
  have HIX := Lib.hid (ngFeats_at s)
  obtain ⟨V, hV⟩ : ∃ V, (ngFeats s).toArray = V := ⟨_, rfl⟩
  rw [hV] at HIX
  have HV := Lib.hid hV
  have HNE := Lib.hid hne
  have HLEN := Lib.hid hlen
  have HAL := Lib.hid s.asks_all
  clear hV h hr hne hok hlen
  go_enter Tryz.func22, Tryz.ntmps22
  go_wp2_with (refine wpList_load_mid rfl _ _ rfl C 1 rfl (ngFeats s) _ HF1.out Tryz.underlying109 rfl infoFeats ?_; rw [HV.out])
  clear fc ff HF1
  have HSZ := Lib.hid HK1.out.size
  generalize w.setCell ⟨C, 37, none⟩ (.slice none 0 0) = w1 at *
  go_loopw [3, 19] (fun u iv wr => ∃ k : Nat, iv = .int .i64 (k : Int) ∧ k ≤ 9 ∧ Hid (OpRow u (os ++ s.asksTo k) wr) ∧ Hid (Kept (ownB v) w1 wr) ∧ Hid (∀ g, u.ownBlock = some g → v.ownBlock = some g ∨ w1.heap.size ≤ g)) (fun _ iv _ => 9 - (intOf iv).toNat)
  case atStart => exact ⟨0, rfl, by decide, Lib.hid (by simpa [NgS.asksTo] using HR1.out), Lib.hid (Kept.refl _ _), Lib.hid (fun g hg => .inl hg)⟩
  case round =>
    obtain ⟨k, rfl, hk, hg, hwr, hown⟩ := hrel
    by_cases hk9 : k < 9
    · have d9 : decide ((k : Int) < 9) = true := decide_eq_true (by omega)
      have hix := HIX.out k hk9
      unfold sV at hix
      have HTO : Hid (s.asksTo (k + 1) = s.asksTo k ++ if ngSel s.want k = [] then [] else [⟨32, UInt8.ofNat k :: ngSel s.want k⟩]) := Lib.hid rfl
      have hql : (ngSel s.want k).length ≤ 16 := by
        unfold ngSel
        split
        · exact HWL.out _
        · simp
      obtain ⟨q, hq⟩ : ∃ q, ngSel s.want k = q := ⟨_, rfl⟩
      rw [hq] at hix HTO hql
      by_cases hne : q = []
      · have HTO2 : Hid (s.asksTo (k + 1) = s.asksTo k) := Lib.hid (by rw [HTO.out, if_pos hne, List.append_nil])
        subst hne
        have e : str [] = ⟨#[]⟩ := rfl
        rw [e] at hix
        clear hq HTO
        generalize str (ngSel s.like k) = x1 at *
        generalize str (ngSel s.mine k) = x2 at *
        generalize str (ngSel s.theirs k) = x3 at *
        go_wp2
        refine ⟨⟨k + 1, by go_num, by omega, Lib.hid ?_, Lib.hid (hwr.out.alloc _), hown⟩, ?_⟩
        · rw [HTO2.out]
          exact hg.out.kept ((Kept.refl [] wr).alloc _) (fun _ _ h => by cases h)
        · simp [intOf]; omega
      · have HTO2 : Hid (s.asksTo (k + 1) = s.asksTo k ++ [⟨32, UInt8.ofNat k :: q⟩]) := Lib.hid (by rw [HTO.out, if_neg hne])
        have hem := str_ne hne
        have HSY : Hid (∀ W, Calls Tryz.prog 70 #[.int .i64 32, .int .i64 (k : Int), .string (str q)] W fun e w' => e = .returned (Ov ⟨32, UInt8.ofNat k :: q⟩) ∧ Below W.heap.size W w') := Lib.hid (fun W => by
          have h9 := ngSay_any 32 (UInt8.ofNat k) q (by omega) W
          rw [show (((UInt8.ofNat k).toNat : Nat) : Int) = (k : Int) by simp; omega] at h9
          exact h9)
        have HLL : Hid ((os ++ s.asksTo k).length ≤ 1073741824) := Lib.hid (by have := s.asksTo_len k; have := HLEN.out; rw [List.length_append]; omega)
        generalize str q = x0 at *
        unfold Ov at HSY
        obtain ⟨y, hy⟩ : ∃ y, str (UInt8.ofNat k :: q) = y := ⟨_, rfl⟩
        have HY := Lib.hid hy
        dsimp only at HSY
        rw [hy] at HSY
        clear hq hne hql hy
        generalize str (ngSel s.like k) = x1 at *
        generalize str (ngSel s.mine k) = x2 at *
        generalize str (ngSel s.theirs k) = x3 at *
        go_upto_region 9 with (fail)
        have HKA : Hid (Kept [] wr (wr.alloc (.cells #[.string x0, .string x1, .string x2, .string x3] 108))) := Lib.hid ((Kept.refl [] wr).alloc _)
        go_wp2_with (first
          | (go_at_call 70; (with_reducible refine (HSY.out _).mono ?_); rintro e w2 ⟨rfl, hb2⟩; have HK2 : Hid (Kept [] wr w2) := Lib.hid (HKA.out.trans' (Kept.of_below [] hb2)); have HSZ2 : Hid (wr.heap.size ≤ w2.heap.size) := Lib.hid HK2.out.size; clear hb2)
          | (at_builtin; refine wp_optA rfl _ _ rfl u3 (os ++ s.asksTo k) rfl w2 _ ⟨32, UInt8.ofNat k :: q⟩ (by show _ = w2.alloc (.cells #[.int .i64 32, .string (str (UInt8.ofNat k :: q))] _); rw [HY.out]) (hg.out.kept HK2.out (fun _ _ h => by cases h)) _ rfl rfl HLL.out ?_; intro v2 w9 ho9 hk9' hat9 hn9))
        refine ⟨⟨k + 1, by go_num, by omega, Lib.hid ?_, Lib.hid ?_, Lib.hid fun g h2 => ?_⟩, ?_⟩
        · rw [HTO2.out, ← List.append_assoc]
          exact ho9
        · refine (hwr.out.trans (HK2.out.more (T := []) (fun _ h => h)) (fun _ h => by cases h)).trans hk9' (fun x hx => ?_)
          rcases hown.out x (mem_ownB.1 hx) with h | h
          · exact .inl (mem_ownB.2 h)
          · exact .inr h
        · rcases hat9 with h | h
          · exact hown.out g (h ▸ h2)
          · rw [h] at h2
            injection h2 with h2
            have := HSZ2.out
            have := hwr.out.size
            exact .inr (by omega)
        · simp [intOf]; omega
    · obtain rfl : k = 9 := by omega
      rw [HAL.out] at hg
      go_wp2
      go_ret
      refine ⟨_, rfl, hg.out, BlkIs.kept HA1.out hwr.out (fun hm => HNE.out (mem_ownB.1 hm)), (HK1.out.more (fun x hx => ?_)).trans' (hwr.out.more fun x hx => List.mem_cons_of_mem _ hx), fun g hg => (hown.out g hg).imp id fun h => Nat.le_trans HSZ.out h⟩
      rw [List.mem_singleton.1 hx]
      simp
end Go.Proofs.YtnhlachoimlhhaaGreatDoor

namespace Go.Proofs.YtnhlachoimlhhaaGreatDoor
open Go.ChangeShapes Go.WideShapes Go.ChangeAt Go.RowKit
set_option linter.unusedVariables false
set_option linter.unusedSimpArgs false

theorem indexByte_all' (l : List UInt8) (c : UInt8) (W : World) : Calls Tryz.prog 128 #[.string (str l), .int .u8 (c.toNat : Int)] W fun e w' => e = .returned (.int .i64 (Lib.indexByte l c)) ∧ w' = W := by
  have h := Tryz.stringslite_IndexByte (str l) (c.toNat : Int) W
  rw [show ((c.toNat : Int)).toNat.toUInt8 = c by simp] at h
  exact h
set_option maxHeartbeats 2000000 in
set_option maxRecDepth 100000 in
theorem liteIndex_one (l : List UInt8) (hl : l.length ≤ 9223372036854775807) (b : UInt8) (w : World) :
    Calls Tryz.prog 283 #[.string (str l), .string (str [b])] w fun e w' => (∃ r : Int, e = .returned (.int .i64 r) ∧ decide (0 ≤ r) = decide (b ∈ l)) ∧ w' = w := by
  have hsz : (str [b]).size = 1 := rfl
  have HIX := Lib.hid (fun W => indexByte_all' l b W)
  have HIN := Lib.hid (index_in l b)
  have HEQ : Hid (((str [b]).toList == (str l).toList) = true → decide (b ∈ l) = true) := Lib.hid (fun h => by
    rw [str_toList, str_toList] at h
    have h2 : [b] = l := by simpa using h
    rw [← h2]
    simp)
  have hx0 : ∀ h : 0 < (str [b]).size, (str [b])[0]'h = b := fun h => rfl
  obtain ⟨x, hx⟩ : ∃ x, str [b] = x := ⟨_, rfl⟩
  obtain ⟨y, hy⟩ : ∃ y, str l = y := ⟨_, rfl⟩
  rw [hx] at hsz HEQ ⊢
  rw [hx] at hx0
  rw [hy] at HIX HEQ ⊢
  have h0 : 0 < x.size := by omega
  have hx1 := hx0 h0
  generalize Lib.indexByte l b = r at *
  rw [← hx1] at HIX
  clear hx0 hx hy
  have HX1 := Lib.hid hx1
  clear hx1
  cases hq : (x.toList == y.toList) with
  | true =>
    have HD := Lib.hid (HEQ.out hq)
    go_enter Tryz.func283, Tryz.ntmps283
    go_wp2
    go_ret
    exact ⟨⟨0, rfl, by rw [HD.out]; rfl⟩, rfl⟩
  | false =>
    go_enter Tryz.func283, Tryz.ntmps283
    go_wp2_with (go_at_call 128; (with_reducible refine (HIX.out _).mono ?_); rintro e w1 ⟨rfl, rfl⟩)
    go_ret
    exact ⟨⟨r, rfl, HIN.out⟩, rfl⟩
theorem contains_oneB (l : List UInt8) (hl : l.length ≤ 9223372036854775807) (b : UInt8) (w : World) :
    Calls Tryz.prog 215 #[.string (str l), .string (str [b])] w fun e w' => e = .returned (.bool (decide (b ∈ l))) ∧ w' = w := by
  have HIX := Lib.hid (fun W => liteIndex_one l hl b W)
  generalize str [b] = x at *
  generalize str l = y at *
  have HI2 : Hid (∀ W, Calls Tryz.prog 250 #[.string y, .string x] W fun e w' => (∃ r : Int, e = .returned (.int .i64 r) ∧ decide (0 ≤ r) = decide (b ∈ l)) ∧ w' = W) := Lib.hid (fun W => by
    go_enter Tryz.func250, Tryz.ntmps250
    go_wp2_with (go_at_call 283; (with_reducible refine (HIX.out _).mono ?_); rintro e w1 ⟨⟨r, rfl, hr⟩, rfl⟩)
    go_ret
    exact ⟨⟨r, rfl, hr⟩, rfl⟩)
  clear HIX
  go_enter Tryz.func215, Tryz.ntmps215
  go_wp2_with (go_at_call 250; (with_reducible refine (HI2.out _).mono ?_); rintro e w1 ⟨⟨r, rfl, hr⟩, rfl⟩; have HR := Lib.hid hr; clear hr)
  go_ret
  exact ⟨by rw [← HR.out]; rfl, rfl⟩
theorem ngHas_list (f : Int) (hf : ftLst f = true) (l : List UInt8) (hl : l.length ≤ 9223372036854775807) (b : UInt8) (w : World) :
    Calls Tryz.prog 189 #[.int .i64 f, .string (str l), .string (str [b])] w fun e w' => e = .returned (.bool (decide (b ∈ l))) ∧ w = w' := by
  have HL := Lib.hid (fun W => ftList_any f W)
  have HC := Lib.hid (fun W => contains_oneB l hl b W)
  have hf2 : (ftSpan f).isSome = true := hf
  rw [hf2] at HL
  generalize str [b] = x at *
  generalize str l = y at *
  generalize decide (b ∈ l) = d at *
  clear hf hf2
  go_enter Tryz.func189, Tryz.ntmps189
  go_wp2_with (first
    | (go_at_call 111; (with_reducible refine (HL.out _).mono ?_); rintro e w1 ⟨rfl, rfl⟩)
    | (go_at_call 215; (with_reducible refine (HC.out _).mono ?_); rintro e w2 ⟨rfl, rfl⟩))
  go_ret
  exact ⟨rfl, rfl⟩
theorem ngHas_one (f : Int) (hf : ftLst f = false) (l c : List UInt8) (w : World) :
    Calls Tryz.prog 189 #[.int .i64 f, .string (str l), .string (str c)] w fun e w' => e = .returned (.bool (decide (l = c))) ∧ w = w' := by
  have HL := Lib.hid (fun W => ftList_any f W)
  have hf2 : (ftSpan f).isSome = false := hf
  rw [hf2] at HL
  have HEQ : Hid (((str l).toList == (str c).toList) = decide (l = c)) := Lib.hid (by
    rw [str_toList, str_toList]
    by_cases h : l = c
    · rw [decide_eq_true h, h]; simp
    · rw [decide_eq_false h, beq_eq_false_iff_ne]; exact h)
  generalize str c = x at *
  generalize str l = y at *
  generalize decide (l = c) = d at *
  clear hf hf2
  go_enter Tryz.func189, Tryz.ntmps189
  go_wp2_with (go_at_call 111; (with_reducible refine (HL.out _).mono ?_); rintro e w1 ⟨rfl, rfl⟩)
  go_ret
  exact ⟨by rw [← HEQ.out]; rfl, rfl⟩
end Go.Proofs.YtnhlachoimlhhaaGreatDoor
