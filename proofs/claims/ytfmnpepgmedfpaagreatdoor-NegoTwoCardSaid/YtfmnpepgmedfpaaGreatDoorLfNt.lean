/-
  Two sides that agree on one feature: what each call makes of what a side holds.
  Two sides in one memory, and a list that goes from one to the other.
  The law NegoTwo, walked (its opening handed in).
  Rows of bools that came in as arguments, opened.
-/
import Derived.Test.YtfmnpepgmedfpaaGreatDoorNgX
import Derived.Test.YtfmnpepgmedfpaaGreatDoorNgZ
import Derived.Test.YtfmnpepgmedfpaaGreatDoorFtW
import Derived.Test.YtfmnpepgmedfpaaGreatDoorOpenIn
namespace Go.Proofs.YtfmnpepgmedfpaaGreatDoor
open Go.ChangeShapes Go.WideShapes Go.ChangeAt Go.RowKit
set_option linter.unusedVariables false
set_option linter.unusedSimpArgs false

/-- A side that asks by 'ask' and likes 'like'; 'mn' is agreed on of what it asks, 'th' of what the other one asks; p: it still asks; t: it has heard the other one. -/
structure Sd (server : Bool) (ask like mn th : List UInt8) (p t : Bool) (s : NgS) : Prop where
  sv : s.server = server
  w1 : s.want 1 = if p = true then ask else []
  w3 : s.want 3 = []
  w6 : s.want 6 = []
  w8 : s.want 8 = []
  l1 : s.like 1 = like
  m1 : s.mine 1 = if p = true then [2] else mn
  t1 : s.theirs 1 = if t = true then th else [2]
  ok : s.Ok
/-- What both come to, by the server's list. -/
def ntBoth (server : Bool) (like v : List UInt8) : Option (List UInt8) := if server = true then ftChoose 1 like v else ftChoose 1 v like
def ntSays (o : Option (List UInt8)) (like : List UInt8) : List UInt8 := match o with | none => [] | some x => x ++ like
def ntTold (o : Option (List UInt8)) : List UInt8 := match o with | none => [2] | some x => x
theorem ftLst1 : ftLst 1 = true := by decide
theorem ftKnown1 : ftKnown 1 = true := by decide
theorem NgS.pick1 (s : NgS) (v : List UInt8) (hm : ftMay 1 v = true) : s.pick 1 v = ntBoth s.server (s.like 1) v := by
  unfold NgS.pick ntBoth
  rw [if_pos hm]
  by_cases h : s.server = true
  · rw [if_pos (.inl h), if_pos h]
  · rw [if_neg (by rw [ftLst1]; simp [h]), if_neg h]
/-- The other one's Change. -/
theorem Sd.change {server : Bool} {ask like mn th : List UInt8} {p t : Bool} {s : NgS} (h : Sd server ask like mn th p t s) (v : List UInt8) (hm : ftMay 1 v = true) (hth : th = ntTold (ntBoth server like v)) (os : List M.Opt) :
    ∃ s', s.take1 os ⟨32, 1 :: v⟩ false = ⟨true, s', os ++ [⟨35, 1 :: ntSays (ntBoth server like v) like⟩]⟩ ∧ Sd server ask like mn th p true s' := by
  have hp : s.pick 1 v = ntBoth server like v := by rw [NgS.pick1 s v hm, h.sv, h.l1]
  have hs : s.says 1 v = ntSays (ntBoth server like v) like := by
    unfold NgS.says ntSays
    rw [hp]
    cases ntBoth server like v with
    | none => rfl
    | some x => simp only; rw [if_pos ftLst1, h.l1]
  refine ⟨s.settled 1 v, ?_, ?_⟩
  · unfold NgS.take1
    rw [if_pos (show ngKind 32 = true by decide)]
    show s.hear os 32 1 v false = _
    unfold NgS.hear
    rw [if_pos rfl, if_neg (by simp)]
    show NgO.mk true (s.settled 1 v) (os ++ [⟨35, 1 :: s.says 1 v⟩]) = _
    rw [hs]
  · have ho := h.ok.settled 1 v
    unfold NgS.settled at ho ⊢
    rw [hp] at ho ⊢
    unfold ntTold at hth
    cases hb : ntBoth server like v with
    | none =>
      rw [hb] at hth ho
      simp only at hth ho ⊢
      refine ⟨h.sv, h.w1, h.w3, h.w6, h.w8, h.l1, h.m1, ?_, ho⟩
      have h9 := h.t1
      rw [h9, hth]
      cases t <;> rfl
    | some x =>
      rw [hb] at hth ho
      simp only at hth ho ⊢
      refine ⟨h.sv, h.w1, h.w3, h.w6, h.w8, h.l1, h.m1, ?_, ho⟩
      show upd s.theirs 1 x 1 = _
      unfold upd
      rw [if_pos rfl, if_pos rfl, hth]
/-- The other one's Confirm. -/
theorem Sd.confirm {server : Bool} {ask like mn th : List UInt8} {p t : Bool} {s : NgS} (h : Sd server ask like mn th p t s) (ha : ask ≠ []) (o : Option (List UInt8)) (l : List UInt8) (ho : ∀ x, o = some x → ∃ b, x = [b] ∧ b ∈ ask) (hmn : mn = ntTold o) (os : List M.Opt) :
    ∃ s', s.take1 os ⟨35, 1 :: ntSays o l⟩ false = ⟨true, s', os⟩ ∧ Sd server ask like mn th false t s' := by
  have key : ∀ s', s.confirm 1 (ntSays o l) = some s' → s.take1 os ⟨35, 1 :: ntSays o l⟩ false = ⟨true, s', os⟩ := fun s' hc => by
    unfold NgS.take1
    rw [if_pos (show ngKind 35 = true by decide)]
    show s.hear os 35 1 (ntSays o l) false = _
    unfold NgS.hear
    rw [if_neg (by decide), if_neg (by decide), if_pos rfl]
    show (match s.confirm 1 (ntSays o l) with | none => NgO.mk false s os | some s2 => NgO.mk true s2 os) = _
    rw [hc]
  cases p with
  | false =>
    have hw : s.want 1 = [] := h.w1
    refine ⟨s, key s ?_, h⟩
    unfold NgS.confirm
    rw [if_neg (by rw [hw]; simp)]
  | true =>
    have hw : s.want 1 = ask := h.w1
    cases o with
    | none =>
      have hc : s.confirm 1 (ntSays none l) = some { s with want := upd s.want 1 [] } := by
        unfold NgS.confirm
        rw [if_pos ⟨ftKnown1, by rw [hw]; exact ha⟩]
        rfl
      refine ⟨_, key _ hc, h.sv, rfl, h.w3, h.w6, h.w8, h.l1, ?_, h.t1, h.ok.confirm hc⟩
      have h9 := h.m1
      show s.mine 1 = mn
      rw [h9, hmn]
      rfl
    | some x =>
      obtain ⟨b, rfl, hb⟩ := ho x rfl
      have hc : s.confirm 1 (ntSays (some [b]) l) = some { s with mine := upd s.mine 1 [b], want := upd s.want 1 [] } := by
        unfold NgS.confirm
        rw [if_pos ⟨ftKnown1, by rw [hw]; exact ha⟩]
        show (if ftLst 1 = true then (if b ∈ s.want 1 then _ else none) else _) = _
        rw [if_pos ftLst1, if_pos (by rw [hw]; exact hb)]
      refine ⟨_, key _ hc, h.sv, rfl, h.w3, h.w6, h.w8, h.l1, ?_, h.t1, h.ok.confirm hc⟩
      show upd s.mine 1 [b] 1 = mn
      unfold upd
      rw [if_pos rfl, hmn]
      rfl
/-- What a side hands on. -/
theorem Sd.asks {server : Bool} {ask like mn th : List UInt8} {p t : Bool} {s : NgS} (h : Sd server ask like mn th p t s) (ha : ask ≠ []) : s.asks = if p = true then [⟨32, 1 :: ask⟩] else [] := by
  unfold NgS.asks NgS.ask
  have h1 : s.want ((1 : UInt8).toNat : Int) = if p = true then ask else [] := h.w1
  have h3 : s.want ((3 : UInt8).toNat : Int) = [] := h.w3
  have h6 : s.want ((6 : UInt8).toNat : Int) = [] := h.w6
  have h8 : s.want ((8 : UInt8).toNat : Int) = [] := h.w8
  rw [h1, h3, h6, h8]
  cases p with
  | false => rfl
  | true => simp [ha]
theorem Sd.done {server : Bool} {ask like mn th : List UInt8} {p t : Bool} {s : NgS} (h : Sd server ask like mn th p t s) (hp : p = false) : s.done = true := by
  subst hp
  unfold NgS.done
  have h1 : s.want 1 = [] := h.w1
  rw [h1, h.w3, h.w6, h.w8]
  rfl
theorem NgS.take_nil (s : NgS) (os : List M.Opt) : s.take os [] = ⟨true, s, os⟩ := rfl
theorem NgS.take_one1 (s : NgS) (os : List M.Opt) (o : M.Opt) : s.take os [o] = s.take1 os o false := by
  unfold NgS.take
  show (let r := s.takeTo os [o] 0; if r.ok = true then r.s.take1 r.due ([o].getD 0 ⟨0, []⟩) (decide (0 < 0 ∧ _)) else r) = _
  rfl
theorem NgS.take_two (s s1 : NgS) (os os1 : List M.Opt) (o q : M.Opt) (ho : o.t ≠ 1) (h : s.take1 os o false = ⟨true, s1, os1⟩) : s.take os [o, q] = s1.take1 os1 q false := by
  have e1 : s.takeTo os [o, q] 1 = ⟨true, s1, os1⟩ := by rw [← h]; rfl
  unfold NgS.take
  show (let r := s.takeTo os [o, q] 1; if r.ok = true then r.s.take1 r.due ([o, q].getD 1 ⟨0, []⟩) (decide (0 < 1 ∧ ([o, q].getD (1 - 1) ⟨0, []⟩).t = 1)) else r) = _
  rw [e1]
  have e2 : decide (0 < 1 ∧ ([o, q].getD (1 - 1) ⟨0, []⟩).t = 1) = false := decide_eq_false (fun hh => ho hh.2)
  rw [e2]
  rfl
/-- A whole list, as the other side hands it on: its answer, if it has one, and what it asks, if it still asks. -/
def ntList (d : Bool) (sy : List UInt8) (p : Bool) (v : List UInt8) : List M.Opt := (if d = true then [⟨35, 1 :: sy⟩] else []) ++ (if p = true then [⟨32, 1 :: v⟩] else [])
theorem Sd.take {server : Bool} {ask like mn th : List UInt8} {p t : Bool} {s : NgS} (h : Sd server ask like mn th p t s) (ha : ask ≠ []) (o : Option (List UInt8)) (l : List UInt8) (ho : ∀ x, o = some x → ∃ b, x = [b] ∧ b ∈ ask) (hmn : mn = ntTold o)
    (v : List UInt8) (hm : ftMay 1 v = true) (hth : th = ntTold (ntBoth server like v)) (d q : Bool) :
    ∃ s', s.take [] (ntList d (ntSays o l) q v) = ⟨true, s', if q = true then [⟨35, 1 :: ntSays (ntBoth server like v) like⟩] else []⟩ ∧ Sd server ask like mn th (p && !d) (t || q) s' := by
  unfold ntList
  cases d with
  | false =>
    cases q with
    | false => exact ⟨s, NgS.take_nil s [], by simpa using h⟩
    | true =>
      obtain ⟨s', e, h'⟩ := h.change v hm hth []
      exact ⟨s', (NgS.take_one1 s [] _).trans e, by simpa using h'⟩
  | true =>
    obtain ⟨s1, e1, h1⟩ := h.confirm ha o l ho hmn []
    cases q with
    | false => exact ⟨s1, (NgS.take_one1 s [] _).trans e1, by simpa using h1⟩
    | true =>
      obtain ⟨s', e, h'⟩ := h1.change v hm hth []
      exact ⟨s', (NgS.take_two s s1 [] [] _ _ (show (35 : Int) ≠ 1 by decide) e1).trans e, by simpa using h'⟩
end Go.Proofs.YtfmnpepgmedfpaaGreatDoor

namespace Go.Proofs.YtfmnpepgmedfpaaGreatDoor
open Go.ChangeShapes Go.WideShapes Go.ChangeAt Go.RowKit
set_option linter.unusedVariables false
set_option linter.unusedSimpArgs false

/-- A side at C1, a side at C2, a list on its way. -/
structure TwV (s1 : NgS) (os1 : List M.Opt) (C1 : Nat) (v1 : Value) (s2 : NgS) (os2 : List M.Opt) (C2 : Nat) (v2 : Value) (L : Value) (los : List M.Opt) (B : Nat) (w0 W : World) : Prop where
  a1 : NgAt s1 v1 C1 W
  r1 : OpRow v1 os1 W
  k1 : s1.Ok
  a2 : NgAt s2 v2 C2 W
  r2 : OpRow v2 os2 W
  k2 : s2.Ok
  rl : OpRow L los W
  ne : C1 ≠ C2
  b1 : B ≤ C1
  b2 : B ≤ C2
  o1 : ∀ g, v1.ownBlock = some g → B ≤ g ∧ v2.ownBlock ≠ some g ∧ L.ownBlock ≠ some g
  o2 : ∀ g, v2.ownBlock = some g → B ≤ g ∧ L.ownBlock ≠ some g
  bel : Below B w0 W
  b0 : B ≤ w0.heap.size
def TwW (s1 : NgS) (os1 : List M.Opt) (C1 : Nat) (s2 : NgS) (os2 : List M.Opt) (C2 : Nat) (L : Value) (los : List M.Opt) (B : Nat) (w0 W : World) : Prop := ∃ v1 v2, TwV s1 os1 C1 v1 s2 os2 C2 v2 L los B w0 W
theorem TwW.swap {s1 s2 : NgS} {os1 os2 los : List M.Opt} {C1 C2 B : Nat} {L : Value} {w0 W : World} (h : TwW s1 os1 C1 s2 os2 C2 L los B w0 W) : TwW s2 os2 C2 s1 os1 C1 L los B w0 W := by
  obtain ⟨v1, v2, h⟩ := h
  refine ⟨v2, v1, ⟨h.a2, h.r2, h.k2, h.a1, h.r1, h.k1, h.rl, h.ne.symm, h.b2, h.b1, fun g hg => ⟨(h.o2 g hg).1, fun e => (h.o1 g e).2.1 hg, (h.o2 g hg).2⟩, fun g hg => ⟨(h.o1 g hg).1, (h.o1 g hg).2.2⟩, h.bel, h.b0⟩⟩
theorem TwW.new (B : Nat) (w0 W W1 : World) (hb : Below B w0 W) (hB : B ≤ w0.heap.size) (h1 : NgAt (ngInit false) (.slice none 0 0) W.heap.size W1) (hb1 : Below W.heap.size W W1) :
    Calls Tryz.prog 30 #[.bool true] W1 fun e w' => e = .returned (.pointer (some ⟨W1.heap.size, 0, none⟩)) ∧ TwW (ngInit false) [] W.heap.size (ngInit true) [] W1.heap.size (.slice none 0 0) [] B w0 w' := by
  refine (ngNew_any true W1).mono ?_
  rintro e w' ⟨rfl, h2, hb2⟩
  have s0 := hb.size
  have s1 := hb1.size
  have l1 := BlkIs.lt h1
  exact ⟨rfl, _, _, ⟨BlkIs.below h1 hb2, OpRow.nil _, ngInit_ok false, h2, OpRow.nil _, ngInit_ok true, OpRow.nil _, by omega, by omega, by omega, fun g hg => (by cases hg), fun g hg => (by cases hg), (hb.trans (hb1.mono (by omega))).trans (hb2.mono (by omega)), hB⟩⟩
theorem TwV.grow {s1 s2 : NgS} {os1 os2 los : List M.Opt} {C1 C2 B : Nat} {v1 v2 L : Value} {w0 W W' : World} (h : TwV s1 os1 C1 v1 s2 os2 C2 v2 L los B w0 W) (k : Kept (C1 :: ownB v1) W W') : Below B w0 W' :=
  h.bel.trans (k.below (by have := h.bel.size; have := h.b0; omega) (fun x hx => by
    rcases List.mem_cons.1 hx with e | e
    · rw [e]; exact h.b1
    · exact (h.o1 x (mem_ownB.1 e)).1))
theorem TwV.other {s1 s2 : NgS} {os1 os2 los : List M.Opt} {C1 C2 B : Nat} {v1 v2 L : Value} {w0 W W' : World} (h : TwV s1 os1 C1 v1 s2 os2 C2 v2 L los B w0 W) (k : Kept (C1 :: ownB v1) W W') : NgAt s2 v2 C2 W' ∧ OpRow v2 os2 W' := by
  refine ⟨BlkIs.kept h.a2 k (fun hm => ?_), h.r2.kept k (fun g hg hm => ?_)⟩
  · rcases List.mem_cons.1 hm with e | e
    · exact h.ne e.symm
    · exact h.r1.blk h.a2 (by decide) (mem_ownB.1 e)
  · rcases List.mem_cons.1 hm with e | e
    · subst e
      exact h.r2.blk h.a1 (by decide) hg
    · exact (h.o1 g (mem_ownB.1 e)).2.1 hg
/-- The first side hands on what it has. -/
theorem TwW.opts {s1 s2 : NgS} {os1 os2 los : List M.Opt} {C1 C2 B : Nat} {L : Value} {w0 W : World} (h : TwW s1 os1 C1 s2 os2 C2 L los B w0 W) (hl : os1.length ≤ 900000) :
    Calls Tryz.prog 39 #[.pointer (some ⟨C1, 0, none⟩)] W fun e w' => ∃ v, e = .returned v ∧ TwW s1 [] C1 s2 os2 C2 v (os1 ++ s1.asks) B w0 w' := by
  obtain ⟨v1, v2, h⟩ := h
  refine (ngOpts_any s1 os1 v1 C1 W h.a1 h.r1 h.k1 (by omega)).mono ?_
  rintro e w' ⟨v, rfl, x1, x2, x3, x4⟩
  obtain ⟨y1, y2⟩ := h.other x3
  refine ⟨v, rfl, .slice none 0 0, v2, ⟨x2, OpRow.nil _, h.k1, y1, y2, h.k2, x1, h.ne, h.b1, h.b2, fun g hg => (by cases hg), fun g hg => ⟨(h.o2 g hg).1, fun e => ?_⟩, h.grow x3, h.b0⟩⟩
  rcases x4 g e with q | q
  · exact (h.o1 g q).2.1 hg
  · have := h.r2.lt g hg
    omega
/-- The second side takes it. -/
theorem TwW.take {s1 s2 : NgS} {os1 os2 los : List M.Opt} {C1 C2 B : Nat} {L : Value} {w0 W : World} (h : TwW s1 os1 C1 s2 os2 C2 L los B w0 W) (ho : ∀ o ∈ los, o.d.length ≤ 1000000) (hl : os2.length + los.length ≤ 900000) :
    Calls Tryz.prog 31 #[.pointer (some ⟨C2, 0, none⟩), L] W fun e w' => e = .returned (.bool (s2.take os2 los).ok) ∧ TwW s1 os1 C1 (s2.take os2 los).s (s2.take os2 los).due C2 (.slice none 0 0) [] B w0 w' := by
  obtain ⟨v2, v1, h⟩ := h.swap
  have hat : OptsAt W L los := OptsOwn.at (B := 0) (W0 := W) ⟨h.rl, Below.refl _ _, Nat.zero_le _⟩ (by omega) (fun o h => by have := ho o h; unfold maxLen; omega)
  refine (ngTake_any s2 os2 v2 L los h.k1 C2 W h.a1 h.r1 (by omega) hat (fun b hb => ⟨fun e => h.rl.blk h.a1 (by decide) (by rw [hb, e]), fun e => (h.o1 b e).2.2 hb⟩)).mono ?_
  rintro e w' ⟨rfl, v, x1, x2, x3, x4⟩
  obtain ⟨y1, y2⟩ := h.other x3
  have s0 := h.bel.size
  have s1 := h.b0
  refine ⟨rfl, TwW.swap ⟨v, v1, ⟨x2, x1, (h.k1.takeTo _ _ _).1, y1, y2, h.k2, OpRow.nil _, h.ne, h.b1, h.b2, fun g hg => ⟨?_, fun e => ?_, fun e => by cases e⟩, fun g hg => ⟨(h.o2 g hg).1, fun e => by cases e⟩, h.grow x3, h.b0⟩⟩⟩
  · rcases x4 g hg with q | q
    · exact (h.o1 g q).1
    · omega
  · rcases x4 g hg with q | q
    · exact (h.o1 g q).2.1 e
    · have := h.r2.lt g e
      omega
theorem TwV.self {s1 s2 t : NgS} {os1 os2 los : List M.Opt} {C1 C2 B : Nat} {v1 v2 L : Value} {w0 W W' : World} (h : TwV s1 os1 C1 v1 s2 os2 C2 v2 L los B w0 W) (k : Kept [C1] W W') (h' : NgAt t v1 C1 W') (ht : t.Ok) : TwW t os1 C1 s2 os2 C2 L los B w0 W' := by
  have k2 : Kept (C1 :: ownB v1) W W' := k.more (fun x hx => by rw [List.mem_singleton.1 hx]; simp)
  obtain ⟨y1, y2⟩ := h.other k2
  refine ⟨v1, v2, ⟨h', h.r1.kept k (fun g hg hm => ?_), ht, y1, y2, h.k2, h.rl.kept k (fun g hg hm => ?_), h.ne, h.b1, h.b2, h.o1, h.o2, h.grow k2, h.b0⟩⟩
  · rw [List.mem_singleton.1 hm] at hg
    exact h.r1.blk h.a1 (by decide) hg
  · rw [List.mem_singleton.1 hm] at hg
    exact h.rl.blk h.a1 (by decide) hg
theorem TwW.want {s1 s2 : NgS} {os1 os2 los : List M.Opt} {C1 C2 B : Nat} {L : Value} {w0 W : World} (h : TwW s1 os1 C1 s2 os2 C2 L los B w0 W) (f : Int) (l : List UInt8) (hm : ftMay f l = true) :
    Calls Tryz.prog 34 #[.pointer (some ⟨C1, 0, none⟩), .int .i64 f, .string (str l)] W fun e w' => e = .returned (.int .i64 0) ∧ TwW { s1 with want := upd s1.want f l } os1 C1 s2 os2 C2 L los B w0 w' := by
  obtain ⟨v1, v2, h⟩ := h
  have hj : ngJudge f l = 0 := by unfold ngJudge; rw [if_pos (ftMay_known hm), if_pos hm]
  have hl := (ftMay_len hm).1
  have h9 := ngWant_any s1 v1 f l (by omega) C1 W h.a1
  rw [hj, if_pos rfl] at h9
  refine h9.mono ?_
  rintro e w' ⟨rfl, x1, x2⟩
  exact ⟨rfl, h.self x2 x1 (h.k1.want_ f l hm)⟩
theorem TwW.like {s1 s2 : NgS} {os1 os2 los : List M.Opt} {C1 C2 B : Nat} {L : Value} {w0 W : World} (h : TwW s1 os1 C1 s2 os2 C2 L los B w0 W) (f : Int) (l : List UInt8) (hm : ftMay f l = true) :
    Calls Tryz.prog 46 #[.pointer (some ⟨C1, 0, none⟩), .int .i64 f, .string (str l)] W fun e w' => e = .returned (.int .i64 0) ∧ TwW { s1 with like := upd s1.like f l } os1 C1 s2 os2 C2 L los B w0 w' := by
  obtain ⟨v1, v2, h⟩ := h
  have hj : ngJudge f l = 0 := by unfold ngJudge; rw [if_pos (ftMay_known hm), if_pos hm]
  have hl := (ftMay_len hm).1
  have h9 := ngLike_any s1 v1 f l (by omega) C1 W h.a1
  rw [hj, if_pos rfl] at h9
  refine h9.mono ?_
  rintro e w' ⟨rfl, x1, x2⟩
  exact ⟨rfl, h.self x2 x1 (h.k1.like_ f l hm)⟩
theorem TwW.below {s1 s2 : NgS} {os1 os2 los : List M.Opt} {C1 C2 B : Nat} {L : Value} {w0 W W' : World} (h : TwW s1 os1 C1 s2 os2 C2 L los B w0 W) (k : Below W.heap.size W W') : TwW s1 os1 C1 s2 os2 C2 L los B w0 W' := by
  obtain ⟨v1, v2, h⟩ := h
  have s0 := h.bel.size
  have s1 := h.b0
  have kk : Kept [] W W' := Kept.of_below [] k
  exact ⟨v1, v2, ⟨BlkIs.below h.a1 k, h.r1.kept kk (fun _ _ h => by cases h), h.k1, BlkIs.below h.a2 k, h.r2.kept kk (fun _ _ h => by cases h), h.k2, h.rl.kept kk (fun _ _ h => by cases h), h.ne, h.b1, h.b2, h.o1, h.o2, h.bel.trans (k.mono (by omega)), h.b0⟩⟩
theorem TwW.done {s1 s2 : NgS} {os1 os2 los : List M.Opt} {C1 C2 B : Nat} {L : Value} {w0 W : World} (h : TwW s1 os1 C1 s2 os2 C2 L los B w0 W) :
    Calls Tryz.prog 35 #[.pointer (some ⟨C1, 0, none⟩)] W fun e w' => e = .returned (.bool s1.done) ∧ TwW s1 os1 C1 s2 os2 C2 L los B w0 w' := by
  obtain ⟨v1, v2, hv⟩ := id h
  exact (ngDone_any s1 v1 C1 W hv.a1).mono fun e w' ⟨x, y⟩ => ⟨x, h.below y⟩
theorem TwW.mine {s1 s2 : NgS} {os1 os2 los : List M.Opt} {C1 C2 B : Nat} {L : Value} {w0 W : World} (h : TwW s1 os1 C1 s2 os2 C2 L los B w0 W) :
    Calls Tryz.prog 32 #[.pointer (some ⟨C1, 0, none⟩), .int .i64 1] W fun e w' => e = .returned (.string (str (s1.mine 1))) ∧ TwW s1 os1 C1 s2 os2 C2 L los B w0 w' := by
  obtain ⟨v1, v2, hv⟩ := id h
  have h9 := ngMine_any s1 v1 1 C1 W hv.a1
  rw [if_pos ftKnown1] at h9
  exact h9.mono fun e w' ⟨x, n, y⟩ => ⟨x, by rw [y]; exact h.below (bel_drewN _ _)⟩
theorem TwW.theirs {s1 s2 : NgS} {os1 os2 los : List M.Opt} {C1 C2 B : Nat} {L : Value} {w0 W : World} (h : TwW s1 os1 C1 s2 os2 C2 L los B w0 W) :
    Calls Tryz.prog 37 #[.pointer (some ⟨C1, 0, none⟩), .int .i64 1] W fun e w' => e = .returned (.string (str (s1.theirs 1))) ∧ TwW s1 os1 C1 s2 os2 C2 L los B w0 w' := by
  obtain ⟨v1, v2, hv⟩ := id h
  have h9 := ngTheirs_any s1 v1 1 C1 W hv.a1
  rw [if_pos ftKnown1] at h9
  exact h9.mono fun e w' ⟨x, n, y⟩ => ⟨x, by rw [y]; exact h.below (bel_drewN _ _)⟩
theorem TwW.bel {s1 s2 : NgS} {os1 os2 los : List M.Opt} {C1 C2 B : Nat} {L : Value} {w0 W : World} (h : TwW s1 os1 C1 s2 os2 C2 L los B w0 W) : Below B w0 W := by
  obtain ⟨v1, v2, h⟩ := h
  exact h.bel
end Go.Proofs.YtfmnpepgmedfpaaGreatDoor

namespace Go.Proofs.YtfmnpepgmedfpaaGreatDoor
open Go.ChangeShapes Go.WideShapes Go.ChangeAt Go.RowKit
set_option linter.unusedVariables false
set_option linter.unusedSimpArgs false

theorem ftChoose1_some {a c x : List UInt8} (h : ftChoose 1 a c = some x) : ∃ b, x = [b] ∧ b ∈ a ∧ b ∈ c := by
  unfold ftChoose at h
  by_cases hm : ftMay 1 c = true
  · rw [if_pos hm, if_neg (by decide)] at h
    by_cases hm2 : ftMay 1 a = true
    · rw [if_pos hm2] at h
      exact ftPick_one h
    · rw [if_neg hm2] at h
      cases h
  · rw [if_neg hm] at h
    cases h
theorem ftMay1_nil : ftMay 1 [] = false := by decide
/-- The bits of a round: who still asks, who was heard, whose answer is on its way. -/
structure NtB (k : Nat) (xp yp xt yt xd : Bool) : Prop where
  c1 : xp = false → yt = true
  c2 : yp = false → xt = true
  c3 : xd = true → xt = true
  c4 : 21 ≤ k → xp = false ∧ xd = yp
  c5 : 22 ≤ k → yp = false
theorem NtB.next {k : Nat} {xp yp xt yt xd : Bool} (h : NtB k xp yp xt yt xd) (l1 l2 : Bool) (h1 : 20 ≤ k → l1 = false) (h2 : 20 ≤ k → l2 = false) :
    NtB (k + 1) (if l2 = true then xp else xp && !(if l1 = true then false else xp)) (if l1 = true then yp else yp && !xd) (if l2 = true then xt else xt || (if l1 = true then yp else yp && !xd)) (if l1 = true then yt else yt || xp) (if l2 = true then false else (if l1 = true then yp else yp && !xd)) := by
  obtain ⟨c1, c2, c3, c4, c5⟩ := h
  constructor
  · revert c1; cases l1 <;> cases l2 <;> cases xp <;> cases yt <;> simp
  · revert c2 c3; cases l1 <;> cases l2 <;> cases yp <;> cases xt <;> cases xd <;> simp
  · revert c2 c3; cases l1 <;> cases l2 <;> cases yp <;> cases xt <;> cases xd <;> simp
  · intro hk
    rw [h1 (by omega), h2 (by omega)]
    simp
  · intro hk
    obtain ⟨_, e⟩ := c4 (by omega)
    rw [h1 (by omega)]
    simp [e]
theorem sd_start (server : Bool) (ask like mn th : List UInt8) (hm : ftMay 1 ask = true) (hl : ftMay 1 like = true) :
    Sd server ask like mn th true false { server := server, want := upd (fun _ => []) 1 ask, like := upd ftAll 1 like, mine := ftDefault, theirs := ftDefault } := by
  have e : ∀ (g : Int → List UInt8) (l : List UInt8), upd g 1 l 1 = l := fun g l => by unfold upd; rw [if_pos rfl]
  refine ⟨rfl, e (fun _ => []) ask, (if_neg (by decide) : (if (3 : Int) = 1 then ask else []) = []), (if_neg (by decide) : (if (6 : Int) = 1 then ask else []) = []), (if_neg (by decide) : (if (8 : Int) = 1 then ask else []) = []), e ftAll like, by show ftDefault 1 = [2]; decide, by show ftDefault 1 = [2]; decide, ?_⟩
  exact ((ngInit_ok server).want_ 1 ask hm).like_ 1 like hl
theorem ntList_len (dd : Bool) (sy : List UInt8) (pp : Bool) (v : List UInt8) (h1 : sy.length ≤ 900000) (h2 : v.length ≤ 900000) : (ntList dd sy pp v).length ≤ 2 ∧ ∀ o ∈ ntList dd sy pp v, o.d.length ≤ 1000000 := by
  unfold ntList
  cases dd <;> cases pp <;> simp <;> omega
theorem ntSays_len (o : Option (List UInt8)) (l : List UInt8) (ho : ∀ x, o = some x → x.length ≤ 16) (hl : l.length ≤ 16) : (ntSays o l).length ≤ 900000 := by
  unfold ntSays
  cases o with
  | none => simp
  | some x =>
    have := ho x rfl
    simp only [List.length_append]
    omega
set_option maxHeartbeats 32000000 in
set_option maxRecDepth 100000 in
theorem negoTwo_walk (a b c d : List UInt8) (ha : a.length ≤ 9223372036854775807) (hb : b.length ≤ 9223372036854775807) (hc : c.length ≤ 9223372036854775807) (hd : d.length ≤ 9223372036854775807)
    (px : Option Addr) (n cp : Nat) (hncp : n ≤ cp) (hcp : cp ≤ 9223372036854775807) (lb : Nat → Bool) (w : World)
    (hcell : ∀ i, i < n → i < 40 → ∃ g o, px = some ⟨g, o, none⟩ ∧ g < w.heap.size ∧ w.cell? ⟨g, o + i, none⟩ = some (.bool (lb i)))
    (hbg : Calls Tryz.prog 15 #[] w fun e w' => e = .returned (.bool true) ∧ Below w.heap.size w w') :
    Calls Tryz.prog 14 #[.string (str a), .string (str b), .string (str c), .string (str d), .slice px n cp] w fun e w' => e = .returned (.bool true) ∧ Below w.heap.size w w' := by
  have HBG := Lib.hid hbg
  have HCELL := Lib.hid hcell
  have HMA := Lib.hid (fun W => rfMay_any 1 a ha W)
  have HMB := Lib.hid (fun W => rfMay_any 1 b hb W)
  have HMC := Lib.hid (fun W => rfMay_any 1 c hc W)
  have HMD := Lib.hid (fun W => rfMay_any 1 d hd W)
  have HCB := Lib.hid (fun W => rfChoose_any 1 b a hb ha W)
  have HCC := Lib.hid (fun W => rfChoose_any 1 c d hc hd W)
  have HNF := Lib.hid (fun W => ngNew_any false W)
  have HWN : Hid (∀ C v W, NgAt (ngInit false) v C W → Calls Tryz.prog 34 #[.pointer (some ⟨C, 0, none⟩), .int .i64 1, .string { data := #[] }] W fun e w' => e = .returned (.int .i64 3) ∧ Kept [C] W w') := Lib.hid (fun C v W hW => by
    have h9 := ngWant_any (ngInit false) v 1 [] (by decide) C W hW
    have hj : ngJudge 1 [] = 3 := by decide
    rw [hj, if_neg (by decide)] at h9
    exact h9.mono fun e w' ⟨x, _, y⟩ => ⟨x, y⟩)
  clear hbg hcell
  obtain ⟨ma, hma⟩ : ∃ m, ftMay 1 a = m := ⟨_, rfl⟩
  obtain ⟨mb, hmb⟩ : ∃ m, ftMay 1 b = m := ⟨_, rfl⟩
  obtain ⟨mc, hmc⟩ : ∃ m, ftMay 1 c = m := ⟨_, rfl⟩
  obtain ⟨md, hmd⟩ : ∃ m, ftMay 1 d = m := ⟨_, rfl⟩
  rw [hma] at HMA
  rw [hmb] at HMB
  rw [hmc] at HMC
  rw [hmd] at HMD
  obtain ⟨sa, hsa⟩ : ∃ s, str a = s := ⟨_, rfl⟩
  obtain ⟨sb, hsb⟩ : ∃ s, str b = s := ⟨_, rfl⟩
  obtain ⟨sc, hsc⟩ : ∃ s, str c = s := ⟨_, rfl⟩
  obtain ⟨sd, hsd⟩ : ∃ s, str d = s := ⟨_, rfl⟩
  rw [hsa] at HMA HCB
  rw [hsb] at HMB HCB
  rw [hsc] at HMC HCC
  rw [hsd] at HMD HCC
  rw [hsa, hsb, hsc, hsd]
  go_enter Tryz.func14, Tryz.ntmps14
  go_upto_region 5 with (first
    | (go_at_call 15; (with_reducible refine HBG.out.mono ?_); rintro e w0 ⟨rfl, hb0⟩)
    | (go_at_call 30; (with_reducible refine (HNF.out _).mono ?_); rintro e w1 ⟨rfl, h1, hb1⟩; clear HNF)
    | (go_at_call 30; (with_reducible refine (TwW.new w.heap.size w _ _ hb0 (Nat.le_refl _) h1 hb1).mono ?_); rintro e w2 ⟨rfl, htw⟩))
  have HTW := Lib.hid htw
  obtain ⟨C1, hC1⟩ : ∃ C, w0.heap.size = C := ⟨_, rfl⟩
  obtain ⟨C2, hC2⟩ : ∃ C, w1.heap.size = C := ⟨_, rfl⟩
  rw [hC1, hC2] at HTW ⊢
  clear h1 hb1 hb0 htw hC1 hC2
  by_cases hall : ma = true ∧ mb = true ∧ mc = true ∧ md = true
  · obtain ⟨rfl, rfl, rfl, rfl⟩ := hall
    obtain ⟨one, hone⟩ : ∃ o, ntBoth true b a = o := ⟨_, rfl⟩
    obtain ⟨two, htwo⟩ : ∃ o, ntBoth false d c = o := ⟨_, rfl⟩
    have hone2 : ftChoose 1 b a = one := hone
    have htwo2 : ftChoose 1 c d = two := htwo
    rw [hone2] at HCB
    rw [htwo2] at HCC
    have ho1 : ∀ x, one = some x → ∃ z, x = [z] ∧ z ∈ a := fun x hx => by
      obtain ⟨z, e1, _, e3⟩ := ftChoose1_some (hone2.trans hx)
      exact ⟨z, e1, e3⟩
    have ho2 : ∀ x, two = some x → ∃ z, x = [z] ∧ z ∈ c := fun x hx => by
      obtain ⟨z, e1, e2, _⟩ := ftChoose1_some (htwo2.trans hx)
      exact ⟨z, e1, e2⟩
    have hae : a ≠ [] := fun e => by rw [e, ftMay1_nil] at hma; cases hma
    have hce : c ≠ [] := fun e => by rw [e, ftMay1_nil] at hmc; cases hmc
    have la := (ftMay_len hma).1
    have lbb := (ftMay_len hmb).1
    have lc := (ftMay_len hmc).1
    have ld := (ftMay_len hmd).1
    have hsy1 : (ntSays one b).length ≤ 900000 := ntSays_len one b (fun x hx => by obtain ⟨z, e, _⟩ := ho1 x hx; rw [e]; simp) lbb
    have hsy2 : (ntSays two d).length ≤ 900000 := ntSays_len two d (fun x hx => by obtain ⟨z, e, _⟩ := ho2 x hx; rw [e]; simp) ld
    have S1 : Sd false a d (ntTold one) (ntTold two) true false _ := sd_start false a d (ntTold one) (ntTold two) hma hmd
    have S2 : Sd true c b (ntTold two) (ntTold one) true false _ := sd_start true c b (ntTold two) (ntTold one) hmc hmb
    have HW1 : Hid (∀ (s1 s2 : NgS) W, TwW s1 [] C1 s2 [] C2 (.slice none 0 0) [] w.heap.size w W → Calls Tryz.prog 34 #[.pointer (some ⟨C1, 0, none⟩), .int .i64 1, .string sa] W fun e w' => e = .returned (.int .i64 0) ∧ TwW { s1 with want := upd s1.want 1 a } [] C1 s2 [] C2 (.slice none 0 0) [] w.heap.size w w') := Lib.hid (fun s1 s2 W hW => by rw [← hsa]; exact hW.want 1 a hma)
    have HL1 : Hid (∀ (s1 s2 : NgS) W, TwW s1 [] C1 s2 [] C2 (.slice none 0 0) [] w.heap.size w W → Calls Tryz.prog 46 #[.pointer (some ⟨C1, 0, none⟩), .int .i64 1, .string sd] W fun e w' => e = .returned (.int .i64 0) ∧ TwW { s1 with like := upd s1.like 1 d } [] C1 s2 [] C2 (.slice none 0 0) [] w.heap.size w w') := Lib.hid (fun s1 s2 W hW => by rw [← hsd]; exact hW.like 1 d hmd)
    have HW2 : Hid (∀ (s1 s2 : NgS) W, TwW s1 [] C1 s2 [] C2 (.slice none 0 0) [] w.heap.size w W → Calls Tryz.prog 34 #[.pointer (some ⟨C2, 0, none⟩), .int .i64 1, .string sc] W fun e w' => e = .returned (.int .i64 0) ∧ TwW s1 [] C1 { s2 with want := upd s2.want 1 c } [] C2 (.slice none 0 0) [] w.heap.size w w') := Lib.hid (fun s1 s2 W hW => by rw [← hsc]; exact (hW.swap.want 1 c hmc).mono fun e w' ⟨x, y⟩ => ⟨x, y.swap⟩)
    have HL2 : Hid (∀ (s1 s2 : NgS) W, TwW s1 [] C1 s2 [] C2 (.slice none 0 0) [] w.heap.size w W → Calls Tryz.prog 46 #[.pointer (some ⟨C2, 0, none⟩), .int .i64 1, .string sb] W fun e w' => e = .returned (.int .i64 0) ∧ TwW s1 [] C1 { s2 with like := upd s2.like 1 b } [] C2 (.slice none 0 0) [] w.heap.size w w') := Lib.hid (fun s1 s2 W hW => by rw [← hsb]; exact (hW.swap.like 1 b hmb).mono fun e w' ⟨x, y⟩ => ⟨x, y.swap⟩)
    clear HWN
    go_upto_region 9 with (first
      | (go_at_call 36; (first
        | ((with_reducible refine (HMA.out _).mono ?_); rintro e wm ⟨rfl, j1, rfl⟩; clear HMA)
        | ((with_reducible refine (HMB.out _).mono ?_); rintro e wm ⟨rfl, j2, rfl⟩; clear HMB)
        | ((with_reducible refine (HMC.out _).mono ?_); rintro e wm ⟨rfl, j3, rfl⟩; clear HMC)
        | ((with_reducible refine (HMD.out _).mono ?_); rintro e wm ⟨rfl, j4, rfl⟩; clear HMD)))
      | (go_at_call 34; (first
        | ((with_reducible refine (HW1.out _ _ _ (HTW.out.below (bel_drewN _ _))).mono ?_); rintro e wn ⟨rfl, g1⟩; clear HW1)
        | ((with_reducible refine (HW2.out _ _ _ g2).mono ?_); rintro e wn ⟨rfl, g3⟩; clear HW2)))
      | (go_at_call 46; (first
        | ((with_reducible refine (HL2.out _ _ _ g1).mono ?_); rintro e wn ⟨rfl, g2⟩; clear HL2)
        | ((with_reducible refine (HL1.out _ _ _ g3).mono ?_); rintro e w5 ⟨rfl, g4⟩; clear HL1))))
    have HST : Hid (∃ s1 s2, Sd false a d (ntTold one) (ntTold two) true false s1 ∧ Sd true c b (ntTold two) (ntTold one) true false s2 ∧ TwW s1 [] C1 s2 [] C2 (.slice none 0 0) [] w.heap.size w w5) := Lib.hid ⟨_, _, S1, S2, g4⟩
    clear g1 g2 g3 g4 HTW S1 S2
    go_wp2
    obtain ⟨s01, s02, S1, S2, g4⟩ := HST.out
    go_loopw [14] (fun i wr => ∃ (k : Nat) (xp yp xt yt xd : Bool) (s1 s2 : NgS) (L : Value) (los : List M.Opt), i = .int .i64 (k : Int) ∧ k ≤ 60 ∧ Hid (NtB k xp yp xt yt xd) ∧ Hid (Sd false a d (ntTold one) (ntTold two) xp xt s1 ∧ Sd true c b (ntTold two) (ntTold one) yp yt s2) ∧ Hid (TwW s1 (if xd = true then [⟨35, 1 :: ntSays two d⟩] else []) C1 s2 [] C2 L los w.heap.size w wr)) (fun i _ => 60 - (intOf i).toNat)
    case atStart => exact ⟨0, true, true, false, false, false, s01, s02, _, _, rfl, by decide, Lib.hid ⟨by decide, by decide, by decide, by decide, by decide⟩, Lib.hid ⟨S1, S2⟩, Lib.hid g4⟩
    case round =>
      obtain ⟨k, xp, yp, xt, yt, xd, s1, s2, L, los, rfl, hk, hB, hs, hw⟩ := hrel
      by_cases hk60 : k < 60
      · have hdk : decide ((k : Int) < 60) = true := decide_eq_true (by omega)
        have key : ∃ e1 e2 e3 l1 l2 : Bool, decide ((k : Int) < 20) = e1 ∧ decide (2 * (k : Int) < (n : Int)) = e2 ∧ decide (2 * (k : Int) + 1 < (n : Int)) = e3 ∧ (20 ≤ k → l1 = false ∧ l2 = false) ∧
            (e1 = true → e2 = true → ∃ g o, px = some ⟨g, o, none⟩ ∧ g < w.heap.size ∧ w.cell? ⟨g, o + 2 * k, none⟩ = some (.bool l1)) ∧ (e1 = true → e3 = true → ∃ g o, px = some ⟨g, o, none⟩ ∧ g < w.heap.size ∧ w.cell? ⟨g, o + (2 * k + 1), none⟩ = some (.bool l2)) ∧
            ((e1 = false ∧ l1 = false ∧ l2 = false) ∨ (e1 = true ∧ e2 = false ∧ e3 = false ∧ l1 = false ∧ l2 = false) ∨ (e1 = true ∧ e2 = true ∧ e3 = false ∧ l2 = false) ∨ (e1 = true ∧ e2 = true ∧ e3 = true)) := by
          by_cases k20 : k < 20
          · by_cases kn : 2 * k < n
            · by_cases kn2 : 2 * k + 1 < n
              · exact ⟨true, true, true, lb (2 * k), lb (2 * k + 1), decide_eq_true (by omega), decide_eq_true (by omega), decide_eq_true (by omega), fun h => absurd h (by omega), fun _ _ => HCELL.out (2 * k) kn (by omega), fun _ _ => HCELL.out (2 * k + 1) kn2 (by omega), .inr (.inr (.inr ⟨rfl, rfl, rfl⟩))⟩
              · exact ⟨true, true, false, lb (2 * k), false, decide_eq_true (by omega), decide_eq_true (by omega), decide_eq_false (by omega), fun h => absurd h (by omega), fun _ _ => HCELL.out (2 * k) kn (by omega), fun _ h => (by cases h), .inr (.inr (.inl ⟨rfl, rfl, rfl, rfl⟩))⟩
            · exact ⟨true, false, false, false, false, decide_eq_true (by omega), decide_eq_false (by omega), decide_eq_false (by omega), fun _ => ⟨rfl, rfl⟩, fun _ h => (by cases h), fun _ h => (by cases h), .inr (.inl ⟨rfl, rfl, rfl, rfl, rfl⟩)⟩
          · exact ⟨false, decide (2 * (k : Int) < (n : Int)), decide (2 * (k : Int) + 1 < (n : Int)), false, false, decide_eq_false (by omega), rfl, rfl, fun _ => ⟨rfl, rfl⟩, fun h => (by cases h), fun h => (by cases h), .inl ⟨rfl, rfl, rfl⟩⟩
        obtain ⟨e1, e2, e3, l1, l2, d1, d2, d3, hl, x1, x2, hcase⟩ := key
        have HNB := Lib.hid (hB.out.next l1 l2 (fun h => (hl h).1) (fun h => (hl h).2))
        have q1 := hs.out.1.asks hae
        have q2 := hs.out.2.asks hce
        -- the first list
        have HO1 : Hid (Calls Tryz.prog 39 #[.pointer (some ⟨C1, 0, none⟩)] wr fun e w' => ∃ v, e = .returned v ∧ TwW s1 [] C1 s2 [] C2 v (ntList xd (ntSays two d) xp a) w.heap.size w w') := Lib.hid (by
          have h9 := hw.out.opts (by cases xd <;> simp)
          rw [q1] at h9
          exact h9)
        obtain ⟨s2t, y1, y2⟩ := hs.out.2.take hce two d ho2 rfl a hma (by rw [hone]) xd xp
        rw [hone] at y1
        have HT2 : Hid (∀ v W, TwW s1 [] C1 s2 [] C2 v (ntList xd (ntSays two d) xp a) w.heap.size w W → Calls Tryz.prog 31 #[.pointer (some ⟨C2, 0, none⟩), v] W fun e w' => e = .returned (.bool true) ∧ TwW s1 [] C1 s2t (if xp = true then [⟨35, 1 :: ntSays one b⟩] else []) C2 (.slice none 0 0) [] w.heap.size w w') := Lib.hid (fun v W hW => by
          have hlen := ntList_len xd (ntSays two d) xp a hsy2 (by omega)
          have h9 := hW.take hlen.2 (by simp only [List.length_nil]; omega)
          rw [y1] at h9
          exact h9)
        have HK2 : Hid (∃ s2n : NgS, (l1 = true → s2n = s2) ∧ (l1 = false → s2n = s2t) ∧ Sd true c b (ntTold two) (ntTold one) (if l1 = true then yp else yp && !xd) (if l1 = true then yt else yt || xp) s2n) := Lib.hid (by
          cases l1 with
          | true => exact ⟨s2, fun _ => rfl, fun h => (by cases h), hs.out.2⟩
          | false => exact ⟨s2t, fun h => (by cases h), fun _ => rfl, y2⟩)
        obtain ⟨s2n, z1, z2, z3⟩ := HK2.out
        have q3 := z3.asks hce
        have HO2 : Hid (∀ L' los' W, TwW s1 [] C1 s2n (if (if l1 = true then false else xp) = true then [⟨35, 1 :: ntSays one b⟩] else []) C2 L' los' w.heap.size w W → Calls Tryz.prog 39 #[.pointer (some ⟨C2, 0, none⟩)] W fun e w' => ∃ v, e = .returned v ∧ TwW s1 [] C1 s2n [] C2 v (ntList (if l1 = true then false else xp) (ntSays one b) (if l1 = true then yp else yp && !xd) c) w.heap.size w w') := Lib.hid (fun L' los' W hW => by
          have h9 := hW.swap.opts (by cases l1 <;> cases xp <;> simp)
          rw [q3] at h9
          exact h9.mono fun e w' ⟨v, x, y⟩ => ⟨v, x, y.swap⟩)
        obtain ⟨s1t, y3, y4⟩ := hs.out.1.take hae one b ho1 rfl c hmc (by rw [htwo]) (if l1 = true then false else xp) (if l1 = true then yp else yp && !xd)
        rw [htwo] at y3
        have HT1 : Hid (∀ v W, TwW s1 [] C1 s2n [] C2 v (ntList (if l1 = true then false else xp) (ntSays one b) (if l1 = true then yp else yp && !xd) c) w.heap.size w W → Calls Tryz.prog 31 #[.pointer (some ⟨C1, 0, none⟩), v] W fun e w' => e = .returned (.bool true) ∧ TwW s1t (if (if l1 = true then yp else yp && !xd) = true then [⟨35, 1 :: ntSays two d⟩] else []) C1 s2n [] C2 (.slice none 0 0) [] w.heap.size w w') := Lib.hid (fun v W hW => by
          have hlen := ntList_len (if l1 = true then false else xp) (ntSays one b) (if l1 = true then yp else yp && !xd) c hsy1 (by omega)
          have h9 := hW.swap.take hlen.2 (by simp only [List.length_nil]; omega)
          rw [y3] at h9
          exact h9.mono fun e w' ⟨x, y⟩ => ⟨x, y.swap⟩)
        have HZ2 := Lib.hid z3
        have HY4 := Lib.hid y4
        have HS1 := Lib.hid hs.out.1
        have HZ12 := Lib.hid (And.intro z1 z2)
        have i1 : IntKind.i64.wrap (2 * (k : Int)) = 2 * (k : Int) := by rw [IntKind.wrap_i64]; omega
        have i2 : IntKind.i64.wrap (2 * (k : Int) + 1) = 2 * (k : Int) + 1 := by rw [IntKind.wrap_i64]; omega
        have i3 : (2 * (k : Int)).toNat = 2 * k := by omega
        have i4 : (2 * (k : Int) + 1).toNat = 2 * k + 1 := by omega
        clear y1 y2 y3 y4 z1 z2 z3 q1 q2 q3 hl HK2 hs hw hB HCB HCC HST S1 S2 g4 HBG
        rcases hcase with ⟨rfl, rfl, rfl⟩ | ⟨rfl, rfl, rfl, rfl, rfl⟩ | ⟨rfl, rfl, rfl, rfl⟩ | ⟨rfl, rfl, rfl⟩
        all_goals (try cases l1)
        all_goals (try cases l2)
        all_goals (first | (have hz : s2n = s2t := HZ12.out.2 rfl; subst hz) | (have hz : s2n = s2 := HZ12.out.1 rfl; subst hz))
        all_goals (simp only [↓reduceIte, Bool.false_eq_true] at HO2 HT1 HZ2 HY4 HNB)
        all_goals (try obtain ⟨g, o, rfl, hg, hx1⟩ := x1 rfl rfl)
        all_goals (try obtain ⟨g', o', hpe, hg', hx2⟩ := x2 rfl rfl)
        all_goals (try (injection hpe with hpe; injection hpe with hp1 hp2; subst hp1 hp2))
        all_goals clear x1 x2
        all_goals (try have hb2 := of_decide_eq_true d2)
        all_goals (try have hb3 := of_decide_eq_true d3)
        all_goals have p0 : 0 ≤ 2 * (k : Int) := by omega
        all_goals have p1 : 0 ≤ 2 * (k : Int) + 1 := by omega
        all_goals
          go_upto_region 13 with (go_at_call 39; (with_reducible refine HO1.out.mono ?_); rintro e w8 ⟨v8, rfl, h8⟩)
        all_goals (try have cx1 := ((Kept.of_below [] h8.bel).cellN hg (by simp)).trans hx1)
        all_goals
          go_upto_region 15 with (go_at_call 31; (with_reducible refine (HT2.out _ _ h8).mono ?_); rintro e w9 ⟨rfl, h9⟩)
        all_goals (try clear cx1)
        all_goals clear HO1 HT2
        all_goals
          go_upto_region 16 with (go_at_call 39; (first | (with_reducible refine (HO2.out _ _ _ h9).mono ?_) | (with_reducible refine (HO2.out _ _ _ h8).mono ?_)); rintro e w10 ⟨v10, rfl, h10⟩)
        all_goals (try have cx2 := ((Kept.of_below [] h10.bel).cellN hg' (by simp)).trans hx2)
        all_goals
          go_wp2_with (go_at_call 31; (with_reducible refine (HT1.out _ _ h10).mono ?_); rintro e w11 ⟨rfl, h11⟩)
        all_goals (first
          | (refine ⟨⟨k + 1, _, _, _, _, _, s1t, s2n, _, _, by go_num, by omega, HNB, Lib.hid ⟨HY4.out, HZ2.out⟩, Lib.hid h11⟩, ?_⟩)
          | (refine ⟨⟨k + 1, _, _, _, _, _, s1, s2n, _, _, by go_num, by omega, HNB, Lib.hid ⟨HS1.out, HZ2.out⟩, Lib.hid h10⟩, ?_⟩))
        all_goals (simp [intOf]; omega)
      · have hdk : decide ((k : Int) < 60) = false := decide_eq_false (by omega)
        obtain ⟨b1, b2, b3, b4, b5⟩ := hB.out
        obtain ⟨hxp, hxd⟩ := b4 (by omega)
        have hyp := b5 (by omega)
        subst hxp hyp
        have hyt := b1 rfl
        have hxt := b2 rfl
        subst hyt hxt
        subst hxd
        have D1 := hs.out.1.done rfl
        have D2 := hs.out.2.done rfl
        have M1 : s1.mine 1 = ntTold one := hs.out.1.m1
        have M2 : s2.mine 1 = ntTold two := hs.out.2.m1
        have T1 : s1.theirs 1 = ntTold two := hs.out.1.t1
        have T2 : s2.theirs 1 = ntTold one := hs.out.2.t1
        have hwr : TwW s1 [] C1 s2 [] C2 L los w.heap.size w wr := hw.out
        have HD1 : Hid (∀ W, TwW s1 [] C1 s2 [] C2 L los w.heap.size w W → Calls Tryz.prog 35 #[.pointer (some ⟨C1, 0, none⟩)] W fun e w' => e = .returned (.bool true) ∧ TwW s1 [] C1 s2 [] C2 L los w.heap.size w w') := Lib.hid (fun W hW => by
          have h9 := hW.done
          rw [D1] at h9
          exact h9)
        have HD2 : Hid (∀ W, TwW s1 [] C1 s2 [] C2 L los w.heap.size w W → Calls Tryz.prog 35 #[.pointer (some ⟨C2, 0, none⟩)] W fun e w' => e = .returned (.bool true) ∧ TwW s1 [] C1 s2 [] C2 L los w.heap.size w w') := Lib.hid (fun W hW => by
          have h9 := hW.swap.done
          rw [D2] at h9
          exact h9.mono fun e w' ⟨x, y⟩ => ⟨x, y.swap⟩)
        obtain ⟨O, hO⟩ : ∃ O, str (ntTold one) = O := ⟨_, rfl⟩
        obtain ⟨U, hU⟩ : ∃ U, str (ntTold two) = U := ⟨_, rfl⟩
        have HM1 : Hid (∀ W, TwW s1 [] C1 s2 [] C2 L los w.heap.size w W → Calls Tryz.prog 32 #[.pointer (some ⟨C1, 0, none⟩), .int .i64 1] W fun e w' => e = .returned (.string O) ∧ TwW s1 [] C1 s2 [] C2 L los w.heap.size w w') := Lib.hid (fun W hW => by
          have h9 := hW.mine
          rw [M1, hO] at h9
          exact h9)
        have HM2 : Hid (∀ W, TwW s1 [] C1 s2 [] C2 L los w.heap.size w W → Calls Tryz.prog 32 #[.pointer (some ⟨C2, 0, none⟩), .int .i64 1] W fun e w' => e = .returned (.string U) ∧ TwW s1 [] C1 s2 [] C2 L los w.heap.size w w') := Lib.hid (fun W hW => by
          have h9 := hW.swap.mine
          rw [M2, hU] at h9
          exact h9.mono fun e w' ⟨x, y⟩ => ⟨x, y.swap⟩)
        have HT1 : Hid (∀ W, TwW s1 [] C1 s2 [] C2 L los w.heap.size w W → Calls Tryz.prog 37 #[.pointer (some ⟨C1, 0, none⟩), .int .i64 1] W fun e w' => e = .returned (.string U) ∧ TwW s1 [] C1 s2 [] C2 L los w.heap.size w w') := Lib.hid (fun W hW => by
          have h9 := hW.theirs
          rw [T1, hU] at h9
          exact h9)
        have HT2 : Hid (∀ W, TwW s1 [] C1 s2 [] C2 L los w.heap.size w W → Calls Tryz.prog 37 #[.pointer (some ⟨C2, 0, none⟩), .int .i64 1] W fun e w' => e = .returned (.string O) ∧ TwW s1 [] C1 s2 [] C2 L los w.heap.size w w') := Lib.hid (fun W hW => by
          have h9 := hW.swap.theirs
          rw [T2, hO] at h9
          exact h9.mono fun e w' ⟨x, y⟩ => ⟨x, y.swap⟩)
        have HR1 : (one = none ∧ O = { data := #[2] }) ∨ ∃ x, one = some x ∧ str x = O := by
          cases one with
          | none => exact .inl ⟨rfl, by rw [← hO]; rfl⟩
          | some x => exact .inr ⟨x, rfl, hO⟩
        have HR2 : (two = none ∧ U = { data := #[2] }) ∨ ∃ x, two = some x ∧ str x = U := by
          cases two with
          | none => exact .inl ⟨rfl, by rw [← hU]; rfl⟩
          | some x => exact .inr ⟨x, rfl, hU⟩
        have HWR := Lib.hid hwr
        clear D1 D2 M1 M2 T1 T2 hO hU hs hw hB hwr b1 b2 b3 b4 b5 HST S1 S2 g4 HBG
        rcases HR1 with ⟨rfl, rfl⟩ | ⟨x, rfl, hx⟩
        all_goals rcases HR2 with ⟨rfl, rfl⟩ | ⟨z, rfl, hz⟩
        all_goals (simp only [ftRet, Option.getD_none, Option.getD_some, Option.isSome_none, Option.isSome_some] at HCB HCC)
        all_goals (try rw [hx] at HCB)
        all_goals (try rw [hz] at HCC)
        all_goals
          go_wp2_with (first
            | (go_at_call 47; (first
              | ((with_reducible refine (HCB.out _).mono ?_); rintro e wq ⟨rfl, n1, rfl⟩; clear HCB)
              | ((with_reducible refine (HCC.out _).mono ?_); rintro e wq ⟨rfl, n2, rfl⟩; clear HCC)))
            | (go_at_call 35; (first
              | ((with_reducible refine (HD1.out _ (HWR.out.below (bel_drewN _ _))).mono ?_); rintro e v1 ⟨rfl, k1⟩; clear HD1)
              | ((with_reducible refine (HD2.out _ k1).mono ?_); rintro e v2 ⟨rfl, k2⟩; clear HD2)))
            | (go_at_call 32; (first
              | ((with_reducible refine (HM1.out _ k2).mono ?_); rintro e v3 ⟨rfl, k3⟩; clear HM1)
              | ((with_reducible refine (HM2.out _ k4).mono ?_); rintro e v5 ⟨rfl, k5⟩; clear HM2)))
            | (go_at_call 37; (first
              | ((with_reducible refine (HT2.out _ k3).mono ?_); rintro e v4 ⟨rfl, k4⟩; clear HT2)
              | ((with_reducible refine (HT1.out _ k5).mono ?_); rintro e v6 ⟨rfl, k6⟩; clear HT1))))
        all_goals go_ret
        all_goals exact ⟨rfl, k6.bel⟩
  · have HN : Hid (∀ j, Calls Tryz.prog 34 #[.pointer (some ⟨C1, 0, none⟩), .int .i64 1, .string { data := #[] }] (w2.drewN j) fun e w' => e = .returned (.int .i64 3) ∧ Below w.heap.size w w') := Lib.hid (fun j => by
      obtain ⟨v1, v2, hv⟩ := HTW.out.below (bel_drewN w2 j)
      refine (HWN.out C1 v1 _ hv.a1).mono ?_
      rintro e w' ⟨rfl, k⟩
      exact ⟨rfl, hv.grow (k.more (fun x hx => by rw [List.mem_singleton.1 hx]; simp))⟩)
    clear HTW HWN HCB HCC HCELL
    have key : (ma = false) ∨ (ma = true ∧ mb = false) ∨ (ma = true ∧ mb = true ∧ mc = false) ∨ (ma = true ∧ mb = true ∧ mc = true ∧ md = false) := by
      revert hall
      cases ma <;> cases mb <;> cases mc <;> cases md <;> simp
    clear hall
    rcases key with rfl | ⟨rfl, rfl⟩ | ⟨rfl, rfl, rfl⟩ | ⟨rfl, rfl, rfl, rfl⟩
    all_goals
      go_wp2_with (first
        | (go_at_call 36; (first
          | ((with_reducible refine (HMA.out _).mono ?_); rintro e wm ⟨rfl, j1, rfl⟩; clear HMA)
          | ((with_reducible refine (HMB.out _).mono ?_); rintro e wm ⟨rfl, j2, rfl⟩; clear HMB)
          | ((with_reducible refine (HMC.out _).mono ?_); rintro e wm ⟨rfl, j3, rfl⟩; clear HMC)
          | ((with_reducible refine (HMD.out _).mono ?_); rintro e wm ⟨rfl, j4, rfl⟩; clear HMD)))
        | (go_at_call 34; (with_reducible refine (HN.out _).mono ?_); rintro e wn ⟨rfl, hbn⟩))
      go_ret
      exact ⟨rfl, hbn⟩
end Go.Proofs.YtfmnpepgmedfpaaGreatDoor

namespace Go.Proofs.YtfmnpepgmedfpaaGreatDoor
open Go.ChangeShapes Go.WideShapes Go.Deep Go.RowKit
set_option linter.unusedVariables false

theorem open_bools {H : Type} {enc : TypeId × Value → H} {W : World} {p : Option Addr} {n c : Nat} {d : DataW H} {q : List MemPlace}
    (h : DataW.Trod enc Tryz.prog W 0 (fun _ => true) true 77 (.slice p n c) d q) :
    n ≤ c ∧ c ≤ 9223372036854775807 ∧ ∃ lb : Nat → Bool, ∀ i, i < n → ∃ g o, p = some ⟨g, o, none⟩ ∧ g < W.heap.size ∧ W.cell? ⟨g, o + i, none⟩ = some (.bool (lb i)) := by
  obtain ⟨fuel, hf⟩ := h
  rcases open_slice Tryz.underlying77 hf with ⟨hcs, hx⟩ | ⟨a, len, cap, m, n', D, Pl, hcs, hb, hl, hm, hmm, hx, hi⟩
  · simp [Value.cells] at hcs
    obtain ⟨rfl, rfl, rfl⟩ := hcs
    exact ⟨by omega, by omega, fun _ => false, fun i hi => absurd hi (Nat.not_lt_zero i)⟩
  · simp [Value.cells] at hcs
    obtain ⟨rfl, rfl, rfl⟩ := hcs
    have hm' : c ≤ 9223372036854775807 := hm
    simp only [if_true] at hmm
    have hC : Tryz.prog.cellsOf 4 = 1 := by kernel_rfl
    rw [hC] at hi
    have key : ∀ i, i < n → ∃ b, W.cell? (a.add i) = some (.bool b) := by
      intro i hin
      obtain ⟨cs', hc, ht'⟩ := hi i (by omega)
      obtain ⟨_, hcl, hat⟩ := World.cells?_some hc
      obtain ⟨b, hb', _⟩ := DataW.trod_bool Tryz.underlying4 ht'
      subst hb'
      have c0 := hat 0 (by decide)
      have e0 : (a.add (i * 1)).add 0 = a.add i := by rw [Nat.mul_one]; simp [Addr.add]
      rw [e0] at c0
      exact ⟨b, c0⟩
    have hch : ∃ lb : Nat → Bool, ∀ i, i < n → W.cell? (a.add i) = some (.bool (lb i)) := by
      refine ⟨fun i => if hin : i < n then (key i hin).choose else false, fun i hin => ?_⟩
      simp only [dif_pos hin]
      exact (key i hin).choose_spec
    obtain ⟨lb, hlb⟩ := hch
    refine ⟨hl, hm', lb, fun i hin => ?_⟩
    have h0 := hlb 0 (by omega)
    have h1 := hlb i hin
    obtain ⟨b, o, ha, hb⟩ := addr_plain h0
    rw [ha, add_plain] at h1
    exact ⟨b, o, by rw [ha], hb, h1⟩
end Go.Proofs.YtfmnpepgmedfpaaGreatDoor
