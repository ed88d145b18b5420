/-
  Package ctrl: whoever leads by a window.
  Package ctrl: whoever leads by a rate: what is held, the bucket follows, May, Sent, Due, Of.
  Package ctrl: whoever leads by a rate: Of, Window, Bucket, Rate, Kind, May, Sent, Due.
  Package ctrl: whoever leads by a rate: Hear and Fire, from what the rate does.
  Package ctrl: what a Control's methods are, by what lies in it.
  Package ctrl: whoever leads by a rate, as a law uses it that does not look at the bucket: each call from what is held to what is held.
-/
import Derived.Test.YtfmnpepgmedfpaaGreatDoorWinW
import Derived.Test.YtfmnpepgmedfpaaGreatDoorTfV
import Derived.Test.YtfmnpepgmedfpaaGreatDoorPcW
namespace Go.Proofs.YtfmnpepgmedfpaaGreatDoor
open Go.ChangeShapes Go.WideShapes Go.ChangeAt Go.RowKit
set_option linter.unusedVariables false
set_option linter.unusedSimpArgs false

/-- A leader by a window at K, its window at C and D. -/
structure CwAt (s : WinS) (t : RttS) (K C D : Nat) (w : World) : Prop where
  blk : BlkIs #[.pointer (some ⟨C, 0, none⟩)] 129 K w
  win : WinAt s t C D w
  ne : K ≠ C ∧ K ≠ D
/-- It as a Control. -/
def cwV (K : Nat) : Value := .iface 126 (.pointer (some ⟨K, 0, none⟩))
theorem CwAt.kept {s : WinS} {t : RttS} {K C D : Nat} {S : List Nat} {w w' : World} (h : CwAt s t K C D w) (k : Kept S w w') (h0 : K ∉ S) (h1 : C ∉ S) (h2 : D ∉ S) : CwAt s t K C D w' := ⟨h.blk.kept k h0, h.win.kept k h1 h2, h.ne⟩
theorem CwAt.below {s : WinS} {t : RttS} {K C D : Nat} {w w' : World} (h : CwAt s t K C D w) (k : Below w.heap.size w w') : CwAt s t K C D w' := h.kept (Kept.of_below [] k) (by simp) (by simp) (by simp)
theorem CwAt.drewN {s : WinS} {t : RttS} {K C D : Nat} {w : World} (h : CwAt s t K C D w) (n : Nat) : CwAt s t K C D (w.drewN n) := h.below (bel_drewN w n)
theorem CwAt.to {s s' : WinS} {t t' : RttS} {K C D : Nat} {w w' : World} (h : CwAt s t K C D w) (k : Kept [C, D] w w') (h' : WinAt s' t' C D w') : CwAt s' t' K C D w' := ⟨h.blk.kept k (by have := h.ne; simp; omega), h', h.ne⟩
theorem asW_W (v : Value) (w : World) : (Instr.typeAssert (.iface 126 v) 80 126 true).run Tryz.prog w = .ok (.tuple #[v, .bool true]) w := by kernel_rfl
theorem asR_W (v : Value) (w : World) : (Instr.typeAssert (.iface 130 v) 80 126 true).run Tryz.prog w = .ok (.tuple #[.pointer none, .bool false]) w := by kernel_rfl
theorem asN_W (w : World) : (Instr.typeAssert .nilIface 80 126 true).run Tryz.prog w = .ok (.tuple #[.pointer none, .bool false]) w := by kernel_rfl
theorem asW_R (v : Value) (w : World) : (Instr.typeAssert (.iface 126 v) 80 130 true).run Tryz.prog w = .ok (.tuple #[.pointer none, .bool false]) w := by kernel_rfl
theorem asR_R (v : Value) (w : World) : (Instr.typeAssert (.iface 130 v) 80 130 true).run Tryz.prog w = .ok (.tuple #[v, .bool true]) w := by kernel_rfl
theorem asN_R (w : World) : (Instr.typeAssert .nilIface 80 130 true).run Tryz.prog w = .ok (.tuple #[.pointer none, .bool false]) w := by kernel_rfl
theorem asR_Rp (v : Value) (w : World) : (Instr.typeAssert (.iface 130 v) 80 130 false).run Tryz.prog w = .ok v w := by kernel_rfl
theorem ctOf_no (kind size : Int) (hk : kind ≠ 2 ∧ kind ≠ 3 ∨ size < 1 ∨ 1400 < size) (w : World) :
    Calls Tryz.prog 48 #[.int .i64 kind, .int .i64 size] w fun e w' => e = .returned .nilIface ∧ w = w' := by
  go_enter Tryz.func48, Tryz.ntmps48
  by_cases h1 : size < 1
  · go_wp2
    go_ret
    exact ⟨rfl, rfl⟩
  · by_cases h2 : 1400 < size
    · go_wp2
      go_ret
      exact ⟨rfl, rfl⟩
    · have h3 : kind ≠ 2 := by omega
      have h4 : kind ≠ 3 := by omega
      go_wp2
      go_ret
      exact ⟨rfl, rfl⟩
theorem ctOf_win (size : Int) (h1 : 1 ≤ size) (h2 : size ≤ 1400) (w : World) :
    Calls Tryz.prog 48 #[.int .i64 2, .int .i64 size] w fun e w' => ∃ K C D, e = .returned (cwV K) ∧ CwAt WinS.init RttS.zero K C D w' ∧ w.heap.size ≤ K ∧ w.heap.size ≤ C ∧ w.heap.size ≤ D ∧ Below w.heap.size w w' := by
  go_enter Tryz.func48, Tryz.ntmps48
  go_wp2_with (go_at_call 81; (with_reducible refine (winNew_any _).mono ?_); rintro e w1 ⟨C, D, rfl, hwin, hc1, hd1, hb1⟩)
  go_ret
  have hC := hwin.win.lt
  have hD := BlkIs.lt hwin.rtt
  exact ⟨_, C, D, rfl, ⟨BlkIs.new _ _ _, hwin.below (bel_alloc _ _), by omega, by omega⟩, hb1.size, hc1, hd1, bel_trans hb1 (bel_alloc _ _)⟩
theorem ctWindow_win {s : WinS} {t : RttS} {K C D : Nat} {w : World} (h : CwAt s t K C D w) :
    Calls Tryz.prog 49 #[cwV K] w fun e w' => e = .returned (.tuple #[.pointer (some ⟨C, 0, none⟩), .bool true]) ∧ w = w' := by
  have c0 : w.cell? ⟨K, 0, none⟩ = some (.pointer (some ⟨C, 0, none⟩)) := BlkIs.cell h.blk 0
  clear h
  unfold cwV
  have AS := asW_W
  go_enter Tryz.func49, Tryz.ntmps49
  go_wp2
  go_ret2
  exact ⟨rfl, rfl⟩
theorem ctWindow_nil (w : World) :
    Calls Tryz.prog 49 #[.nilIface] w fun e w' => e = .returned (.tuple #[.pointer none, .bool false]) ∧ w = w' := by
  have AS := asN_W
  go_enter Tryz.func49, Tryz.ntmps49
  go_wp2
  go_ret2
  exact ⟨rfl, rfl⟩
theorem ctBucket_win (K : Nat) (w : World) :
    Calls Tryz.prog 50 #[cwV K] w fun e w' => e = .returned (.tuple #[.pointer none, .bool false]) ∧ w = w' := by
  unfold cwV
  have AS := asW_R
  go_enter Tryz.func50, Tryz.ntmps50
  go_wp2
  go_ret2
  exact ⟨rfl, rfl⟩
theorem ctBucket_nil (w : World) :
    Calls Tryz.prog 50 #[.nilIface] w fun e w' => e = .returned (.tuple #[.pointer none, .bool false]) ∧ w = w' := by
  have AS := asN_R
  go_enter Tryz.func50, Tryz.ntmps50
  go_wp2
  go_ret2
  exact ⟨rfl, rfl⟩
end Go.Proofs.YtfmnpepgmedfpaaGreatDoor

namespace Go.Proofs.YtfmnpepgmedfpaaGreatDoor
open Go.ChangeShapes Go.WideShapes Go.ChangeAt Go.RowKit
set_option linter.unusedVariables false
set_option linter.unusedSimpArgs false

/-- A leader by a rate at K: its rate at C (its set at P with the row v), its bucket at B, which was given g. -/
structure CrAt (t : TfS) (l : List Pr) (p : PcS) (g : Nat) (K C P B : Nat) (v : Value) (w : World) : Prop where
  blk : BlkIs #[.pointer (some ⟨C, 0, none⟩), .pointer (some ⟨B, 0, none⟩), .int .u64 g] 133 K w
  tf : TfAt t l C P v w
  pc : PcAt p B w
  ne : K ≠ C ∧ K ≠ P ∧ K ≠ B ∧ B ≠ C ∧ B ≠ P
  nv : ∀ q, v.ownBlock = some q → q ≠ K ∧ q ≠ B
/-- It as a Control. -/
def crV (K : Nat) : Value := .iface 130 (.pointer (some ⟨K, 0, none⟩))
theorem CrAt.kept {t : TfS} {l : List Pr} {p : PcS} {g K C P B : Nat} {v : Value} {S : List Nat} {w w' : World} (h : CrAt t l p g K C P B v w) (k : Kept S w w') (h0 : K ∉ S) (h1 : C ∉ S) (h2 : P ∉ S) (h3 : B ∉ S) (h4 : ∀ q, v.ownBlock = some q → q ∉ S) : CrAt t l p g K C P B v w' :=
  ⟨h.blk.kept k h0, h.tf.kept k h1 h2 h4, BlkIs.kept h.pc k h3, h.ne, h.nv⟩
theorem CrAt.below {t : TfS} {l : List Pr} {p : PcS} {g K C P B : Nat} {v : Value} {w w' : World} (h : CrAt t l p g K C P B v w) (k : Below w.heap.size w w') : CrAt t l p g K C P B v w' := h.kept (Kept.of_below [] k) (by simp) (by simp) (by simp) (by simp) (by simp)
theorem CrAt.drewN {t : TfS} {l : List Pr} {p : PcS} {g K C P B : Nat} {v : Value} {w : World} (h : CrAt t l p g K C P B v w) (n : Nat) : CrAt t l p g K C P B v (w.drewN n) := h.below (bel_drewN w n)
/-- Its bucket has turned. -/
theorem CrAt.bucket {t : TfS} {l : List Pr} {p p' : PcS} {g K C P B : Nat} {v : Value} {w w' : World} (h : CrAt t l p g K C P B v w) (k : Kept [B] w w') (h' : PcAt p' B w') : CrAt t l p' g K C P B v w' := by
  obtain ⟨n0, n1, n2, n3, n4⟩ := h.ne
  exact ⟨h.blk.kept k (by simp; omega), h.tf.kept k (by simp; omega) (by simp; omega) (fun q hq => by have := (h.nv q hq).2; simp; omega), h', h.ne, h.nv⟩
/-- Its rate has turned. -/
theorem CrAt.rate {t t' : TfS} {l l' : List Pr} {p : PcS} {g K C P B : Nat} {v v' : Value} {w w' : World} (h : CrAt t l p g K C P B v w) (k : Kept (C :: P :: own v) w w') (h' : TfAt t' l' C P v' w') (hv : v'.ownBlock = v.ownBlock ∨ ∃ q, v'.ownBlock = some q ∧ w.heap.size ≤ q) : CrAt t' l' p g K C P B v' w' := by
  obtain ⟨n0, n1, n2, n3, n4⟩ := h.ne
  have o : ∀ x, x ∈ own v → x ≠ K ∧ x ≠ B := fun x hx => by
    unfold own at hx
    cases hq : v.ownBlock with
    | none => rw [hq] at hx; simp at hx
    | some q => rw [hq] at hx; simp at hx; rw [hx]; exact h.nv q hq
  refine ⟨h.blk.kept k ?_, h', BlkIs.kept h.pc k ?_, h.ne, fun q hq => ?_⟩
  · intro hm
    rcases List.mem_cons.1 hm with e | hm
    · exact n0 e
    · rcases List.mem_cons.1 hm with e | hm
      · exact n1 e
      · exact (o K hm).1 rfl
  · intro hm
    rcases List.mem_cons.1 hm with e | hm
    · exact n3 e
    · rcases List.mem_cons.1 hm with e | hm
      · exact n4 e
      · exact (o B hm).2 rfl
  · rcases hv with e | ⟨q', e, hlt⟩
    · exact h.nv q (by rw [← e]; exact hq)
    · rw [e] at hq
      injection hq with hq
      have h1 := h.blk.lt
      have h2 := BlkIs.lt h.pc
      omega
/-- The bucket behind 'follow'. -/
def crP (t : TfS) (p : PcS) (g : Nat) (now : Int) : PcS := if t.rate = g then p else (p.fill now).rated t.rate
theorem crP_ok {t : TfS} {p : PcS} (g : Nat) (now : Int) (ht : t.ok) (hp : p.Ok) : (crP t p g now).Ok := by
  unfold crP
  split
  · exact hp
  · exact (hp.fill now).rated _ ht.b1
end Go.Proofs.YtfmnpepgmedfpaaGreatDoor

namespace Go.Proofs.YtfmnpepgmedfpaaGreatDoor
open Go.ChangeShapes Go.WideShapes Go.ChangeAt Go.RowKit
set_option linter.unusedVariables false
set_option linter.unusedSimpArgs false

def tfFirst (S : Nat) : TfS := ⟨S, 64 * S, 0, 0, 0, false, 0, false⟩
def pcFirst : PcS := ⟨64000000 * 1400, 10000, 0, 0, 0⟩
theorem tfFirst_ok (S : Nat) (h1 : 1 ≤ S) (h2 : S ≤ 1400) : (tfFirst S).ok := ⟨⟨h1, h2⟩, by show 64 * S < _; omega, (by decide : (0 : Int) ≤ 0 ∧ (0 : Int) ≤ 4294967296), (by decide : 0 ≤ 4294967296), (by decide : (0 : Int) ≤ 0 ∧ (0 : Int) ≤ 4611686018427387904)⟩
theorem pcFirst_ok : pcFirst.Ok := PcS.Ok.new 1400 10000 (by decide) (by decide)
theorem SetAt.lt0 {l : List Pr} {P : Nat} {v : Value} {w : World} (h : SetAt l P v w) (g : Nat) (hg : v.ownBlock = some g) : g < w.heap.size := by
  rcases h.row.2 with ⟨rfl, _⟩ | ⟨g', cap, cur, rfl, _, hh, _⟩
  · cases hg
  · have : g' = g := by simpa [Value.ownBlock] using hg
    subst this
    exact (Array.getElem?_eq_some_iff.1 hh).1
theorem ctOf_rate (S : Nat) (h1 : 1 ≤ S) (h2 : S ≤ 1400) (w : World) :
    Calls Tryz.prog 48 #[.int .i64 3, .int .i64 S] w fun e w' => ∃ K C P B v, e = .returned (crV K) ∧ CrAt (tfFirst S) [(0, 18446744073709551615)] pcFirst 0 K C P B v w' ∧ w.heap.size ≤ K ∧ w.heap.size ≤ C ∧ w.heap.size ≤ P ∧ w.heap.size ≤ B ∧ (∀ q, v.ownBlock = some q → w.heap.size ≤ q) ∧ Below w.heap.size w w' := by
  have d1 : decide ((S : Int) < 1) = false := decide_eq_false (by omega)
  have d2 : decide ((1400 : Int) < (S : Int)) = false := decide_eq_false (by omega)
  have HPN : Hid (∀ W, Calls Tryz.prog 16 #[.int .i64 1400, .int .i64 10000] W fun e w' => ∃ C, e = .returned (.pointer (some ⟨C, 0, none⟩)) ∧ PcAt pcFirst C w' ∧ W.heap.size ≤ C ∧ Below W.heap.size W w') := Lib.hid (fun W => paceNew_any 1400 10000 (by decide) (by decide) (by decide) W)
  go_enter Tryz.func48, Tryz.ntmps48
  go_wp2_with (first
    | (go_at_call 82; (with_reducible refine (tfNew_any S h1 h2 _).mono ?_); rintro e w1 ⟨C, P, v, rfl, ht, hC, hP, hv, hb1⟩)
    | (go_at_call 16; (with_reducible refine (HPN.out _).mono ?_); rintro e w2 ⟨B, rfl, hp, hB, hb2⟩))
  go_ret
  have l1 := ht.tf.lt
  have l2 := BlkIs.lt ht.set.set
  have l3 := hp.lt
  have l4 : ∀ q, v.ownBlock = some q → q < w1.heap.size := fun q hq => SetAt.lt0 ht.set q hq
  have s1 := hb1.size
  have s2 := hb2.size
  refine ⟨_, C, P, B, v, rfl, ⟨BlkIs.new _ _ _, (ht.below hb2).below (bel_alloc _ _), BlkIs.below hp (bel_alloc _ _), ⟨by omega, by omega, by omega, by omega, by omega⟩, fun q hq => by have := l4 q hq; omega⟩, by omega, hC, hP, by omega, hv, ?_⟩
  exact bel_trans (bel_trans hb1 hb2) (bel_alloc _ _)
theorem ctWindow_rate (K : Nat) (w : World) :
    Calls Tryz.prog 49 #[crV K] w fun e w' => e = .returned (.tuple #[.pointer none, .bool false]) ∧ w = w' := by
  have AS := asR_W
  unfold crV
  go_enter Tryz.func49, Tryz.ntmps49
  go_wp2
  go_ret2
  exact ⟨rfl, rfl⟩
theorem ctBucket_rate {t : TfS} {l : List Pr} {p : PcS} {g K C P B : Nat} {v : Value} {w : World} (h : CrAt t l p g K C P B v w) :
    Calls Tryz.prog 50 #[crV K] w fun e w' => e = .returned (.tuple #[.pointer (some ⟨B, 0, none⟩), .bool true]) ∧ w = w' := by
  have c1 : w.cell? ⟨K, 1, none⟩ = some (.pointer (some ⟨B, 0, none⟩)) := BlkIs.cell h.blk 1
  clear h
  have AS := asR_R
  unfold crV
  go_enter Tryz.func50, Tryz.ntmps50
  go_wp2
  go_ret2
  exact ⟨rfl, rfl⟩
theorem ctRate_rate {t : TfS} {l : List Pr} {p : PcS} {g K C P B : Nat} {v : Value} {w : World} (h : CrAt t l p g K C P B v w) :
    Calls Tryz.prog 51 #[crV K] w fun e w' => e = .returned (.pointer (some ⟨C, 0, none⟩)) ∧ w = w' := by
  have c0 : w.cell? ⟨K, 0, none⟩ = some (.pointer (some ⟨C, 0, none⟩)) := BlkIs.cell h.blk 0
  clear h
  have AS := asR_Rp
  unfold crV
  go_enter Tryz.func51, Tryz.ntmps51
  go_wp2
  go_ret
  exact ⟨rfl, rfl⟩
/-- The bucket as it stands at now, given the rate. -/
def crM (t : TfS) (p : PcS) (g : Nat) (now : Int) : PcS := (crP t p g now).fill now
theorem crM_ok {t : TfS} {p : PcS} (g : Nat) (now : Int) (ht : t.ok) (hp : p.Ok) : (crM t p g now).Ok := (crP_ok g now ht hp).fill now
/-- The rate behind Start. -/
def TfS.start (t : TfS) (now : Int) : TfS := if t.started = true then t else ({ t with started := true } : TfS).run (M.tfDue 2000000 now)
theorem TfS.start_ok {t : TfS} (h : t.ok) (now : Int) : (t.start now).ok := by
  unfold TfS.start
  split
  · exact h
  · exact ⟨h.b0, h.b1, h.b2, h.b3, h.b4⟩
theorem TfS.start_rate (t : TfS) (now : Int) : (t.start now).rate = t.rate := by unfold TfS.start; split <;> rfl
theorem tfStart_any (s : TfS) (hs : s.ok) (now : Int) (hn : -9223372036854775808 ≤ now ∧ now ≤ 9223372036854775807) (l : List Pr) (C P : Nat) (v : Value) (w : World) (h : TfAt s l C P v w) :
    Calls Tryz.prog 114 #[.pointer (some ⟨C, 0, none⟩), .int .i64 now] w fun e w' => e = .returned (.tuple #[]) ∧ TfAt (s.start now) l C P v w' ∧ Kept [C] w w' := by
  cases h0 : s.started with
  | false =>
    have h1 := tfStart_first s hs h0 now hn l C P v w h
    unfold TfS.start
    rw [if_neg (by simp [h0])]
    exact h1
  | true =>
    have c6 : w.cell? ⟨C, 6, none⟩ = some (.bool s.started) := BlkIs.cell h.tf 6
    rw [h0] at c6
    have HM := Lib.hid (tfMade_any s hs l C P v w h)
    have HH := Lib.hid h
    unfold TfS.start
    rw [if_pos h0]
    clear h
    go_enter Tryz.func114, Tryz.ntmps114
    go_wp2_with (go_at_call 88; (with_reducible refine HM.out.mono ?_); rintro e w1 ⟨rfl, rfl⟩)
    refine bodyPost_ret (results_none rfl _ _ _) rfl ?_
    exact ⟨rfl, HH.out, Kept.refl _ _⟩
end Go.Proofs.YtfmnpepgmedfpaaGreatDoor

namespace Go.Proofs.YtfmnpepgmedfpaaGreatDoor
open Go.ChangeShapes Go.WideShapes Go.ChangeAt Go.RowKit
set_option linter.unusedVariables false
set_option linter.unusedSimpArgs false

/-- Two 'follow's, with the rate turned in between. -/
def crQ (t t' : TfS) (p : PcS) (g : Nat) (now : Int) : PcS := crP t' (crP t p g now) t.rate now
end Go.Proofs.YtfmnpepgmedfpaaGreatDoor

namespace Go.Proofs.YtfmnpepgmedfpaaGreatDoor
open Go.ChangeShapes Go.WideShapes Go.ChangeAt Go.RowKit
set_option linter.unusedVariables false
set_option linter.unusedSimpArgs false

theorem eqN_N (w : World) : (binOp .eql 80 .nilIface .nilIface).run Tryz.prog w = .ok (.bool true) w := by kernel_rfl
theorem eqW_N (v : Value) (w : World) : (binOp .eql 80 (.iface 126 v) .nilIface).run Tryz.prog w = .ok (.bool false) w := by kernel_rfl
theorem eqR_N (v : Value) (w : World) : (binOp .eql 80 (.iface 130 v) .nilIface).run Tryz.prog w = .ok (.bool false) w := by kernel_rfl
theorem naW_Kind (k : Nat) (a : Addr) (w : World) : (nilAhead (k + 1) 126 (.pointer (some a)) "Kind").run Tryz.prog w = .ok (some false) w := by kernel_rfl
theorem naR_Kind (k : Nat) (a : Addr) (w : World) : (nilAhead (k + 1) 130 (.pointer (some a)) "Kind").run Tryz.prog w = .ok (some false) w := by kernel_rfl
theorem naW_May (k : Nat) (a : Addr) (w : World) : (nilAhead (k + 1) 126 (.pointer (some a)) "May").run Tryz.prog w = .ok (some false) w := by kernel_rfl
theorem naR_May (k : Nat) (a : Addr) (w : World) : (nilAhead (k + 1) 130 (.pointer (some a)) "May").run Tryz.prog w = .ok (some false) w := by kernel_rfl
theorem naW_Sent (k : Nat) (a : Addr) (w : World) : (nilAhead (k + 1) 126 (.pointer (some a)) "Sent").run Tryz.prog w = .ok (some false) w := by kernel_rfl
theorem naR_Sent (k : Nat) (a : Addr) (w : World) : (nilAhead (k + 1) 130 (.pointer (some a)) "Sent").run Tryz.prog w = .ok (some false) w := by kernel_rfl
theorem naW_Hear (k : Nat) (a : Addr) (w : World) : (nilAhead (k + 1) 126 (.pointer (some a)) "Hear").run Tryz.prog w = .ok (some false) w := by kernel_rfl
theorem naR_Hear (k : Nat) (a : Addr) (w : World) : (nilAhead (k + 1) 130 (.pointer (some a)) "Hear").run Tryz.prog w = .ok (some false) w := by kernel_rfl
theorem naW_Fire (k : Nat) (a : Addr) (w : World) : (nilAhead (k + 1) 126 (.pointer (some a)) "Fire").run Tryz.prog w = .ok (some false) w := by kernel_rfl
theorem naR_Fire (k : Nat) (a : Addr) (w : World) : (nilAhead (k + 1) 130 (.pointer (some a)) "Fire").run Tryz.prog w = .ok (some false) w := by kernel_rfl
theorem naW_Due (k : Nat) (a : Addr) (w : World) : (nilAhead (k + 1) 126 (.pointer (some a)) "Due").run Tryz.prog w = .ok (some false) w := by kernel_rfl
theorem naR_Due (k : Nat) (a : Addr) (w : World) : (nilAhead (k + 1) 130 (.pointer (some a)) "Due").run Tryz.prog w = .ok (some false) w := by kernel_rfl
end Go.Proofs.YtfmnpepgmedfpaaGreatDoor

namespace Go.Proofs.YtfmnpepgmedfpaaGreatDoor
open Go.ChangeShapes Go.WideShapes Go.ChangeAt Go.RowKit
set_option linter.unusedVariables false
set_option linter.unusedSimpArgs false

/-- A leader by a rate, made since w. -/
def CrX (t : TfS) (l : List Pr) (K C P B : Nat) (w W : World) : Prop :=
  ∃ p g v, CrAt t l p g K C P B v W ∧ p.Ok ∧ (w.heap.size ≤ K ∧ w.heap.size ≤ C ∧ w.heap.size ≤ P ∧ w.heap.size ≤ B ∧ ∀ q, v.ownBlock = some q → w.heap.size ≤ q) ∧ Below w.heap.size w W
theorem CrX.bel {t : TfS} {l : List Pr} {K C P B : Nat} {w W : World} (h : CrX t l K C P B w W) : Below w.heap.size w W := by
  obtain ⟨p, g, v, _, _, _, hb⟩ := h
  exact hb
theorem CrX.below {t : TfS} {l : List Pr} {K C P B : Nat} {w W W' : World} (h : CrX t l K C P B w W) (k : Below W.heap.size W W') : CrX t l K C P B w W' := by
  obtain ⟨p, g, v, h1, h2, h3, hb⟩ := h
  exact ⟨p, g, v, h1.below k, h2, h3, bel_trans hb k⟩
theorem CrX.new (S : Nat) (h1 : 1 ≤ S) (h2 : S ≤ 1400) (w W : World) (hb : Below w.heap.size w W) :
    Calls Tryz.prog 48 #[.int .i64 3, .int .i64 S] W fun e w' => ∃ K C P B, e = .returned (crV K) ∧ CrX (tfFirst S) [(0, 18446744073709551615)] K C P B w w' := by
  refine (ctOf_rate S h1 h2 W).mono ?_
  rintro e w' ⟨K, C, P, B, v, rfl, hc, hK, hC, hP, hB, hv, hb1⟩
  have s0 := hb.size
  exact ⟨K, C, P, B, rfl, pcFirst, 0, v, hc, pcFirst_ok, ⟨by omega, by omega, by omega, by omega, fun q hq => by have := hv q hq; omega⟩, bel_trans hb hb1⟩
theorem CrX.grow {w W W' : World} {S : List Nat} (hb : Below w.heap.size w W) (k : Kept S W W') (hS : ∀ x ∈ S, w.heap.size ≤ x) : Below w.heap.size w W' := hb.trans (k.below hb.size hS)
theorem CrX.ownS {w : World} {K C P B : Nat} {v : Value} (h3 : w.heap.size ≤ K ∧ w.heap.size ≤ C ∧ w.heap.size ≤ P ∧ w.heap.size ≤ B ∧ ∀ q, v.ownBlock = some q → w.heap.size ≤ q) : ∀ x ∈ K :: B :: C :: P :: own v, w.heap.size ≤ x := by
  intro y hy
  rcases List.mem_cons.1 hy with e | hy
  · omega
  rcases List.mem_cons.1 hy with e | hy
  · omega
  rcases List.mem_cons.1 hy with e | hy
  · omega
  rcases List.mem_cons.1 hy with e | hy
  · omega
  unfold own at hy
  cases hq : v.ownBlock with
  | none => rw [hq] at hy; simp at hy
  | some q => rw [hq] at hy; simp at hy; rw [hy]; exact h3.2.2.2.2 q hq
theorem CrX.ownUp {w W : World} {v v' : Value} (hb : Below w.heap.size w W) (hv : ∀ q, v.ownBlock = some q → w.heap.size ≤ q) (o : v'.ownBlock = v.ownBlock ∨ ∃ q, v'.ownBlock = some q ∧ W.heap.size ≤ q) : ∀ q, v'.ownBlock = some q → w.heap.size ≤ q := by
  intro q hq
  have hs := hb.size
  rcases o with e | ⟨q', e, hlt⟩
  · exact hv q (by rw [← e]; exact hq)
  · rw [e] at hq
    injection hq with hq
    omega
theorem CrX.rateOf {t : TfS} {l : List Pr} {K C P B : Nat} {w W : World} (h : CrX t l K C P B w W) : Calls Tryz.prog 51 #[crV K] W fun e w' => e = .returned (.pointer (some ⟨C, 0, none⟩)) ∧ W = w' := by
  obtain ⟨p, g, v, h1, _⟩ := h
  exact ctRate_rate h1
theorem CrX.rate {t : TfS} {l : List Pr} {K C P B : Nat} {w W : World} (h : CrX t l K C P B w W) (ht : t.ok) : Calls Tryz.prog 55 #[.pointer (some ⟨C, 0, none⟩)] W fun e w' => e = .returned (.int .u64 t.rate) ∧ W = w' := by
  obtain ⟨p, g, v, h1, _⟩ := h
  exact tfRate_any t ht l C P v W h1.tf
end Go.Proofs.YtfmnpepgmedfpaaGreatDoor
