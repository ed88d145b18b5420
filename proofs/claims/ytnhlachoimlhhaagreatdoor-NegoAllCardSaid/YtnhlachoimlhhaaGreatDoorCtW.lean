/-
  Package ctrl: whoever leads by a window.
  Package ctrl: whoever leads by a rate: what is held, the bucket follows, May, Sent, Due, Of.
  Package ctrl: whoever leads by a rate: Of, Window, Bucket, Rate, Kind, May, Sent, Due.
  Package ctrl: whoever leads by a rate: Hear and Fire, from what the rate does.
  Package ctrl: what a Control's methods are, by what lies in it.
  Package ctrl: whoever leads by a rate, as a law uses it that does not look at the bucket: each call from what is held to what is held.
-/
import Derived.Test.YtnhlachoimlhhaaGreatDoorWinW
import Derived.Test.YtnhlachoimlhhaaGreatDoorTfV
import Derived.Test.YtnhlachoimlhhaaGreatDoorPcW
namespace Go.Proofs.YtnhlachoimlhhaaGreatDoor
open Go.ChangeShapes Go.WideShapes Go.ChangeAt Go.RowKit
set_option linter.unusedVariables false
set_option linter.unusedSimpArgs false

/-- A leader by a window at K, its window at C and D. -/
structure CwAt (s : WinS) (t : RttS) (K C D : Nat) (w : World) : Prop where
  blk : BlkIs #[.pointer (some ⟨C, 0, none⟩)] 120 K w
  win : WinAt s t C D w
  ne : K ≠ C ∧ K ≠ D
/-- It as a Control. -/
def cwV (K : Nat) : Value := .iface 117 (.pointer (some ⟨K, 0, none⟩))
theorem CwAt.kept {s : WinS} {t : RttS} {K C D : Nat} {S : List Nat} {w w' : World} (h : CwAt s t K C D w) (k : Kept S w w') (h0 : K ∉ S) (h1 : C ∉ S) (h2 : D ∉ S) : CwAt s t K C D w' := ⟨h.blk.kept k h0, h.win.kept k h1 h2, h.ne⟩
theorem CwAt.below {s : WinS} {t : RttS} {K C D : Nat} {w w' : World} (h : CwAt s t K C D w) (k : Below w.heap.size w w') : CwAt s t K C D w' := h.kept (Kept.of_below [] k) (by simp) (by simp) (by simp)
theorem CwAt.drewN {s : WinS} {t : RttS} {K C D : Nat} {w : World} (h : CwAt s t K C D w) (n : Nat) : CwAt s t K C D (w.drewN n) := h.below (bel_drewN w n)
theorem CwAt.to {s s' : WinS} {t t' : RttS} {K C D : Nat} {w w' : World} (h : CwAt s t K C D w) (k : Kept [C, D] w w') (h' : WinAt s' t' C D w') : CwAt s' t' K C D w' := ⟨h.blk.kept k (by have := h.ne; simp; omega), h', h.ne⟩
theorem asW_W (v : Value) (w : World) : (Instr.typeAssert (.iface 117 v) 44 117 true).run Tryz.prog w = .ok (.tuple #[v, .bool true]) w := by kernel_rfl
theorem asR_W (v : Value) (w : World) : (Instr.typeAssert (.iface 121 v) 44 117 true).run Tryz.prog w = .ok (.tuple #[.pointer none, .bool false]) w := by kernel_rfl
theorem asR_R (v : Value) (w : World) : (Instr.typeAssert (.iface 121 v) 44 121 true).run Tryz.prog w = .ok (.tuple #[v, .bool true]) w := by kernel_rfl
theorem asR_Rp (v : Value) (w : World) : (Instr.typeAssert (.iface 121 v) 44 121 false).run Tryz.prog w = .ok v w := by kernel_rfl
theorem ctOf_win (size : Int) (h1 : 1 ≤ size) (h2 : size ≤ 1400) (w : World) :
    Calls Tryz.prog 30 #[.int .i64 2, .int .i64 size] w fun e w' => ∃ K C D, e = .returned (cwV K) ∧ CwAt WinS.init RttS.zero K C D w' ∧ w.heap.size ≤ K ∧ w.heap.size ≤ C ∧ w.heap.size ≤ D ∧ Below w.heap.size w w' := by
  go_enter Tryz.func30, Tryz.ntmps30
  go_wp2_with (go_at_call 75; (with_reducible refine (winNew_any _).mono ?_); rintro e w1 ⟨C, D, rfl, hwin, hc1, hd1, hb1⟩)
  go_ret
  have hC := hwin.win.lt
  have hD := BlkIs.lt hwin.rtt
  exact ⟨_, C, D, rfl, ⟨BlkIs.new _ _ _, hwin.below (bel_alloc _ _), by omega, by omega⟩, hb1.size, hc1, hd1, bel_trans hb1 (bel_alloc _ _)⟩
theorem ctWindow_win {s : WinS} {t : RttS} {K C D : Nat} {w : World} (h : CwAt s t K C D w) :
    Calls Tryz.prog 31 #[cwV K] w fun e w' => e = .returned (.tuple #[.pointer (some ⟨C, 0, none⟩), .bool true]) ∧ w = w' := by
  have c0 : w.cell? ⟨K, 0, none⟩ = some (.pointer (some ⟨C, 0, none⟩)) := BlkIs.cell h.blk 0
  clear h
  unfold cwV
  have AS := asW_W
  go_enter Tryz.func31, Tryz.ntmps31
  go_wp2
  go_ret2
  exact ⟨rfl, rfl⟩
end Go.Proofs.YtnhlachoimlhhaaGreatDoor

namespace Go.Proofs.YtnhlachoimlhhaaGreatDoor
open Go.ChangeShapes Go.WideShapes Go.ChangeAt Go.RowKit
set_option linter.unusedVariables false
set_option linter.unusedSimpArgs false

/-- A leader by a rate at K: its rate at C (its set at P with the row v), its bucket at B, which was given g. -/
structure CrAt (t : TfS) (l : List Pr) (p : PcS) (g : Nat) (K C P B : Nat) (v : Value) (w : World) : Prop where
  blk : BlkIs #[.pointer (some ⟨C, 0, none⟩), .pointer (some ⟨B, 0, none⟩), .int .u64 g] 124 K w
  tf : TfAt t l C P v w
  pc : PcAt p B w
  ne : K ≠ C ∧ K ≠ P ∧ K ≠ B ∧ B ≠ C ∧ B ≠ P
  nv : ∀ q, v.ownBlock = some q → q ≠ K ∧ q ≠ B
/-- It as a Control. -/
def crV (K : Nat) : Value := .iface 121 (.pointer (some ⟨K, 0, none⟩))
theorem CrAt.kept {t : TfS} {l : List Pr} {p : PcS} {g K C P B : Nat} {v : Value} {S : List Nat} {w w' : World} (h : CrAt t l p g K C P B v w) (k : Kept S w w') (h0 : K ∉ S) (h1 : C ∉ S) (h2 : P ∉ S) (h3 : B ∉ S) (h4 : ∀ q, v.ownBlock = some q → q ∉ S) : CrAt t l p g K C P B v w' :=
  ⟨h.blk.kept k h0, h.tf.kept k h1 h2 h4, BlkIs.kept h.pc k h3, h.ne, h.nv⟩
theorem CrAt.below {t : TfS} {l : List Pr} {p : PcS} {g K C P B : Nat} {v : Value} {w w' : World} (h : CrAt t l p g K C P B v w) (k : Below w.heap.size w w') : CrAt t l p g K C P B v w' := h.kept (Kept.of_below [] k) (by simp) (by simp) (by simp) (by simp) (by simp)
theorem CrAt.drewN {t : TfS} {l : List Pr} {p : PcS} {g K C P B : Nat} {v : Value} {w : World} (h : CrAt t l p g K C P B v w) (n : Nat) : CrAt t l p g K C P B v (w.drewN n) := h.below (bel_drewN w n)
/-- Its bucket has turned. -/
theorem CrAt.bucket {t : TfS} {l : List Pr} {p p' : PcS} {g K C P B : Nat} {v : Value} {w w' : World} (h : CrAt t l p g K C P B v w) (k : Kept [B] w w') (h' : PcAt p' B w') : CrAt t l p' g K C P B v w' := by
  obtain ⟨n0, n1, n2, n3, n4⟩ := h.ne
  exact ⟨h.blk.kept k (by simp; omega), h.tf.kept k (by simp; omega) (by simp; omega) (fun q hq => by have := (h.nv q hq).2; simp; omega), h', h.ne, h.nv⟩
/-- Its rate has turned. -/
theorem CrAt.rate {t t' : TfS} {l l' : List Pr} {p : PcS} {g K C P B : Nat} {v v' : Value} {w w' : World} (h : CrAt t l p g K C P B v w) (k : Kept (C :: P :: own v) w w') (h' : TfAt t' l' C P v' w') (hv : v'.ownBlock = v.ownBlock ∨ ∃ q, v'.ownBlock = some q ∧ w.heap.size ≤ q) : CrAt t' l' p g K C P B v' w' := by
  obtain ⟨n0, n1, n2, n3, n4⟩ := h.ne
  have o : ∀ x, x ∈ own v → x ≠ K ∧ x ≠ B := fun x hx => by
    unfold own at hx
    cases hq : v.ownBlock with
    | none => rw [hq] at hx; simp at hx
    | some q => rw [hq] at hx; simp at hx; rw [hx]; exact h.nv q hq
  refine ⟨h.blk.kept k ?_, h', BlkIs.kept h.pc k ?_, h.ne, fun q hq => ?_⟩
  · intro hm
    rcases List.mem_cons.1 hm with e | hm
    · exact n0 e
    · rcases List.mem_cons.1 hm with e | hm
      · exact n1 e
      · exact (o K hm).1 rfl
  · intro hm
    rcases List.mem_cons.1 hm with e | hm
    · exact n3 e
    · rcases List.mem_cons.1 hm with e | hm
      · exact n4 e
      · exact (o B hm).2 rfl
  · rcases hv with e | ⟨q', e, hlt⟩
    · exact h.nv q (by rw [← e]; exact hq)
    · rw [e] at hq
      injection hq with hq
      have h1 := h.blk.lt
      have h2 := BlkIs.lt h.pc
      omega
/-- The bucket behind 'follow'. -/
def crP (t : TfS) (p : PcS) (g : Nat) (now : Int) : PcS := if t.rate = g then p else (p.fill now).rated t.rate
theorem crP_ok {t : TfS} {p : PcS} (g : Nat) (now : Int) (ht : t.ok) (hp : p.Ok) : (crP t p g now).Ok := by
  unfold crP
  split
  · exact hp
  · exact (hp.fill now).rated _ ht.b1
theorem crFollow_any {t : TfS} {l : List Pr} {p : PcS} {g K C P B : Nat} {v : Value} {w : World} (h : CrAt t l p g K C P B v w) (ht : t.ok) (hp : p.Ok) (now : Int) :
    Calls Tryz.prog 364 #[.pointer (some ⟨K, 0, none⟩), .int .i64 now] w fun e w' => e = .returned (.tuple #[]) ∧ CrAt t l (crP t p g now) t.rate K C P B v w' ∧ Kept [K, B] w w' := by
  have c0 : w.cell? ⟨K, 0, none⟩ = some (.pointer (some ⟨C, 0, none⟩)) := BlkIs.cell h.blk 0
  have c1 : w.cell? ⟨K, 1, none⟩ = some (.pointer (some ⟨B, 0, none⟩)) := BlkIs.cell h.blk 1
  have c2 : w.cell? ⟨K, 2, none⟩ = some (.int .u64 g) := BlkIs.cell h.blk 2
  have HT := Lib.hid (tfRate_any t ht l C P v w h.tf)
  have HP := Lib.hid (paceRate_any p hp now t.rate ht.b1 B w h.pc)
  have HB := ht.b1
  have H := Lib.hid h
  clear h
  unfold crP
  generalize hr : t.rate = r at *
  have HR := Lib.hid hr
  clear hr
  by_cases hg : r = g
  · subst hg
    rw [if_pos rfl]
    go_enter Tryz.func364, Tryz.ntmps364
    go_wp2_with (go_at_call 34; (with_reducible refine HT.out.mono ?_); rintro e w1 ⟨rfl, rfl⟩)
    go_end0
    exact ⟨rfl, H.out, Kept.refl _ _⟩
  · rw [if_neg hg]
    go_enter Tryz.func364, Tryz.ntmps364
    go_upto_region 3 with (first
      | (go_at_call 34; (with_reducible refine HT.out.mono ?_); rintro e w1 ⟨rfl, rfl⟩)
      | (go_at_call 40; (with_reducible refine HP.out.mono ?_); rintro e w2 ⟨rfl, h2, k2⟩))
    have h3 := H.out.bucket k2 h2
    have f2 := BlkIs.free h3.blk 2
    have e2 : w2.cell? ⟨K, 2, none⟩ = some (.int .u64 g) := BlkIs.cell h3.blk 2
    have H3 := Lib.hid h3
    have K2 := Lib.hid k2
    clear h3 h2 k2
    go_wp2
    go_end0
    have k3 : Kept [K] w2 (w2.setCell ⟨K, 2, none⟩ (.int .u64 r)) := (Kept.refl _ _).setCell (.inl (by simp)) _
    obtain ⟨n0, n1, n2, n3, n4⟩ := H.out.ne
    refine ⟨rfl, ⟨?_, H3.out.tf.kept k3 (by simp; omega) (by simp; omega) (fun q hq => by have := (H.out.nv q hq).1; simp; omega), BlkIs.kept H3.out.pc k3 (by simp; omega), H.out.ne, H.out.nv⟩, (K2.out.more (by simp)).trans' (k3.more (by simp))⟩
    exact BlkIs.set H3.out.blk 2 (.int .u64 r)
end Go.Proofs.YtnhlachoimlhhaaGreatDoor

namespace Go.Proofs.YtnhlachoimlhhaaGreatDoor
open Go.ChangeShapes Go.WideShapes Go.ChangeAt Go.RowKit
set_option linter.unusedVariables false
set_option linter.unusedSimpArgs false

def tfFirst (S : Nat) : TfS := ⟨S, 64 * S, 0, 0, 0, false, 0, false⟩
def pcFirst : PcS := ⟨64000000 * 1400, 10000, 0, 0, 0⟩
theorem tfFirst_ok (S : Nat) (h1 : 1 ≤ S) (h2 : S ≤ 1400) : (tfFirst S).ok := ⟨⟨h1, h2⟩, by show 64 * S < _; omega, (by decide : (0 : Int) ≤ 0 ∧ (0 : Int) ≤ 4294967296), (by decide : 0 ≤ 4294967296), (by decide : (0 : Int) ≤ 0 ∧ (0 : Int) ≤ 4611686018427387904)⟩
theorem pcFirst_ok : pcFirst.Ok := PcS.Ok.new 1400 10000 (by decide) (by decide)
theorem SetAt.lt0 {l : List Pr} {P : Nat} {v : Value} {w : World} (h : SetAt l P v w) (g : Nat) (hg : v.ownBlock = some g) : g < w.heap.size := by
  rcases h.row.2 with ⟨rfl, _⟩ | ⟨g', cap, cur, rfl, _, hh, _⟩
  · cases hg
  · have : g' = g := by simpa [Value.ownBlock] using hg
    subst this
    exact (Array.getElem?_eq_some_iff.1 hh).1
theorem ctOf_rate (S : Nat) (h1 : 1 ≤ S) (h2 : S ≤ 1400) (w : World) :
    Calls Tryz.prog 30 #[.int .i64 3, .int .i64 S] w fun e w' => ∃ K C P B v, e = .returned (crV K) ∧ CrAt (tfFirst S) [(0, 18446744073709551615)] pcFirst 0 K C P B v w' ∧ w.heap.size ≤ K ∧ w.heap.size ≤ C ∧ w.heap.size ≤ P ∧ w.heap.size ≤ B ∧ (∀ q, v.ownBlock = some q → w.heap.size ≤ q) ∧ Below w.heap.size w w' := by
  have d1 : decide ((S : Int) < 1) = false := decide_eq_false (by omega)
  have d2 : decide ((1400 : Int) < (S : Int)) = false := decide_eq_false (by omega)
  have HPN : Hid (∀ W, Calls Tryz.prog 57 #[.int .i64 1400, .int .i64 10000] W fun e w' => ∃ C, e = .returned (.pointer (some ⟨C, 0, none⟩)) ∧ PcAt pcFirst C w' ∧ W.heap.size ≤ C ∧ Below W.heap.size W w') := Lib.hid (fun W => paceNew_any 1400 10000 (by decide) (by decide) (by decide) W)
  go_enter Tryz.func30, Tryz.ntmps30
  go_wp2_with (first
    | (go_at_call 76; (with_reducible refine (tfNew_any S h1 h2 _).mono ?_); rintro e w1 ⟨C, P, v, rfl, ht, hC, hP, hv, hb1⟩)
    | (go_at_call 57; (with_reducible refine (HPN.out _).mono ?_); rintro e w2 ⟨B, rfl, hp, hB, hb2⟩))
  go_ret
  have l1 := ht.tf.lt
  have l2 := BlkIs.lt ht.set.set
  have l3 := hp.lt
  have l4 : ∀ q, v.ownBlock = some q → q < w1.heap.size := fun q hq => SetAt.lt0 ht.set q hq
  have s1 := hb1.size
  have s2 := hb2.size
  refine ⟨_, C, P, B, v, rfl, ⟨BlkIs.new _ _ _, (ht.below hb2).below (bel_alloc _ _), BlkIs.below hp (bel_alloc _ _), ⟨by omega, by omega, by omega, by omega, by omega⟩, fun q hq => by have := l4 q hq; omega⟩, by omega, hC, hP, by omega, hv, ?_⟩
  exact bel_trans (bel_trans hb1 hb2) (bel_alloc _ _)
theorem ctWindow_rate (K : Nat) (w : World) :
    Calls Tryz.prog 31 #[crV K] w fun e w' => e = .returned (.tuple #[.pointer none, .bool false]) ∧ w = w' := by
  have AS := asR_W
  unfold crV
  go_enter Tryz.func31, Tryz.ntmps31
  go_wp2
  go_ret2
  exact ⟨rfl, rfl⟩
theorem ctBucket_rate {t : TfS} {l : List Pr} {p : PcS} {g K C P B : Nat} {v : Value} {w : World} (h : CrAt t l p g K C P B v w) :
    Calls Tryz.prog 32 #[crV K] w fun e w' => e = .returned (.tuple #[.pointer (some ⟨B, 0, none⟩), .bool true]) ∧ w = w' := by
  have c1 : w.cell? ⟨K, 1, none⟩ = some (.pointer (some ⟨B, 0, none⟩)) := BlkIs.cell h.blk 1
  clear h
  have AS := asR_R
  unfold crV
  go_enter Tryz.func32, Tryz.ntmps32
  go_wp2
  go_ret2
  exact ⟨rfl, rfl⟩
theorem ctRate_rate {t : TfS} {l : List Pr} {p : PcS} {g K C P B : Nat} {v : Value} {w : World} (h : CrAt t l p g K C P B v w) :
    Calls Tryz.prog 33 #[crV K] w fun e w' => e = .returned (.pointer (some ⟨C, 0, none⟩)) ∧ w = w' := by
  have c0 : w.cell? ⟨K, 0, none⟩ = some (.pointer (some ⟨C, 0, none⟩)) := BlkIs.cell h.blk 0
  clear h
  have AS := asR_Rp
  unfold crV
  go_enter Tryz.func33, Tryz.ntmps33
  go_wp2
  go_ret
  exact ⟨rfl, rfl⟩
theorem crDue_any {t : TfS} {l : List Pr} {p : PcS} {g K C P B : Nat} {v : Value} {w : World} (h : CrAt t l p g K C P B v w) (ht : t.ok) :
    Calls Tryz.prog 358 #[.pointer (some ⟨K, 0, none⟩)] w fun e w' => e = .returned (.tuple #[.int .i64 t.due, .bool t.runs]) ∧ ∃ n, w' = w.drewN n := by
  have c0 : w.cell? ⟨K, 0, none⟩ = some (.pointer (some ⟨C, 0, none⟩)) := BlkIs.cell h.blk 0
  have H := Lib.hid h
  clear h
  go_enter Tryz.func358, Tryz.ntmps358
  go_wp2_with (go_at_call 349; (with_reducible refine (tfDue_any t ht l C P v _ H.out.tf).mono ?_); rintro e w1 ⟨rfl, hw1⟩)
  go_ret2
  exact ⟨rfl, hw1⟩
/-- The bucket as it stands at now, given the rate. -/
def crM (t : TfS) (p : PcS) (g : Nat) (now : Int) : PcS := (crP t p g now).fill now
theorem crM_ok {t : TfS} {p : PcS} (g : Nat) (now : Int) (ht : t.ok) (hp : p.Ok) : (crM t p g now).Ok := (crP_ok g now ht hp).fill now
theorem crMay_any {t : TfS} {l : List Pr} {p : PcS} {g K C P B : Nat} {v : Value} {w : World} (h : CrAt t l p g K C P B v w) (ht : t.ok) (hp : p.Ok) (now n : Int) :
    Calls Tryz.prog 362 #[.pointer (some ⟨K, 0, none⟩), .int .i64 now, .int .i64 n] w fun e w' => e = .returned (.bool ((crM t p g now).has n)) ∧ CrAt t l (crM t p g now) t.rate K C P B v w' ∧ Kept [K, B] w w' := by
  have HF := Lib.hid (crFollow_any h ht hp now)
  have hq := crP_ok g now ht hp
  have HM := Lib.hid (fun W (hW : PcAt (crP t p g now) B W) => paceMay_any (crP t p g now) hq now n B W hW)
  unfold crM
  clear h
  generalize crP t p g now = q at *
  go_enter Tryz.func362, Tryz.ntmps362
  go_upto_region 2 with (go_at_call 364; (with_reducible refine HF.out.mono ?_); rintro e w1 ⟨rfl, h1, k1⟩; have c1 : w1.cell? ⟨K, 1, none⟩ = some (.pointer (some ⟨B, 0, none⟩)) := BlkIs.cell h1.blk 1)
  have H1 := Lib.hid h1
  have K1 := Lib.hid k1
  clear h1 k1
  go_wp2_with (go_at_call 41; (with_reducible refine (HM.out _ H1.out.pc).mono ?_); rintro e w2 ⟨rfl, h2, k2⟩)
  go_ret
  exact ⟨rfl, H1.out.bucket k2 h2, K1.out.trans' (k2.more (by simp))⟩
/-- The rate behind Start. -/
def TfS.start (t : TfS) (now : Int) : TfS := if t.started = true then t else ({ t with started := true } : TfS).run (M.tfDue 2000000 now)
theorem tfStart_any (s : TfS) (hs : s.ok) (now : Int) (hn : -9223372036854775808 ≤ now ∧ now ≤ 9223372036854775807) (l : List Pr) (C P : Nat) (v : Value) (w : World) (h : TfAt s l C P v w) :
    Calls Tryz.prog 140 #[.pointer (some ⟨C, 0, none⟩), .int .i64 now] w fun e w' => e = .returned (.tuple #[]) ∧ TfAt (s.start now) l C P v w' ∧ Kept [C] w w' := by
  cases h0 : s.started with
  | false =>
    have h1 := tfStart_first s hs h0 now hn l C P v w h
    unfold TfS.start
    rw [if_neg (by simp [h0])]
    exact h1
  | true =>
    have c6 : w.cell? ⟨C, 6, none⟩ = some (.bool s.started) := BlkIs.cell h.tf 6
    rw [h0] at c6
    have HM := Lib.hid (tfMade_any s hs l C P v w h)
    have HH := Lib.hid h
    unfold TfS.start
    rw [if_pos h0]
    clear h
    go_enter Tryz.func140, Tryz.ntmps140
    go_wp2_with (go_at_call 77; (with_reducible refine HM.out.mono ?_); rintro e w1 ⟨rfl, rfl⟩)
    refine bodyPost_ret (results_none rfl _ _ _) rfl ?_
    exact ⟨rfl, HH.out, Kept.refl _ _⟩
theorem crSent_any {t : TfS} {l : List Pr} {p : PcS} {g K C P B : Nat} {v : Value} {w : World} (h : CrAt t l p g K C P B v w) (ht : t.ok) (hp : p.Ok) (now n : Int) (hn : -9223372036854775808 ≤ now ∧ now ≤ 9223372036854775807) (s : Nat) :
    Calls Tryz.prog 363 #[.pointer (some ⟨K, 0, none⟩), .int .i64 now, .int .u64 s, .int .i64 n] w fun e w' => e = .returned (.bool ((crM t p g now).has n)) ∧ CrAt (t.start now) l ((crM t p g now).took n) t.rate K C P B v w' ∧ Kept [K, B, C] w w' := by
  have HF := Lib.hid (crFollow_any h ht hp now)
  have hq := crP_ok g now ht hp
  have HS := Lib.hid (fun W (hW : TfAt t l C P v W) => tfStart_any t ht now hn l C P v W hW)
  have HM := Lib.hid (fun W (hW : PcAt (crP t p g now) B W) => paceTake_any (crP t p g now) hq now n B W hW)
  unfold crM
  clear h
  generalize crP t p g now = q at *
  go_enter Tryz.func363, Tryz.ntmps363
  go_upto_region 2 with (go_at_call 364; (with_reducible refine HF.out.mono ?_); rintro e w1 ⟨rfl, h1, k1⟩; have c0 : w1.cell? ⟨K, 0, none⟩ = some (.pointer (some ⟨C, 0, none⟩)) := BlkIs.cell h1.blk 0)
  have H1 := Lib.hid h1
  have K1 := Lib.hid k1
  clear h1 k1
  go_upto_region 3 with (go_at_call 140; (with_reducible refine (HS.out _ H1.out.tf).mono ?_); rintro e w2 ⟨rfl, h2, k2⟩; have H2 : Hid (CrAt (t.start now) l q t.rate K C P B v w2) := Lib.hid (H1.out.rate (k2.more (by simp)) h2 (.inl rfl)); have c1 : w2.cell? ⟨K, 1, none⟩ = some (.pointer (some ⟨B, 0, none⟩)) := BlkIs.cell H2.out.blk 1)
  have K2 := Lib.hid k2
  clear h2 k2
  go_wp2_with (go_at_call 42; (with_reducible refine (HM.out _ H2.out.pc).mono ?_); rintro e w3 ⟨rfl, h3, k3⟩)
  go_ret
  exact ⟨rfl, H2.out.bucket k3 h3, ((K1.out.more (by simp)).trans' (K2.out.more (by simp))).trans' (k3.more (by simp))⟩
end Go.Proofs.YtnhlachoimlhhaaGreatDoor

namespace Go.Proofs.YtnhlachoimlhhaaGreatDoor
open Go.ChangeShapes Go.WideShapes Go.ChangeAt Go.RowKit
set_option linter.unusedVariables false
set_option linter.unusedSimpArgs false

/-- Two 'follow's, with the rate turned in between. -/
def crQ (t t' : TfS) (p : PcS) (g : Nat) (now : Int) : PcS := crP t' (crP t p g now) t.rate now
/-- With a time: the rate hears, and its bucket follows. -/
theorem crHear_some {t t' : TfS} {l l' : List Pr} {p : PcS} {g K C P B : Nat} {v : Value} {w : World} (h : CrAt t l p g K C P B v w) (ht : t.ok) (hp : p.Ok) (now : Int) (u0 u1 u2 u3 : Value) (r : Int) (hr : 0 ≤ r) (x y : Nat) (ht' : t'.ok)
    (HH : ∀ W, TfAt t l C P v W → Calls Tryz.prog 141 #[.pointer (some ⟨C, 0, none⟩), .int .i64 now, .int .i64 r, .int .u64 x, .int .u64 y, .bool false] W fun e w' => e = .returned (.tuple #[]) ∧
      ∃ v', TfAt t' l' C P v' w' ∧ Kept (C :: P :: own v) W w' ∧ (v'.ownBlock = v.ownBlock ∨ ∃ q, v'.ownBlock = some q ∧ W.heap.size ≤ q)) :
    Calls Tryz.prog 360 #[.pointer (some ⟨K, 0, none⟩), .int .i64 now, .agg #[u0, u1, u2, u3, .int .i64 r], .int .u64 x, .int .u64 y] w fun e w' => e = .returned (.tuple #[]) ∧
      ∃ v', CrAt t' l' (crQ t t' p g now) t'.rate K C P B v' w' ∧ Kept (K :: B :: C :: P :: own v) w w' ∧ (v'.ownBlock = v.ownBlock ∨ ∃ q, v'.ownBlock = some q ∧ w.heap.size ≤ q) := by
  have kb : Kept [] w (w.alloc (.cells #[u0, u1, u2, u3, .int .i64 r] 86)) := (Kept.refl [] w).alloc _
  have HF := Lib.hid (crFollow_any (h.kept kb (by simp) (by simp) (by simp) (by simp) (by simp)) ht hp now)
  have hb := BlkIs.new #[u0, u1, u2, u3, .int .i64 r] 86 w
  have hne : w.heap.size ∉ [K, B] := by have := h.blk.lt; have := BlkIs.lt h.pc; simp; omega
  have HKB := Lib.hid kb
  have d1 : decide (r < 0) = false := decide_eq_false (by omega)
  have hqo := crP_ok g now ht hp
  have HG := Lib.hid (fun (W : World) (v' : Value) (hW : CrAt t' l' (crP t p g now) t.rate K C P B v' W) => crFollow_any hW ht' hqo now)
  unfold crQ
  clear h kb
  have HHH := Lib.hid HH
  clear HH
  generalize crP t p g now = q at *
  go_enter Tryz.func360, Tryz.ntmps360
  go_upto_region 2 with (go_at_call 364; (with_reducible refine HF.out.mono ?_); rintro e w1 ⟨rfl, h1, k1⟩; have hb2 := BlkIs.kept hb k1 hne; have x4 : w1.cell? ⟨w.heap.size, 4, none⟩ = some (.int .i64 r) := BlkIs.cell hb2 4)
  have c0 : w1.cell? ⟨K, 0, none⟩ = some (.pointer (some ⟨C, 0, none⟩)) := BlkIs.cell h1.blk 0
  have H1 := Lib.hid h1
  have K1 := Lib.hid k1
  have HU := Lib.hid (HHH.out w1.drew (H1.out.tf.kept (Kept.refl [] _).drew (by simp) (by simp) (by simp)))
  have H1d : Hid (CrAt t l q t.rate K C P B v w1.drew) := Lib.hid (H1.out.kept (Kept.refl [] _).drew (by simp) (by simp) (by simp) (by simp) (by simp))
  clear h1 k1 hb hb2
  go_upto_region 3 with fail
  generalize w.heap.size = Z at *
  go_region_with ((go_at_call 141; (with_reducible refine HU.out.mono ?_); rintro e w2 ⟨rfl, v2, h2, k2, o2⟩))
  all_goals
    have H2 := Lib.hid (H1d.out.rate k2 h2 o2)
    have O2 := Lib.hid o2
    have K2 := Lib.hid k2
    clear h2 k2 o2
    go_wp2_with (go_at_call 364; (with_reducible refine (HG.out _ _ H2.out).mono ?_); rintro e w3 ⟨rfl, h3, k3⟩)
    go_end0
    have s1 := HKB.out.size
    have s2 := K1.out.size
    refine ⟨rfl, v2, h3, ?_, ?_⟩
    · exact ((((HKB.out.more (by simp)).trans' (K1.out.more (by simp))).drew).trans' (K2.out.more (fun x hx => List.mem_cons_of_mem _ (List.mem_cons_of_mem _ hx)))).trans' (k3.more (by simp))
    · rcases O2.out with e | ⟨q', e, hlt⟩
      · exact .inl e
      · have hlt : w1.heap.size ≤ q' := hlt
        exact .inr ⟨q', e, by omega⟩
end Go.Proofs.YtnhlachoimlhhaaGreatDoor

namespace Go.Proofs.YtnhlachoimlhhaaGreatDoor
open Go.ChangeShapes Go.WideShapes Go.ChangeAt Go.RowKit
set_option linter.unusedVariables false
set_option linter.unusedSimpArgs false

theorem eqW_N (v : Value) (w : World) : (binOp .eql 44 (.iface 117 v) .nilIface).run Tryz.prog w = .ok (.bool false) w := by kernel_rfl
theorem eqR_N (v : Value) (w : World) : (binOp .eql 44 (.iface 121 v) .nilIface).run Tryz.prog w = .ok (.bool false) w := by kernel_rfl
end Go.Proofs.YtnhlachoimlhhaaGreatDoor

namespace Go.Proofs.YtnhlachoimlhhaaGreatDoor
open Go.ChangeShapes Go.WideShapes Go.ChangeAt Go.RowKit
set_option linter.unusedVariables false
set_option linter.unusedSimpArgs false

/-- A leader by a rate, made since w. -/
def CrX (t : TfS) (l : List Pr) (K C P B : Nat) (w W : World) : Prop :=
  ∃ p g v, CrAt t l p g K C P B v W ∧ p.Ok ∧ (w.heap.size ≤ K ∧ w.heap.size ≤ C ∧ w.heap.size ≤ P ∧ w.heap.size ≤ B ∧ ∀ q, v.ownBlock = some q → w.heap.size ≤ q) ∧ Below w.heap.size w W
theorem CrX.bel {t : TfS} {l : List Pr} {K C P B : Nat} {w W : World} (h : CrX t l K C P B w W) : Below w.heap.size w W := by
  obtain ⟨p, g, v, _, _, _, hb⟩ := h
  exact hb
theorem CrX.below {t : TfS} {l : List Pr} {K C P B : Nat} {w W W' : World} (h : CrX t l K C P B w W) (k : Below W.heap.size W W') : CrX t l K C P B w W' := by
  obtain ⟨p, g, v, h1, h2, h3, hb⟩ := h
  exact ⟨p, g, v, h1.below k, h2, h3, bel_trans hb k⟩
theorem CrX.new (S : Nat) (h1 : 1 ≤ S) (h2 : S ≤ 1400) (w W : World) (hb : Below w.heap.size w W) :
    Calls Tryz.prog 30 #[.int .i64 3, .int .i64 S] W fun e w' => ∃ K C P B, e = .returned (crV K) ∧ CrX (tfFirst S) [(0, 18446744073709551615)] K C P B w w' := by
  refine (ctOf_rate S h1 h2 W).mono ?_
  rintro e w' ⟨K, C, P, B, v, rfl, hc, hK, hC, hP, hB, hv, hb1⟩
  have s0 := hb.size
  exact ⟨K, C, P, B, rfl, pcFirst, 0, v, hc, pcFirst_ok, ⟨by omega, by omega, by omega, by omega, fun q hq => by have := hv q hq; omega⟩, bel_trans hb hb1⟩
theorem CrX.grow {w W W' : World} {S : List Nat} (hb : Below w.heap.size w W) (k : Kept S W W') (hS : ∀ x ∈ S, w.heap.size ≤ x) : Below w.heap.size w W' := hb.trans (k.below hb.size hS)
theorem CrX.may {t : TfS} {l : List Pr} {K C P B : Nat} {w W : World} (h : CrX t l K C P B w W) (ht : t.ok) (now n : Int) :
    Calls Tryz.prog 362 #[.pointer (some ⟨K, 0, none⟩), .int .i64 now, .int .i64 n] W fun e w' => (∃ b, e = .returned (.bool b)) ∧ CrX t l K C P B w w' := by
  obtain ⟨p, g, v, h1, h2, h3, hb⟩ := h
  refine (crMay_any h1 ht h2 now n).mono ?_
  rintro e w' ⟨rfl, a, k⟩
  exact ⟨⟨_, rfl⟩, _, _, v, a, crM_ok g now ht h2, h3, CrX.grow hb k (by intro x hx; simp at hx; omega)⟩
theorem CrX.sent {t : TfS} {l : List Pr} {K C P B : Nat} {w W : World} (h : CrX t l K C P B w W) (ht : t.ok) (now n : Int) (hn : -9223372036854775808 ≤ now ∧ now ≤ 9223372036854775807) (s : Nat) :
    Calls Tryz.prog 363 #[.pointer (some ⟨K, 0, none⟩), .int .i64 now, .int .u64 s, .int .i64 n] W fun e w' => (∃ b, e = .returned (.bool b)) ∧ CrX (t.start now) l K C P B w w' := by
  obtain ⟨p, g, v, h1, h2, h3, hb⟩ := h
  refine (crSent_any h1 ht h2 now n hn s).mono ?_
  rintro e w' ⟨rfl, a, k⟩
  exact ⟨⟨_, rfl⟩, _, _, v, a, (crM_ok g now ht h2).took n, h3, CrX.grow hb k (by intro x hx; simp at hx; omega)⟩
theorem CrX.due {t : TfS} {l : List Pr} {K C P B : Nat} {w W : World} (h : CrX t l K C P B w W) (ht : t.ok) :
    Calls Tryz.prog 358 #[.pointer (some ⟨K, 0, none⟩)] W fun e w' => e = .returned (.tuple #[.int .i64 t.due, .bool t.runs]) ∧ CrX t l K C P B w w' := by
  obtain ⟨p, g, v, h1, h2, h3, hb⟩ := h
  refine (crDue_any h1 ht).mono ?_
  rintro e w' ⟨rfl, n, rfl⟩
  exact ⟨rfl, p, g, v, h1.drewN n, h2, h3, bel_trans hb (bel_drewN _ _)⟩
theorem CrX.ownS {w : World} {K C P B : Nat} {v : Value} (h3 : w.heap.size ≤ K ∧ w.heap.size ≤ C ∧ w.heap.size ≤ P ∧ w.heap.size ≤ B ∧ ∀ q, v.ownBlock = some q → w.heap.size ≤ q) : ∀ x ∈ K :: B :: C :: P :: own v, w.heap.size ≤ x := by
  intro y hy
  rcases List.mem_cons.1 hy with e | hy
  · omega
  rcases List.mem_cons.1 hy with e | hy
  · omega
  rcases List.mem_cons.1 hy with e | hy
  · omega
  rcases List.mem_cons.1 hy with e | hy
  · omega
  unfold own at hy
  cases hq : v.ownBlock with
  | none => rw [hq] at hy; simp at hy
  | some q => rw [hq] at hy; simp at hy; rw [hy]; exact h3.2.2.2.2 q hq
theorem CrX.ownUp {w W : World} {v v' : Value} (hb : Below w.heap.size w W) (hv : ∀ q, v.ownBlock = some q → w.heap.size ≤ q) (o : v'.ownBlock = v.ownBlock ∨ ∃ q, v'.ownBlock = some q ∧ W.heap.size ≤ q) : ∀ q, v'.ownBlock = some q → w.heap.size ≤ q := by
  intro q hq
  have hs := hb.size
  rcases o with e | ⟨q', e, hlt⟩
  · exact hv q (by rw [← e]; exact hq)
  · rw [e] at hq
    injection hq with hq
    omega
theorem CrX.hear {t t' : TfS} {l l' : List Pr} {K C P B : Nat} {w W : World} (h : CrX t l K C P B w W) (ht : t.ok) (now : Int) (u0 u1 u2 u3 : Value) (r : Int) (hr : 0 ≤ r) (x y : Nat) (ht' : t'.ok)
    (HH : ∀ v W, TfAt t l C P v W → Calls Tryz.prog 141 #[.pointer (some ⟨C, 0, none⟩), .int .i64 now, .int .i64 r, .int .u64 x, .int .u64 y, .bool false] W fun e w' => e = .returned (.tuple #[]) ∧
      ∃ v', TfAt t' l' C P v' w' ∧ Kept (C :: P :: own v) W w' ∧ (v'.ownBlock = v.ownBlock ∨ ∃ q, v'.ownBlock = some q ∧ W.heap.size ≤ q)) :
    Calls Tryz.prog 360 #[.pointer (some ⟨K, 0, none⟩), .int .i64 now, .agg #[u0, u1, u2, u3, .int .i64 r], .int .u64 x, .int .u64 y] W fun e w' => e = .returned (.tuple #[]) ∧ CrX t' l' K C P B w w' := by
  obtain ⟨p, g, v, h1, h2, h3, hb⟩ := h
  refine (crHear_some h1 ht h2 now u0 u1 u2 u3 r hr x y ht' (HH v)).mono ?_
  rintro e w' ⟨rfl, v', a, k, o⟩
  exact ⟨rfl, _, _, v', a, crP_ok _ _ ht' (crP_ok g now ht h2), ⟨h3.1, h3.2.1, h3.2.2.1, h3.2.2.2.1, CrX.ownUp hb h3.2.2.2.2 o⟩, CrX.grow hb k (CrX.ownS h3)⟩
theorem CrX.rate {t : TfS} {l : List Pr} {K C P B : Nat} {w W : World} (h : CrX t l K C P B w W) (ht : t.ok) : Calls Tryz.prog 34 #[.pointer (some ⟨C, 0, none⟩)] W fun e w' => e = .returned (.int .u64 t.rate) ∧ W = w' := by
  obtain ⟨p, g, v, h1, _⟩ := h
  exact tfRate_any t ht l C P v W h1.tf
end Go.Proofs.YtnhlachoimlhhaaGreatDoor
