/-
  The law PaceBound: marks of the law's own; what holds between them.
  The law PaceBound, walked (its opening handed in).
-/
import Derived.Test.YtfmnpepgmedfpaaGreatDoorLfPa
import Derived.Laws.AppendOwn
namespace Go.Proofs.YtfmnpepgmedfpaaGreatDoor
open Go.ChangeShapes Go.WideShapes Go.ChangeAt Go.RowKit Go.Deep
set_option linter.unusedVariables false
set_option linter.unusedSimpArgs false

def markList (l : List (Nat × Nat)) : List Value := l.flatMap fun e => [.int .u64 e.1, .int .u64 e.2]
theorem markList_snoc (l : List (Nat × Nat)) (e : Nat × Nat) : markList (l ++ [e]) = markList l ++ [.int .u64 e.1, .int .u64 e.2] := by simp [markList]
theorem markList_get (l : List (Nat × Nat)) (i : Nat) (h : i < l.length) : (markList l)[i * 2]? = some (.int .u64 (l.getD i (0, 0)).1) ∧ (markList l)[i * 2 + 1]? = some (.int .u64 (l.getD i (0, 0)).2) := by
  induction l generalizing i with
  | nil => simp at h
  | cons c l ih =>
    cases i with
    | zero => exact ⟨rfl, rfl⟩
    | succ i =>
      have := ih i (by simpa using h)
      have e : markList (c :: l) = [.int .u64 c.1, .int .u64 c.2] ++ markList l := rfl
      rw [e, List.getElem?_append_right (by simp; omega), List.getElem?_append_right (by simp; omega)]
      have e1 : (i + 1) * 2 - [Value.int .u64 c.1, .int .u64 c.2].length = i * 2 := by simp; omega
      have e2 : (i + 1) * 2 + 1 - [Value.int .u64 c.1, .int .u64 c.2].length = i * 2 + 1 := by simp; omega
      rw [e1, e2]
      simpa using this
theorem infoMark : (Tryz.prog.info? 40).map (fun i => (i.zero, i.size, i.bytes)) = some (some (.agg #[.int .u64 0, .int .u64 0]), 2, 16) := by kernel_rfl
/-- A row of marks of the law's own from block B on. -/
def MarkOwn (B : Nat) (v : Value) (l : List (Nat × Nat)) (w : World) : Prop := w.ownsRow B 40 2 v l.length (markList l)
theorem MarkOwn.nil (B : Nat) (w : World) : MarkOwn B (.slice none 0 0) [] w := World.ownsRow_nil _ _ _ _
theorem MarkOwn.kept {B : Nat} {v : Value} {l : List (Nat × Nat)} {S : List Nat} {w w' : World} (h : MarkOwn B v l w) (k : Kept S w w') (hn : ∀ x ∈ S, x < B) : MarkOwn B v l w' := by
  refine ⟨h.1, ?_⟩
  rcases h.2 with hv | ⟨g, cap, cur, rfl, hb, hg, rest⟩
  · exact .inl hv
  · exact .inr ⟨g, cap, cur, rfl, hb, (k.block g (Array.getElem?_eq_some_iff.1 hg).1 (fun hm => by have := hn g hm; omega)).trans hg, rest⟩
theorem MarkOwn.shape {B : Nat} {v : Value} {l : List (Nat × Nat)} {w : World} (h : MarkOwn B v l w) : ∃ p c, v = .slice p l.length c ∧ l.length ≤ c ∧ c ≤ 9223372036854775807 ∧ ∀ i, i < l.length → ∃ g, p = some ⟨g, 0, none⟩ ∧ w.cell? ⟨g, i * 2, none⟩ = some (.int .u64 (l.getD i (0, 0)).1) ∧ w.cell? ⟨g, i * 2 + 1, none⟩ = some (.int .u64 (l.getD i (0, 0)).2) := by
  rcases h.2 with ⟨rfl, h0⟩ | ⟨g, cap, cur, rfl, hb, hg, hcap, hcm, _, ht⟩
  · exact ⟨none, 0, by rw [h0], by omega, by decide, fun i hi => by omega⟩
  · refine ⟨_, cap, rfl, hcap, by unfold maxLen at hcm; omega, fun i hi => ⟨g, rfl, ?_, ?_⟩⟩
    · obtain ⟨z1, z2⟩ := markList_get l i hi
      rw [cell_of_row w g _ cur _ _ hg, ← Array.getElem?_toList]
      rw [← ht, List.getElem?_take_of_lt (by omega)] at z1
      exact z1
    · obtain ⟨z1, z2⟩ := markList_get l i hi
      rw [cell_of_row w g _ cur _ _ hg, ← Array.getElem?_toList]
      rw [← ht, List.getElem?_take_of_lt (by omega)] at z2
      exact z2
theorem wp_mark {ops : Array Oper} {rest : List Oper} {o : Oper} {a : Act} {Q : Exit → Act → World → Prop} (hgd : o.guard = none) (s x : Operand)
    (ho : o.op = .call { callee := .builtin .append, args := #[s, x], argTypes := #[38, 38] })
    (B : Nat) (v : Value) (l : List (Nat × Nat)) (hs : a.eval s = v) (w0 w1 : World) (e : Nat × Nat) (hw : w1 = w0.alloc (.cells #[.int .u64 e.1, .int .u64 e.2] 40)) (hb : MarkOwn B v l w0) (hB : B ≤ w0.heap.size) (H : Nat) (hH : w0.heap.size = H)
    (hx : a.eval x = .slice (some ⟨H, 0, none⟩) 1 1) (hlen : l.length ≤ 1073741824)
    (h : ∀ v' w', MarkOwn B v' (l ++ [e]) w' → Below B w0 w' → wpList Tryz.prog ops Q rest (a.put o.dst v') w') : wpList Tryz.prog ops Q (o :: rest) a w1 := by
  obtain ⟨i0, hi, hz0, hz1, hz2⟩ := info_parts infoMark
  subst hH hw
  have hb' := hb.alloc (.cells #[.int .u64 e.1, .int .u64 e.2] 40)
  have hBa : Below B w0 (w0.alloc (.cells #[.int .u64 e.1, .int .u64 e.2] 40)) := (bel_alloc w0 _).mono hB
  refine wpList_append_own _ hgd s x 38 ho B 40 i0 (.agg #[.int .u64 0, .int .u64 0]) 2 16 Tryz.underlying38 hi hz0 hz1 hz2 rfl (by decide) v l.length (markList l) hs hb' ⟨w0.heap.size, 0, none⟩ 1 1 [.int .u64 e.1, .int .u64 e.2] hx rfl (fun j u hu => ?_) (by intro u hu; simp at hu; rcases hu with rfl | rfl <;> rfl) (by unfold maxLen; omega) (by omega) (by simp; omega) ?_
  · have hadd : (⟨w0.heap.size, 0, none⟩ : Addr).add j = ⟨w0.heap.size, j, none⟩ := by unfold Addr.add; split <;> simp_all
    rw [hadd, cell_of_row _ _ _ _ _ _ (heap_alloc_new w0 (.cells #[.int .u64 e.1, .int .u64 e.2] 40))]
    simpa using hu
  · intro v' w' ho' hg _
    refine h v' w' ?_ (hBa.grown hg (by simp; omega) (fun k hk => (hb'.lt k hk).1))
    show w'.ownsRow B _ 2 v' (l ++ [e]).length (markList (l ++ [e]))
    rw [List.length_append, markList_snoc]
    exact ho'
/-- What holds behind k operations: G, T: what was given and taken; mo: the greatest bucket; ls: the marks. -/
structure PbS (t : PcS) (k now G T mo : Nat) (ls : List (Nat × Nat)) : Prop where
  ok : t.Ok
  last : t.last = (now : Int)
  now_ : now ≤ k * 2000000
  tick : t.tick = 1000
  rate : t.rate < 1000000000
  full : t.hv ≤ t.cap
  cap : t.cap ≤ mo
  mo_ : mo ≤ 1000000000000
  G_ : G ≤ k * 2000000000000000
  T_ : T ≤ k * 128000000000
  len : ls.length = k
  all : ∀ e ∈ ls, e.1 ≤ G ∧ e.2 ≤ T ∧ t.hv + T + e.1 ≤ mo + e.2 + G
/-- The time goes on. -/
theorem PbS.fill {t : PcS} {k now G T mo : Nat} {ls : List (Nat × Nat)} (h : PbS t k now G T mo ls) (hk : k ≤ 40) (d : Nat) (hd : d < 2000000) :
    (t.fill ((now + d : Nat) : Int)).last = ((now + d : Nat) : Int) ∧ (t.fill ((now + d : Nat) : Int)).hv ≤ t.hv + t.rate * d ∧ (t.fill ((now + d : Nat) : Int)).cap = t.cap ∧ (t.fill ((now + d : Nat) : Int)).Ok ∧ (t.fill ((now + d : Nat) : Int)).rate = t.rate ∧ (t.fill ((now + d : Nat) : Int)).tick = 1000 ∧ t.rate * d ≤ 2000000000000000 ∧ (t.fill ((now + d : Nat) : Int)).least = t.least := by
  have hn := h.now_
  have e1 : t.at_ ((now + d : Nat) : Int) = ((now + d : Nat) : Int) := by unfold PcS.at_; rw [h.last]; omega
  have h2 : (t.fill ((now + d : Nat) : Int)).hv ≤ _ := t.to_hv (t.at_ ((now + d : Nat) : Int))
  rw [e1, h.last, show (((now + d : Nat) : Int) - (now : Int)).toNat = d by omega] at h2
  refine ⟨e1, h2, rfl, h.ok.fill _, rfl, h.tick, ?_, rfl⟩
  have hr := h.rate
  exact Nat.le_trans (Nat.mul_le_mul (Nat.le_of_lt hr) (Nat.le_of_lt hd)) (by decide)
/-- A rate is told. -/
theorem PbS.rated {t : PcS} {k now G T mo : Nat} {ls : List (Nat × Nat)} (h : PbS t k now G T mo ls) (hk : k ≤ 40) (d : Nat) (hd : d < 2000000) (x : Nat) (hx : x < 1000000000) :
    PbS ((t.fill ((now + d : Nat) : Int)).rated x) (k + 1) (now + d) (G + t.rate * d) T (max mo ((t.fill ((now + d : Nat) : Int)).rated x).cap) (ls ++ [(G + t.rate * d, T)]) := by
  obtain ⟨f1, f2, f3, f4, f5, f6, f7, f8⟩ := h.fill hk d hd
  obtain ⟨u, hu⟩ : ∃ u, t.fill ((now + d : Nat) : Int) = u := ⟨_, rfl⟩
  rw [hu] at f1 f2 f3 f4 f5 f6 f8
  rw [hu]
  obtain ⟨R, hR⟩ : ∃ R, t.rate * d = R := ⟨_, rfl⟩
  rw [hR] at f2 f7
  rw [hR]
  have hcap : (u.rated x).cap ≤ 1000000000000 := by
    show max u.least (M.mulT x u.tick) ≤ _
    have h1 := f4.least
    have h2 := M.mulT_le x u.tick
    rw [f6] at h2 ⊢
    omega
  have hhv : (u.rated x).hv ≤ u.hv := Nat.min_le_left _ _
  have hfull := PcS.full_rated u x
  have hn := h.now_
  have hG := h.G_
  have hT := h.T_
  have hmo := h.mo_
  have g1 := f4.rated x (by omega)
  have g2 : (u.rated x).last = ((now + d : Nat) : Int) := f1
  have g3 : (u.rated x).tick = 1000 := f6
  have g4 : (u.rated x).rate < 1000000000 := hx
  have hall := h.all
  have hlen := h.len
  generalize u.rated x = r at *
  refine ⟨g1, g2, by omega, g3, g4, hfull, Nat.le_max_right _ _, Nat.max_le.2 ⟨hmo, hcap⟩, by rw [Nat.succ_mul]; exact Nat.add_le_add hG f7, Nat.le_trans hT (Nat.mul_le_mul_right _ (Nat.le_succ k)), by rw [List.length_append, hlen]; rfl, fun e he => ?_⟩
  rcases List.mem_append.1 he with he | he
  · have h9 := hall e he
    omega
  · rw [List.mem_singleton.1 he]
    show G + R ≤ G + R ∧ T ≤ T ∧ r.hv + T + (G + R) ≤ max mo r.cap + T + (G + R)
    omega
/-- Some are taken, or not. -/
theorem PbS.taken {t : PcS} {k now G T mo : Nat} {ls : List (Nat × Nat)} (h : PbS t k now G T mo ls) (hk : k ≤ 40) (d : Nat) (hd : d < 2000000) (n : Nat) (hn2 : n < 2000) (T2 : Nat) (hT2 : T2 = if (t.fill ((now + d : Nat) : Int)).has n = true then T + 64000000 * n else T) :
    PbS ((t.fill ((now + d : Nat) : Int)).took n) (k + 1) (now + d) (G + t.rate * d) T2 mo (ls ++ [(G + t.rate * d, T2)]) := by
  obtain ⟨f1, f2, f3, f4, f5, f6, f7, f8⟩ := h.fill hk d hd
  have hff := PcS.full_fill t ((now + d : Nat) : Int)
  obtain ⟨u, hu⟩ : ∃ u, t.fill ((now + d : Nat) : Int) = u := ⟨_, rfl⟩
  rw [hu] at f1 f2 f3 f4 f5 f6 f8 hff hT2
  rw [hu]
  obtain ⟨R, hR⟩ : ∃ R, t.rate * d = R := ⟨_, rfl⟩
  rw [hR] at f2 f7
  rw [hR]
  have hsum : (u.took n).hv + T2 = u.hv + T ∧ T ≤ T2 ∧ T2 ≤ T + 128000000000 := by
    cases hb : u.has n with
    | true =>
      rw [hb, if_pos rfl] at hT2
      have h9 := u.took_hv n hb
      rw [Int.toNat_natCast] at h9
      omega
    | false =>
      rw [hb, if_neg (by decide)] at hT2
      rw [u.took_no n hb]
      omega
  have hrest : (u.took n).last = u.last ∧ (u.took n).tick = u.tick ∧ (u.took n).rate = u.rate ∧ (u.took n).cap = u.cap := by
    unfold PcS.took
    split <;> exact ⟨rfl, rfl, rfl, rfl⟩
  obtain ⟨r1, r2, r3, r4⟩ := hrest
  have hfull := PcS.full_took u n hff
  have hn := h.now_
  have hG := h.G_
  have hT := h.T_
  have hmo := h.mo_
  have hcp := h.cap
  have hrt := h.rate
  refine ⟨f4.took n, by rw [r1]; exact f1, by omega, by rw [r2]; exact f6, by rw [r3, f5]; exact hrt, hfull, by rw [r4, f3]; exact hcp, hmo, by rw [Nat.succ_mul]; exact Nat.add_le_add hG f7, by rw [Nat.succ_mul]; omega, by rw [List.length_append, h.len]; rfl, fun e he => ?_⟩
  rcases List.mem_append.1 he with he | he
  · have h9 := h.all e he
    omega
  · rw [List.mem_singleton.1 he]
    rw [r4, f3] at hfull
    show G + R ≤ G + R ∧ T2 ≤ T2 ∧ (u.took n).hv + T2 + (G + R) ≤ mo + T2 + (G + R)
    omega
end Go.Proofs.YtfmnpepgmedfpaaGreatDoor

namespace Go.Proofs.YtfmnpepgmedfpaaGreatDoor
open Go.ChangeShapes Go.WideShapes Go.ChangeAt Go.RowKit Go.Deep
set_option linter.unusedVariables false
set_option linter.unusedSimpArgs false

/-- The law's world behind so many operations. -/
structure PbW (t : PcS) (G T : Nat) (ls : List (Nat × Nat)) (v : Value) (C M B0 B : Nat) (w W : World) : Prop where
  p : PcAt t C W
  box : BlkIs #[.int .u64 G, .int .u64 T] 40 M W
  own : MarkOwn B0 v ls W
  ge : B ≤ C ∧ C < M ∧ M < B0
  size : B0 ≤ W.heap.size
  bel : Below B w W
theorem PbW.given {t : PcS} {G T : Nat} {ls : List (Nat × Nat)} {v : Value} {C M B0 B : Nat} {w W : World} (h : PbW t G T ls v C M B0 B w W) (G2 : Nat) : PbW t G2 T ls v C M B0 B w (W.setCell ⟨M, 0, none⟩ (.int .u64 G2)) := by
  have hg := h.ge
  have k : Kept [M] W (W.setCell ⟨M, 0, none⟩ (.int .u64 G2)) := (Kept.refl _ _).setCell (.inl (by simp)) _
  exact ⟨BlkIs.kept h.p k (by simp; omega), h.box.set 0 _, h.own.kept k (by intro x hx; simp at hx; omega), h.ge, by simpa using h.size, h.bel.setCell (p := ⟨M, 0, none⟩) (by show B ≤ M; omega) _⟩
theorem PbW.taken {t : PcS} {G T : Nat} {ls : List (Nat × Nat)} {v : Value} {C M B0 B : Nat} {w W : World} (h : PbW t G T ls v C M B0 B w W) (T2 : Nat) : PbW t G T2 ls v C M B0 B w (W.setCell ⟨M, 1, none⟩ (.int .u64 T2)) := by
  have hg := h.ge
  have k : Kept [M] W (W.setCell ⟨M, 1, none⟩ (.int .u64 T2)) := (Kept.refl _ _).setCell (.inl (by simp)) _
  exact ⟨BlkIs.kept h.p k (by simp; omega), h.box.set 1 _, h.own.kept k (by intro x hx; simp at hx; omega), h.ge, by simpa using h.size, h.bel.setCell (p := ⟨M, 1, none⟩) (by show B ≤ M; omega) _⟩
theorem PbW.call {t t2 : PcS} {G T : Nat} {ls : List (Nat × Nat)} {v : Value} {C M B0 B : Nat} {w W V : World} (h : PbW t G T ls v C M B0 B w W) (hp : PcAt t2 C V) (k : Kept [C] W V) : PbW t2 G T ls v C M B0 B w V := by
  have hg := h.ge
  have hs := h.size
  exact ⟨hp, h.box.kept k (by simp; omega), h.own.kept k (by intro x hx; simp at hx; omega), h.ge, Nat.le_trans h.size k.size, h.bel.trans (k.below (by omega) (by intro q hq; simp at hq; omega))⟩
theorem PbW.quiet {t : PcS} {G T : Nat} {ls : List (Nat × Nat)} {v : Value} {C M B0 B : Nat} {w W V : World} (h : PbW t G T ls v C M B0 B w W) (k : Kept [] W V) : PbW t G T ls v C M B0 B w V :=
  ⟨BlkIs.kept h.p k (by simp), h.box.kept k (by simp), h.own.kept k (by intro x hx; cases hx), h.ge, Nat.le_trans h.size k.size, h.bel.trans (k.below (by have := h.ge; have := h.size; omega) (by intro q hq; cases hq))⟩
theorem PbW.push {t : PcS} {G T : Nat} {ls ls2 : List (Nat × Nat)} {v v2 : Value} {C M B0 B : Nat} {w W V : World} (h : PbW t G T ls v C M B0 B w W) (ho : MarkOwn B0 v2 ls2 V) (k : Below B0 W V) : PbW t G T ls2 v2 C M B0 B w V := by
  have hg := h.ge
  exact ⟨(k.block C (by omega)).trans h.p, (k.block M (by omega)).trans h.box, ho, h.ge, Nat.le_trans h.size k.size, h.bel.trans (k.mono (by omega))⟩

set_option maxHeartbeats 16000000 in
set_option maxRecDepth 100000 in
theorem paceBound_walk (sz : Int) (s1 : -9223372036854775808 ≤ sz) (s2 : sz ≤ 9223372036854775807) (p : Option Addr) (m c : Nat) (hm : m ≤ c) (hc : c ≤ 9223372036854775807) (w : World) (hops : ∀ i, i < m → PaOp p i w)
    (hbg : Calls Tryz.prog 15 #[] w fun e w' => e = .returned (.bool true) ∧ Below w.heap.size w w') :
    Calls Tryz.prog 4 #[.int .i64 sz, .slice p m c] w fun e w' => e = .returned (.bool true) ∧ Below w.heap.size w w' := by
  have HBG := Lib.hid hbg
  have HOP := Lib.hid hops
  clear hbg hops
  obtain ⟨u0, e0, e01, e02, S0, e03, e04⟩ := mod_at sz 1400 (by decide)
  obtain ⟨S, hS⟩ : ∃ S : Nat, 1 + (S0 : Int) = (S : Int) := ⟨1 + S0, by omega⟩
  have hS1 : 1 ≤ S := by omega
  have hS2 : S ≤ 1400 := by omega
  have HNEW : Hid (∀ W, Calls Tryz.prog 16 #[.int .i64 S, .int .i64 1000] W fun e w' => ∃ C, e = .returned (.pointer (some ⟨C, 0, none⟩)) ∧ PcAt ⟨64000000 * S, 1000, 0, 0, 0⟩ C w' ∧ W.heap.size ≤ C ∧ Below W.heap.size W w') := Lib.hid (fun W => paceNew_any S 1000 hS1 hS2 (by decide) W)
  have hok0 := PcS.Ok.new S 1000 hS2 (by decide)
  obtain ⟨K0, hK0⟩ : ∃ K0, (PcS.mk (64000000 * S) 1000 0 0 0).cap = K0 := ⟨_, rfl⟩
  have hcap0 : K0 = 64000000 * S := by
    rw [← hK0]
    show max (64000000 * S) (M.mulT 0 1000) = _
    have h9 := M.mulT_le 0 1000
    omega
  have HCP : Hid (∀ W C, PcAt ⟨64000000 * S, 1000, 0, 0, 0⟩ C W → Calls Tryz.prog 24 #[.pointer (some ⟨C, 0, none⟩)] W fun e w' => e = .returned (.int .u64 K0) ∧ ∃ n, w' = W.drewN n) := Lib.hid (fun W C hW => by
    have h9 := paceCap_any _ hok0.rate (by show 1000 < 18446744073709551616; decide) C W hW
    rw [hK0] at h9
    exact h9)
  have HS0 : Hid (PbS ⟨64000000 * S, 1000, 0, 0, 0⟩ 0 0 0 0 K0 []) := Lib.hid ⟨hok0, rfl, by decide, rfl, by show 0 < 1000000000; decide, Nat.zero_le _, by rw [hK0]; exact Nat.le_refl _, by omega, by decide, by decide, rfl, fun e he => by cases he⟩
  obtain ⟨B, hB⟩ : ∃ B, w.heap.size = B := ⟨_, rfl⟩
  have HBe := Lib.hid hB
  clear hok0 hK0 hcap0
  go_enter Tryz.func4, Tryz.ntmps4
  go_upto_region 8 with (first
    | (go_at_call 15; (with_reducible refine HBG.out.mono ?_); rintro e w0 ⟨rfl, hb0⟩)
    | (go_at_call 16; (with_reducible refine (HNEW.out _).mono ?_); rintro e w1 ⟨C, rfl, h1, h2, h3⟩))
  have hp2 : PcAt ⟨64000000 * S, 1000, 0, 0, 0⟩ C (w1.alloc (.cells #[.int .u64 0, .int .u64 0] 40)) := BlkIs.alloc h1 _
  have HCP2 := Lib.hid (HCP.out _ _ hp2)
  go_upto_region 10 with (go_at_call 24; (with_reducible refine HCP2.out.mono ?_); rintro e w3 ⟨rfl, k3, rfl⟩)
  have HW0 : Hid (PbW ⟨64000000 * S, 1000, 0, 0, 0⟩ 0 0 [] (.slice none 0 0) C w1.heap.size (w1.heap.size + 1) B w ((w1.alloc (.cells #[.int .u64 0, .int .u64 0] 40)).drewN k3)) := Lib.hid (by
    have s0 := hb0.size
    have l1 := h1.lt
    have s3 := h3.size
    refine ⟨BlkIs.drewN hp2 k3, BlkIs.drewN (BlkIs.new _ _ _) k3, MarkOwn.nil _ _, ⟨by omega, by omega, by omega⟩, by simp, ?_⟩
    rw [← hB]
    exact bel_trans (bel_trans (bel_trans hb0 h3) (bel_alloc _ _)) (bel_drewN _ k3))
  generalize (w1.alloc (.cells #[.int .u64 0, .int .u64 0] 40)).drewN k3 = W2 at *
  obtain ⟨M, hM⟩ : ∃ M, w1.heap.size = M := ⟨_, rfl⟩
  rw [hM] at HW0 ⊢
  obtain ⟨B0, hB0⟩ : ∃ B0, M + 1 = B0 := ⟨_, rfl⟩
  rw [hB0] at HW0
  clear hM hB0 hb0 h1 h2 h3 hB HNEW HBG HCP HCP2 hp2 e0 e01 e02 e03 e04 hS hS1 hS2 s1 s2
  go_wp2
  go_loopw [7, 8, 10, 11, 12] (fun nv vv xv mv iv wr => ∃ (k : Nat) (t : PcS) (now G T mo : Nat) (ls : List (Nat × Nat)) (v : Value), iv = .int .i64 (k : Int) ∧ nv = .int .i64 (now : Int) ∧ vv = v ∧ xv = .int .u64 (t.rate : Nat) ∧ mv = .int .u64 (mo : Nat) ∧ k ≤ m ∧ k ≤ 40 ∧ Hid (PbS t k now G T mo ls) ∧ Hid (PbW t G T ls v C M B0 B w wr)) (fun _ _ _ _ iv _ => 40 - (intOf iv).toNat)
  case atStart => exact ⟨0, _, 0, 0, 0, K0, [], _, rfl, rfl, rfl, rfl, rfl, by omega, by omega, HS0, HW0⟩
  case round =>
    clear HS0 HW0
    obtain ⟨k, t, now, G, T, mo, ls, v, rfl, rfl, rfl, rfl, rfl, hkm, hk40, hs, hwr⟩ := hrel
    by_cases hgo : k < m ∧ k < 40
    · obtain ⟨g1, g2⟩ := hgo
      have d0 : decide ((k : Int) < (m : Int)) = true := decide_eq_true (by omega)
      have d1 : decide ((k : Int) < 40) = true := decide_eq_true (by omega)
      have d2 : decide ((k : Int) < 0) = false := decide_eq_false (by omega)
      obtain ⟨b, o, z0, z1, nn, z3, rfl, hbl, x0, x1, x2, x3, y1, y2, y3⟩ := HOP.out k g1
      have hge := hwr.out.ge
      have hbel := hwr.out.bel
      have hlb : b < B := by rw [← HBe.out]; exact hbl
      have c3 := (hbel.cell (p := ⟨b, o + k * 4 + 3, none⟩) hlb).trans x3
      obtain ⟨D0, hD0, hD1, hD2, _⟩ := mod_at z3 2000000 (by decide)
      obtain ⟨d, hd⟩ : ∃ d : Nat, d = D0.natAbs := ⟨_, rfl⟩
      have hdb : d < 2000000 := by omega
      have hdn : D0 < 0 → -D0 = (d : Int) := by omega
      have hdp : ¬ D0 < 0 → D0 = (d : Int) := by omega
      obtain ⟨N2, hN2⟩ : ∃ N2, now + d = N2 := ⟨_, rfl⟩
      obtain ⟨R, hR⟩ : ∃ R, t.rate * d = R := ⟨_, rfl⟩
      obtain ⟨G2, hG2⟩ : ∃ G2, G + R = G2 := ⟨_, rfl⟩
      have hnow := hs.out.now_
      have hGb := hs.out.G_
      have hTb := hs.out.T_
      have hmb := hs.out.mo_
      have hrt := hs.out.rate
      have hRb : R ≤ 2000000000000000 := by rw [← hR]; exact (hs.out.fill (by omega) d hdb).2.2.2.2.2.2.1
      have q1 : (now : Int) + (d : Int) = (N2 : Int) := by omega
      have q2 : IntKind.i64.wrap (N2 : Int) = (N2 : Int) := by rw [IntKind.wrap_i64]; omega
      have q3 : (t.rate : Int) * (d : Int) = (R : Int) := by rw [← hR, Int.natCast_mul]
      have q4 : IntKind.u64.wrap (R : Int) = (R : Int) := by rw [IntKind.wrap_u64]; omega
      have q5 : (G : Int) + (R : Int) = (G2 : Int) := by omega
      have q6 : IntKind.u64.wrap (G2 : Int) = (G2 : Int) := by rw [IntKind.wrap_u64]; omega
      have q7 : IntKind.u64.wrap (d : Int) = (d : Int) := by rw [IntKind.wrap_u64]; omega
      have f0 : wr.cell? ⟨M, 0, none⟩ = some (.int .u64 G) := hwr.out.box.cell 0
      have ff0 := hwr.out.box.free 0
      have HW1 := Lib.hid (hwr.out.given G2)
      have v0 := (HW1.out.bel.cell (p := ⟨b, o + k * 4, none⟩) hlb).trans x0
      have v1 := (HW1.out.bel.cell (p := ⟨b, o + k * 4 + 1, none⟩) hlb).trans x1
      have v2 := (HW1.out.bel.cell (p := ⟨b, o + k * 4 + 2, none⟩) hlb).trans x2
      obtain ⟨W1, hW1⟩ : ∃ W1, wr.setCell ⟨M, 0, none⟩ (.int .u64 G2) = W1 := ⟨_, rfl⟩
      have HW1' : Hid (PbW t G2 T ls _ C M B0 B w W1) := Lib.hid (by rw [← hW1]; exact HW1.out)
      rw [hW1] at v0 v1 v2
      have HWE := Lib.hid hW1
      have HR := Lib.hid hR
      have HG := Lib.hid hG2
      have HN := Lib.hid hN2
      have HX := Lib.hid (show nn % 1000000000 = nn % 1000000000 from rfl)
      clear x0 x1 x2 x3 hbel hwr hd HW1 hW1 hR hG2 hN2
      by_cases hneg : D0 < 0
      · skip
        have d3 : decide (D0 < 0) = true := decide_eq_true hneg
        have q8 : -D0 = (d : Int) := hdn hneg
        have q9 : IntKind.i64.wrap (d : Int) = (d : Int) := by rw [IntKind.wrap_i64]; omega
        clear hdn hdp
        go_upto_region 18 with fail
        rw [HWE.out]
        clear c3 f0 ff0 HWE
        by_cases hk0 : z0 = 0
        · subst hk0
          obtain ⟨X, hX⟩ : ∃ X, nn % 1000000000 = X := ⟨_, rfl⟩
          have hXb : X < 1000000000 := by omega
          have r1 : (nn : Int) % 1000000000 = (X : Int) := by omega
          have r2 : (nn : Int).tmod 1000000000 = (X : Int) := by rw [Int.tmod_eq_emod_of_nonneg (by omega)]; exact r1
          have hS := hs.out.rated (by omega) d hdb X hXb
          have HA := Lib.hid (paceRate_any t hs.out.ok ((now + d : Nat) : Int) X (by omega) C W1 HW1'.out.p)
          rw [HR.out, HG.out, HN.out] at hS
          rw [HN.out] at HA
          have hrate : ((t.fill (N2 : Int)).rated X).rate = X := rfl
          generalize (t.fill (N2 : Int)).rated X = t2 at *
          obtain ⟨K2, hK2⟩ : ∃ K2, t2.cap = K2 := ⟨_, rfl⟩
          obtain ⟨MO, hMO⟩ : ∃ MO, max mo K2 = MO := ⟨_, rfl⟩
          rw [hK2, hMO] at hS
          have HCAP := Lib.hid (fun W (h : PcAt t2 C W) => paceCap_any t2 (by have := hS.rate; omega) (by have := hS.tick; omega) C W h)
          rw [hK2] at HCAP
          obtain ⟨m1, m2, m3, _, _, _⟩ := mxs mo K2 MO hMO
          clear hX hK2 hMO
          go_upto_region 25 with (first
            | (go_at_call 17; (with_reducible refine HA.out.mono ?_); rintro e w3 ⟨rfl, l1, l2⟩)
            | (go_at_call 24; (with_reducible refine (HCAP.out _ l1).mono ?_); rintro e w4 ⟨rfl, l3, rfl⟩))
          have hW := HW1'.out.call (BlkIs.drewN l1 l3) (l2.drewN l3)
          clear l1 l2 HA HCAP r1 r2 m1 m2 m3 v0 v1 v2 hs HW1' HR HG HN q1 q3 q5 q7 hneg
          generalize w3.drewN l3 = W3 at *
          have HS := Lib.hid hS
          have HW := Lib.hid hW
          clear hS hW 
          obtain ⟨q, cq, hv, a1, a2, a3⟩ := HW.out.own.shape
          subst hv
          have HA3 := Lib.hid a3
          have HL := Lib.hid HS.out.len
          have hll : ls.length ≤ 50 := by
            have h9 := HS.out.len
            rw [List.length_append, List.length_singleton] at h9
            omega
          have hGb := HS.out.G_
          have hTb := HS.out.T_
          have hMb := HS.out.mo_
          have hnb := HS.out.now_
          clear a3
          go_wp2
          go_loopw [102] (fun jv wq => ∃ j : Nat, jv = .int .i64 (j : Int) ∧ j ≤ ls.length ∧ Hid (Kept [] W3 wq)) (fun jv _ => ls.length - (intOf jv).toNat)
          case atStart => exact ⟨0, rfl, by omega, Lib.hid (Kept.refl _ _)⟩
          case round =>
            obtain ⟨j, rfl, hj, hkq⟩ := hrel
            have HWQ := Lib.hid (HW.out.quiet hkq.out)
            have f0 : wr.cell? ⟨M, 0, none⟩ = some (.int .u64 G2) := HWQ.out.box.cell 0
            have f1 : wr.cell? ⟨M, 1, none⟩ = some (.int .u64 T) := HWQ.out.box.cell 1
            by_cases hjl : j < ls.length
            · have d5 : decide ((j : Int) < (ls.length : Int)) = true := decide_eq_true (by omega)
              obtain ⟨g, rfl, r0, r1⟩ := HA3.out j hjl
              have hgl := World.block_lt_of_cell? _ _ r0
              have r0' := (hkq.out.below0.cell (p := ⟨g, j * 2, none⟩) hgl).trans r0
              have r1' := (hkq.out.below0.cell (p := ⟨g, j * 2 + 1, none⟩) hgl).trans r1
              obtain ⟨e, he⟩ : ∃ e, ls.getD j (0, 0) = e := ⟨_, rfl⟩
              have hin : e ∈ ls := by
                rw [← he, List.getD_eq_getElem?_getD, List.getElem?_eq_getElem hjl]
                exact List.getElem_mem _
              obtain ⟨b1, b2, b3⟩ := HS.out.all e (List.mem_append.2 (.inl hin))
              rw [he] at r0' r1'
              obtain ⟨eg, et⟩ := e
              simp only at r0' r1' b1 b2 b3
              obtain ⟨A1, hA1⟩ : ∃ A1, T - et = A1 := ⟨_, rfl⟩
              obtain ⟨A2, hA2⟩ : ∃ A2, G2 - eg = A2 := ⟨_, rfl⟩
              have w1' : IntKind.u64.wrap ((T : Int) - (et : Int)) = (A1 : Int) := by rw [IntKind.wrap_u64]; omega
              have w2' : IntKind.u64.wrap ((G2 : Int) - (eg : Int)) = (A2 : Int) := by rw [IntKind.wrap_u64]; omega
              obtain ⟨A3, hA3⟩ : ∃ A3 : Nat, (A2 : Int) + (MO : Int) = (A3 : Int) := ⟨A2 + MO, by omega⟩
              have w3' : IntKind.u64.wrap (A3 : Int) = (A3 : Int) := by rw [IntKind.wrap_u64]; omega
              have d6 : decide ((A3 : Int) < (A1 : Int)) = false := decide_eq_false (by omega)
              have d6' : ¬ A3 < A1 := by omega
              obtain ⟨WK, hWK⟩ : ∃ WK, WK = wr.alloc (.cells #[.int .u64 eg, .int .u64 et] 40) := ⟨_, rfl⟩
              have hbk : BlkIs #[.int .u64 eg, .int .u64 et] 40 wr.heap.size WK := by rw [hWK]; exact BlkIs.new _ _ _
              have hkK : Kept [] W3 WK := by rw [hWK]; exact hkq.out.alloc _
              have j0 : WK.cell? ⟨wr.heap.size, 0, none⟩ = some (.int .u64 eg) := hbk.cell 0
              have j1 : WK.cell? ⟨wr.heap.size, 1, none⟩ = some (.int .u64 et) := hbk.cell 1
              have f0' : WK.cell? ⟨M, 0, none⟩ = some (.int .u64 G2) := (HW.out.quiet hkK).box.cell 0
              have f1' : WK.cell? ⟨M, 1, none⟩ = some (.int .u64 T) := (HW.out.quiet hkK).box.cell 1
              have HKK := Lib.hid hkK
              have d7 : decide ((j : Int) < 0) = false := decide_eq_false (by omega)
              clear r0 r1 hin b1 b2 b3 hbk hkK HWQ hkq he hA1 hA2 f0 f1
              go_upto_region 28 with fail
              rw [← hWK]
              clear hWK r0' r1'
              go_wp2
              refine ⟨⟨j + 1, by go_num, by omega, HKK⟩, ?_⟩
              simp [intOf]; omega
            · have d5 : decide ((j : Int) < (ls.length : Int)) = false := decide_eq_false (by omega)
              have hsz := HWQ.out.size
              have HOW := Lib.hid HWQ.out.own
              clear hkq HW HA3
              go_wp2_with (at_builtin; go_loud (refine wp_mark rfl _ _ rfl B0 (.slice q ls.length cq) ls rfl wr _ (G2, T) rfl HOW.out hsz wr.heap.size rfl rfl (by omega) ?_; intro v2 w9 ho9 hb9))
              have HWP := Lib.hid (HWQ.out.push ho9 hb9)
              clear ho9 hb9 HWQ HOW f0 f1
              go_wp2
              refine ⟨⟨k + 1, _, _, _, _, _, _, v2, by go_num, rfl, rfl, (by rw [hrate]), rfl, by omega, by omega, HS, HWP⟩, ?_⟩
              simp [intOf]; omega

        · have b0 : ((z0 : Int) == 0) = false := by rw [beq_eq_false_iff_ne]; exact hk0
          obtain ⟨a0, e0, e01, e02, n, e03, e04⟩ := mod_at z1 2000 (by decide)
          have hn : n < 2000 := by omega
          have HA := Lib.hid (paceTake_any t hs.out.ok ((now + d : Nat) : Int) (n : Int) C W1 HW1'.out.p)
          have HSS := Lib.hid (fun T2 h => hs.out.taken (by omega) d hdb n hn T2 h)
          rw [HR.out, HG.out, HN.out] at HSS
          rw [HN.out] at HA
          have hrate : ((t.fill (N2 : Int)).took (n : Int)).rate = t.rate := by unfold PcS.took; split <;> rfl
          generalize (t.fill (N2 : Int)).took (n : Int) = t2 at *
          obtain ⟨r, hr⟩ : ∃ r, (t.fill (N2 : Int)).has (n : Int) = r := ⟨_, rfl⟩
          rw [hr] at HA HSS
          clear hr
          cases r with
          | true =>
            obtain ⟨Z, hZ⟩ : ∃ Z, 64000000 * n = Z := ⟨_, rfl⟩
            obtain ⟨T2, hT2⟩ : ∃ T2, T + Z = T2 := ⟨_, rfl⟩
            have p1 : (64000000 : Int) * (n : Int) = (Z : Int) := by omega
            have p2 : IntKind.u64.wrap (Z : Int) = (Z : Int) := by rw [IntKind.wrap_u64]; omega
            have p3 : (T : Int) + (Z : Int) = (T2 : Int) := by omega
            have p4 : IntKind.u64.wrap (T2 : Int) = (T2 : Int) := by rw [IntKind.wrap_u64]; omega
            have p5 : IntKind.u64.wrap (n : Int) = (n : Int) := by rw [IntKind.wrap_u64]; omega
            have hS := HSS.out T2 (by rw [if_pos rfl, hZ, hT2])
            clear hZ hT2 HSS
            go_upto_region 25 with (go_at_call 21; (with_reducible refine HA.out.mono ?_); rintro e w3 ⟨rfl, l1, l2⟩; have h3 := Lib.hid (HW1'.out.call l1 l2); have bc := h3.out.box.cell 1; have bf := h3.out.box.free 1)
            have hW := h3.out.taken T2
            clear l1 l2 bc bf h3 HA p1 p2 p3 p5 v0 v1 v2 hs HW1' HR HG HN q1 q3 q5 q7 hneg
            generalize w3.setCell ⟨M, 1, none⟩ (.int .u64 T2) = W3 at *
            have HS := Lib.hid hS
            have HW := Lib.hid hW
            clear hS hW 
            obtain ⟨q, cq, hv, a1, a2, a3⟩ := HW.out.own.shape
            subst hv
            have HA3 := Lib.hid a3
            have HL := Lib.hid HS.out.len
            have hll : ls.length ≤ 50 := by
              have h9 := HS.out.len
              rw [List.length_append, List.length_singleton] at h9
              omega
            have hGb := HS.out.G_
            have hTb := HS.out.T_
            have hMb := HS.out.mo_
            have hnb := HS.out.now_
            clear a3
            go_wp2
            go_loopw [102] (fun jv wq => ∃ j : Nat, jv = .int .i64 (j : Int) ∧ j ≤ ls.length ∧ Hid (Kept [] W3 wq)) (fun jv _ => ls.length - (intOf jv).toNat)
            case atStart => exact ⟨0, rfl, by omega, Lib.hid (Kept.refl _ _)⟩
            case round =>
              obtain ⟨j, rfl, hj, hkq⟩ := hrel
              have HWQ := Lib.hid (HW.out.quiet hkq.out)
              have f0 : wr.cell? ⟨M, 0, none⟩ = some (.int .u64 G2) := HWQ.out.box.cell 0
              have f1 : wr.cell? ⟨M, 1, none⟩ = some (.int .u64 T2) := HWQ.out.box.cell 1
              by_cases hjl : j < ls.length
              · have d5 : decide ((j : Int) < (ls.length : Int)) = true := decide_eq_true (by omega)
                obtain ⟨g, rfl, r0, r1⟩ := HA3.out j hjl
                have hgl := World.block_lt_of_cell? _ _ r0
                have r0' := (hkq.out.below0.cell (p := ⟨g, j * 2, none⟩) hgl).trans r0
                have r1' := (hkq.out.below0.cell (p := ⟨g, j * 2 + 1, none⟩) hgl).trans r1
                obtain ⟨e, he⟩ : ∃ e, ls.getD j (0, 0) = e := ⟨_, rfl⟩
                have hin : e ∈ ls := by
                  rw [← he, List.getD_eq_getElem?_getD, List.getElem?_eq_getElem hjl]
                  exact List.getElem_mem _
                obtain ⟨b1, b2, b3⟩ := HS.out.all e (List.mem_append.2 (.inl hin))
                rw [he] at r0' r1'
                obtain ⟨eg, et⟩ := e
                simp only at r0' r1' b1 b2 b3
                obtain ⟨A1, hA1⟩ : ∃ A1, T2 - et = A1 := ⟨_, rfl⟩
                obtain ⟨A2, hA2⟩ : ∃ A2, G2 - eg = A2 := ⟨_, rfl⟩
                have w1' : IntKind.u64.wrap ((T2 : Int) - (et : Int)) = (A1 : Int) := by rw [IntKind.wrap_u64]; omega
                have w2' : IntKind.u64.wrap ((G2 : Int) - (eg : Int)) = (A2 : Int) := by rw [IntKind.wrap_u64]; omega
                obtain ⟨A3, hA3⟩ : ∃ A3 : Nat, (A2 : Int) + (mo : Int) = (A3 : Int) := ⟨A2 + mo, by omega⟩
                have w3' : IntKind.u64.wrap (A3 : Int) = (A3 : Int) := by rw [IntKind.wrap_u64]; omega
                have d6 : decide ((A3 : Int) < (A1 : Int)) = false := decide_eq_false (by omega)
                have d6' : ¬ A3 < A1 := by omega
                obtain ⟨WK, hWK⟩ : ∃ WK, WK = wr.alloc (.cells #[.int .u64 eg, .int .u64 et] 40) := ⟨_, rfl⟩
                have hbk : BlkIs #[.int .u64 eg, .int .u64 et] 40 wr.heap.size WK := by rw [hWK]; exact BlkIs.new _ _ _
                have hkK : Kept [] W3 WK := by rw [hWK]; exact hkq.out.alloc _
                have j0 : WK.cell? ⟨wr.heap.size, 0, none⟩ = some (.int .u64 eg) := hbk.cell 0
                have j1 : WK.cell? ⟨wr.heap.size, 1, none⟩ = some (.int .u64 et) := hbk.cell 1
                have f0' : WK.cell? ⟨M, 0, none⟩ = some (.int .u64 G2) := (HW.out.quiet hkK).box.cell 0
                have f1' : WK.cell? ⟨M, 1, none⟩ = some (.int .u64 T2) := (HW.out.quiet hkK).box.cell 1
                have HKK := Lib.hid hkK
                have d7 : decide ((j : Int) < 0) = false := decide_eq_false (by omega)
                clear r0 r1 hin b1 b2 b3 hbk hkK HWQ hkq he hA1 hA2 f0 f1
                go_upto_region 28 with fail
                rw [← hWK]
                clear hWK r0' r1'
                go_wp2
                refine ⟨⟨j + 1, by go_num, by omega, HKK⟩, ?_⟩
                simp [intOf]; omega
              · have d5 : decide ((j : Int) < (ls.length : Int)) = false := decide_eq_false (by omega)
                have hsz := HWQ.out.size
                have HOW := Lib.hid HWQ.out.own
                clear hkq HW HA3
                go_wp2_with (at_builtin; go_loud (refine wp_mark rfl _ _ rfl B0 (.slice q ls.length cq) ls rfl wr _ (G2, T2) rfl HOW.out hsz wr.heap.size rfl rfl (by omega) ?_; intro v2 w9 ho9 hb9))
                have HWP := Lib.hid (HWQ.out.push ho9 hb9)
                clear ho9 hb9 HWQ HOW f0 f1
                go_wp2
                refine ⟨⟨k + 1, _, _, _, _, _, _, v2, by go_num, rfl, rfl, (by rw [hrate]), rfl, by omega, by omega, HS, HWP⟩, ?_⟩
                simp [intOf]; omega

          | false =>
            have hS := HSS.out T (by rw [if_neg (by decide)])
            clear HSS
            go_upto_region 25 with (go_at_call 21; (with_reducible refine HA.out.mono ?_); rintro e w3 ⟨rfl, l1, l2⟩)
            have hW := HW1'.out.call l1 l2
            clear l1 l2 HA v0 v1 v2 hs HW1' HR HG HN q1 q3 q5 q7 hneg
            have HS := Lib.hid hS
            have HW := Lib.hid hW
            clear hS hW 
            obtain ⟨q, cq, hv, a1, a2, a3⟩ := HW.out.own.shape
            subst hv
            have HA3 := Lib.hid a3
            have HL := Lib.hid HS.out.len
            have hll : ls.length ≤ 50 := by
              have h9 := HS.out.len
              rw [List.length_append, List.length_singleton] at h9
              omega
            have hGb := HS.out.G_
            have hTb := HS.out.T_
            have hMb := HS.out.mo_
            have hnb := HS.out.now_
            clear a3
            go_wp2
            go_loopw [102] (fun jv wq => ∃ j : Nat, jv = .int .i64 (j : Int) ∧ j ≤ ls.length ∧ Hid (Kept [] w3 wq)) (fun jv _ => ls.length - (intOf jv).toNat)
            case atStart => exact ⟨0, rfl, by omega, Lib.hid (Kept.refl _ _)⟩
            case round =>
              obtain ⟨j, rfl, hj, hkq⟩ := hrel
              have HWQ := Lib.hid (HW.out.quiet hkq.out)
              have f0 : wr.cell? ⟨M, 0, none⟩ = some (.int .u64 G2) := HWQ.out.box.cell 0
              have f1 : wr.cell? ⟨M, 1, none⟩ = some (.int .u64 T) := HWQ.out.box.cell 1
              by_cases hjl : j < ls.length
              · have d5 : decide ((j : Int) < (ls.length : Int)) = true := decide_eq_true (by omega)
                obtain ⟨g, rfl, r0, r1⟩ := HA3.out j hjl
                have hgl := World.block_lt_of_cell? _ _ r0
                have r0' := (hkq.out.below0.cell (p := ⟨g, j * 2, none⟩) hgl).trans r0
                have r1' := (hkq.out.below0.cell (p := ⟨g, j * 2 + 1, none⟩) hgl).trans r1
                obtain ⟨e, he⟩ : ∃ e, ls.getD j (0, 0) = e := ⟨_, rfl⟩
                have hin : e ∈ ls := by
                  rw [← he, List.getD_eq_getElem?_getD, List.getElem?_eq_getElem hjl]
                  exact List.getElem_mem _
                obtain ⟨b1, b2, b3⟩ := HS.out.all e (List.mem_append.2 (.inl hin))
                rw [he] at r0' r1'
                obtain ⟨eg, et⟩ := e
                simp only at r0' r1' b1 b2 b3
                obtain ⟨A1, hA1⟩ : ∃ A1, T - et = A1 := ⟨_, rfl⟩
                obtain ⟨A2, hA2⟩ : ∃ A2, G2 - eg = A2 := ⟨_, rfl⟩
                have w1' : IntKind.u64.wrap ((T : Int) - (et : Int)) = (A1 : Int) := by rw [IntKind.wrap_u64]; omega
                have w2' : IntKind.u64.wrap ((G2 : Int) - (eg : Int)) = (A2 : Int) := by rw [IntKind.wrap_u64]; omega
                obtain ⟨A3, hA3⟩ : ∃ A3 : Nat, (A2 : Int) + (mo : Int) = (A3 : Int) := ⟨A2 + mo, by omega⟩
                have w3' : IntKind.u64.wrap (A3 : Int) = (A3 : Int) := by rw [IntKind.wrap_u64]; omega
                have d6 : decide ((A3 : Int) < (A1 : Int)) = false := decide_eq_false (by omega)
                have d6' : ¬ A3 < A1 := by omega
                obtain ⟨WK, hWK⟩ : ∃ WK, WK = wr.alloc (.cells #[.int .u64 eg, .int .u64 et] 40) := ⟨_, rfl⟩
                have hbk : BlkIs #[.int .u64 eg, .int .u64 et] 40 wr.heap.size WK := by rw [hWK]; exact BlkIs.new _ _ _
                have hkK : Kept [] w3 WK := by rw [hWK]; exact hkq.out.alloc _
                have j0 : WK.cell? ⟨wr.heap.size, 0, none⟩ = some (.int .u64 eg) := hbk.cell 0
                have j1 : WK.cell? ⟨wr.heap.size, 1, none⟩ = some (.int .u64 et) := hbk.cell 1
                have f0' : WK.cell? ⟨M, 0, none⟩ = some (.int .u64 G2) := (HW.out.quiet hkK).box.cell 0
                have f1' : WK.cell? ⟨M, 1, none⟩ = some (.int .u64 T) := (HW.out.quiet hkK).box.cell 1
                have HKK := Lib.hid hkK
                have d7 : decide ((j : Int) < 0) = false := decide_eq_false (by omega)
                clear r0 r1 hin b1 b2 b3 hbk hkK HWQ hkq he hA1 hA2 f0 f1
                go_upto_region 28 with fail
                rw [← hWK]
                clear hWK r0' r1'
                go_wp2
                refine ⟨⟨j + 1, by go_num, by omega, HKK⟩, ?_⟩
                simp [intOf]; omega
              · have d5 : decide ((j : Int) < (ls.length : Int)) = false := decide_eq_false (by omega)
                have hsz := HWQ.out.size
                have HOW := Lib.hid HWQ.out.own
                clear hkq HW HA3
                go_wp2_with (at_builtin; go_loud (refine wp_mark rfl _ _ rfl B0 (.slice q ls.length cq) ls rfl wr _ (G2, T) rfl HOW.out hsz wr.heap.size rfl rfl (by omega) ?_; intro v2 w9 ho9 hb9))
                have HWP := Lib.hid (HWQ.out.push ho9 hb9)
                clear ho9 hb9 HWQ HOW f0 f1
                go_wp2
                refine ⟨⟨k + 1, _, _, _, _, _, _, v2, by go_num, rfl, rfl, (by rw [hrate]), rfl, by omega, by omega, HS, HWP⟩, ?_⟩
                simp [intOf]; omega

      · skip
        have d3 : decide (D0 < 0) = false := decide_eq_false hneg
        have q8 : D0 = (d : Int) := hdp hneg
        clear hdn hdp
        subst q8
        go_upto_region 18 with fail
        rw [HWE.out]
        clear c3 f0 ff0 HWE
        by_cases hk0 : z0 = 0
        · subst hk0
          obtain ⟨X, hX⟩ : ∃ X, nn % 1000000000 = X := ⟨_, rfl⟩
          have hXb : X < 1000000000 := by omega
          have r1 : (nn : Int) % 1000000000 = (X : Int) := by omega
          have r2 : (nn : Int).tmod 1000000000 = (X : Int) := by rw [Int.tmod_eq_emod_of_nonneg (by omega)]; exact r1
          have hS := hs.out.rated (by omega) d hdb X hXb
          have HA := Lib.hid (paceRate_any t hs.out.ok ((now + d : Nat) : Int) X (by omega) C W1 HW1'.out.p)
          rw [HR.out, HG.out, HN.out] at hS
          rw [HN.out] at HA
          have hrate : ((t.fill (N2 : Int)).rated X).rate = X := rfl
          generalize (t.fill (N2 : Int)).rated X = t2 at *
          obtain ⟨K2, hK2⟩ : ∃ K2, t2.cap = K2 := ⟨_, rfl⟩
          obtain ⟨MO, hMO⟩ : ∃ MO, max mo K2 = MO := ⟨_, rfl⟩
          rw [hK2, hMO] at hS
          have HCAP := Lib.hid (fun W (h : PcAt t2 C W) => paceCap_any t2 (by have := hS.rate; omega) (by have := hS.tick; omega) C W h)
          rw [hK2] at HCAP
          obtain ⟨m1, m2, m3, _, _, _⟩ := mxs mo K2 MO hMO
          clear hX hK2 hMO
          go_upto_region 25 with (first
            | (go_at_call 17; (with_reducible refine HA.out.mono ?_); rintro e w3 ⟨rfl, l1, l2⟩)
            | (go_at_call 24; (with_reducible refine (HCAP.out _ l1).mono ?_); rintro e w4 ⟨rfl, l3, rfl⟩))
          have hW := HW1'.out.call (BlkIs.drewN l1 l3) (l2.drewN l3)
          clear l1 l2 HA HCAP r1 r2 m1 m2 m3 v0 v1 v2 hs HW1' HR HG HN q1 q3 q5 q7 hneg
          generalize w3.drewN l3 = W3 at *
          have HS := Lib.hid hS
          have HW := Lib.hid hW
          clear hS hW 
          obtain ⟨q, cq, hv, a1, a2, a3⟩ := HW.out.own.shape
          subst hv
          have HA3 := Lib.hid a3
          have HL := Lib.hid HS.out.len
          have hll : ls.length ≤ 50 := by
            have h9 := HS.out.len
            rw [List.length_append, List.length_singleton] at h9
            omega
          have hGb := HS.out.G_
          have hTb := HS.out.T_
          have hMb := HS.out.mo_
          have hnb := HS.out.now_
          clear a3
          go_wp2
          go_loopw [102] (fun jv wq => ∃ j : Nat, jv = .int .i64 (j : Int) ∧ j ≤ ls.length ∧ Hid (Kept [] W3 wq)) (fun jv _ => ls.length - (intOf jv).toNat)
          case atStart => exact ⟨0, rfl, by omega, Lib.hid (Kept.refl _ _)⟩
          case round =>
            obtain ⟨j, rfl, hj, hkq⟩ := hrel
            have HWQ := Lib.hid (HW.out.quiet hkq.out)
            have f0 : wr.cell? ⟨M, 0, none⟩ = some (.int .u64 G2) := HWQ.out.box.cell 0
            have f1 : wr.cell? ⟨M, 1, none⟩ = some (.int .u64 T) := HWQ.out.box.cell 1
            by_cases hjl : j < ls.length
            · have d5 : decide ((j : Int) < (ls.length : Int)) = true := decide_eq_true (by omega)
              obtain ⟨g, rfl, r0, r1⟩ := HA3.out j hjl
              have hgl := World.block_lt_of_cell? _ _ r0
              have r0' := (hkq.out.below0.cell (p := ⟨g, j * 2, none⟩) hgl).trans r0
              have r1' := (hkq.out.below0.cell (p := ⟨g, j * 2 + 1, none⟩) hgl).trans r1
              obtain ⟨e, he⟩ : ∃ e, ls.getD j (0, 0) = e := ⟨_, rfl⟩
              have hin : e ∈ ls := by
                rw [← he, List.getD_eq_getElem?_getD, List.getElem?_eq_getElem hjl]
                exact List.getElem_mem _
              obtain ⟨b1, b2, b3⟩ := HS.out.all e (List.mem_append.2 (.inl hin))
              rw [he] at r0' r1'
              obtain ⟨eg, et⟩ := e
              simp only at r0' r1' b1 b2 b3
              obtain ⟨A1, hA1⟩ : ∃ A1, T - et = A1 := ⟨_, rfl⟩
              obtain ⟨A2, hA2⟩ : ∃ A2, G2 - eg = A2 := ⟨_, rfl⟩
              have w1' : IntKind.u64.wrap ((T : Int) - (et : Int)) = (A1 : Int) := by rw [IntKind.wrap_u64]; omega
              have w2' : IntKind.u64.wrap ((G2 : Int) - (eg : Int)) = (A2 : Int) := by rw [IntKind.wrap_u64]; omega
              obtain ⟨A3, hA3⟩ : ∃ A3 : Nat, (A2 : Int) + (MO : Int) = (A3 : Int) := ⟨A2 + MO, by omega⟩
              have w3' : IntKind.u64.wrap (A3 : Int) = (A3 : Int) := by rw [IntKind.wrap_u64]; omega
              have d6 : decide ((A3 : Int) < (A1 : Int)) = false := decide_eq_false (by omega)
              have d6' : ¬ A3 < A1 := by omega
              obtain ⟨WK, hWK⟩ : ∃ WK, WK = wr.alloc (.cells #[.int .u64 eg, .int .u64 et] 40) := ⟨_, rfl⟩
              have hbk : BlkIs #[.int .u64 eg, .int .u64 et] 40 wr.heap.size WK := by rw [hWK]; exact BlkIs.new _ _ _
              have hkK : Kept [] W3 WK := by rw [hWK]; exact hkq.out.alloc _
              have j0 : WK.cell? ⟨wr.heap.size, 0, none⟩ = some (.int .u64 eg) := hbk.cell 0
              have j1 : WK.cell? ⟨wr.heap.size, 1, none⟩ = some (.int .u64 et) := hbk.cell 1
              have f0' : WK.cell? ⟨M, 0, none⟩ = some (.int .u64 G2) := (HW.out.quiet hkK).box.cell 0
              have f1' : WK.cell? ⟨M, 1, none⟩ = some (.int .u64 T) := (HW.out.quiet hkK).box.cell 1
              have HKK := Lib.hid hkK
              have d7 : decide ((j : Int) < 0) = false := decide_eq_false (by omega)
              clear r0 r1 hin b1 b2 b3 hbk hkK HWQ hkq he hA1 hA2 f0 f1
              go_upto_region 28 with fail
              rw [← hWK]
              clear hWK r0' r1'
              go_wp2
              refine ⟨⟨j + 1, by go_num, by omega, HKK⟩, ?_⟩
              simp [intOf]; omega
            · have d5 : decide ((j : Int) < (ls.length : Int)) = false := decide_eq_false (by omega)
              have hsz := HWQ.out.size
              have HOW := Lib.hid HWQ.out.own
              clear hkq HW HA3
              go_wp2_with (at_builtin; go_loud (refine wp_mark rfl _ _ rfl B0 (.slice q ls.length cq) ls rfl wr _ (G2, T) rfl HOW.out hsz wr.heap.size rfl rfl (by omega) ?_; intro v2 w9 ho9 hb9))
              have HWP := Lib.hid (HWQ.out.push ho9 hb9)
              clear ho9 hb9 HWQ HOW f0 f1
              go_wp2
              refine ⟨⟨k + 1, _, _, _, _, _, _, v2, by go_num, rfl, rfl, (by rw [hrate]), rfl, by omega, by omega, HS, HWP⟩, ?_⟩
              simp [intOf]; omega

        · have b0 : ((z0 : Int) == 0) = false := by rw [beq_eq_false_iff_ne]; exact hk0
          obtain ⟨a0, e0, e01, e02, n, e03, e04⟩ := mod_at z1 2000 (by decide)
          have hn : n < 2000 := by omega
          have HA := Lib.hid (paceTake_any t hs.out.ok ((now + d : Nat) : Int) (n : Int) C W1 HW1'.out.p)
          have HSS := Lib.hid (fun T2 h => hs.out.taken (by omega) d hdb n hn T2 h)
          rw [HR.out, HG.out, HN.out] at HSS
          rw [HN.out] at HA
          have hrate : ((t.fill (N2 : Int)).took (n : Int)).rate = t.rate := by unfold PcS.took; split <;> rfl
          generalize (t.fill (N2 : Int)).took (n : Int) = t2 at *
          obtain ⟨r, hr⟩ : ∃ r, (t.fill (N2 : Int)).has (n : Int) = r := ⟨_, rfl⟩
          rw [hr] at HA HSS
          clear hr
          cases r with
          | true =>
            obtain ⟨Z, hZ⟩ : ∃ Z, 64000000 * n = Z := ⟨_, rfl⟩
            obtain ⟨T2, hT2⟩ : ∃ T2, T + Z = T2 := ⟨_, rfl⟩
            have p1 : (64000000 : Int) * (n : Int) = (Z : Int) := by omega
            have p2 : IntKind.u64.wrap (Z : Int) = (Z : Int) := by rw [IntKind.wrap_u64]; omega
            have p3 : (T : Int) + (Z : Int) = (T2 : Int) := by omega
            have p4 : IntKind.u64.wrap (T2 : Int) = (T2 : Int) := by rw [IntKind.wrap_u64]; omega
            have p5 : IntKind.u64.wrap (n : Int) = (n : Int) := by rw [IntKind.wrap_u64]; omega
            have hS := HSS.out T2 (by rw [if_pos rfl, hZ, hT2])
            clear hZ hT2 HSS
            go_upto_region 25 with (go_at_call 21; (with_reducible refine HA.out.mono ?_); rintro e w3 ⟨rfl, l1, l2⟩; have h3 := Lib.hid (HW1'.out.call l1 l2); have bc := h3.out.box.cell 1; have bf := h3.out.box.free 1)
            have hW := h3.out.taken T2
            clear l1 l2 bc bf h3 HA p1 p2 p3 p5 v0 v1 v2 hs HW1' HR HG HN q1 q3 q5 q7 hneg
            generalize w3.setCell ⟨M, 1, none⟩ (.int .u64 T2) = W3 at *
            have HS := Lib.hid hS
            have HW := Lib.hid hW
            clear hS hW 
            obtain ⟨q, cq, hv, a1, a2, a3⟩ := HW.out.own.shape
            subst hv
            have HA3 := Lib.hid a3
            have HL := Lib.hid HS.out.len
            have hll : ls.length ≤ 50 := by
              have h9 := HS.out.len
              rw [List.length_append, List.length_singleton] at h9
              omega
            have hGb := HS.out.G_
            have hTb := HS.out.T_
            have hMb := HS.out.mo_
            have hnb := HS.out.now_
            clear a3
            go_wp2
            go_loopw [102] (fun jv wq => ∃ j : Nat, jv = .int .i64 (j : Int) ∧ j ≤ ls.length ∧ Hid (Kept [] W3 wq)) (fun jv _ => ls.length - (intOf jv).toNat)
            case atStart => exact ⟨0, rfl, by omega, Lib.hid (Kept.refl _ _)⟩
            case round =>
              obtain ⟨j, rfl, hj, hkq⟩ := hrel
              have HWQ := Lib.hid (HW.out.quiet hkq.out)
              have f0 : wr.cell? ⟨M, 0, none⟩ = some (.int .u64 G2) := HWQ.out.box.cell 0
              have f1 : wr.cell? ⟨M, 1, none⟩ = some (.int .u64 T2) := HWQ.out.box.cell 1
              by_cases hjl : j < ls.length
              · have d5 : decide ((j : Int) < (ls.length : Int)) = true := decide_eq_true (by omega)
                obtain ⟨g, rfl, r0, r1⟩ := HA3.out j hjl
                have hgl := World.block_lt_of_cell? _ _ r0
                have r0' := (hkq.out.below0.cell (p := ⟨g, j * 2, none⟩) hgl).trans r0
                have r1' := (hkq.out.below0.cell (p := ⟨g, j * 2 + 1, none⟩) hgl).trans r1
                obtain ⟨e, he⟩ : ∃ e, ls.getD j (0, 0) = e := ⟨_, rfl⟩
                have hin : e ∈ ls := by
                  rw [← he, List.getD_eq_getElem?_getD, List.getElem?_eq_getElem hjl]
                  exact List.getElem_mem _
                obtain ⟨b1, b2, b3⟩ := HS.out.all e (List.mem_append.2 (.inl hin))
                rw [he] at r0' r1'
                obtain ⟨eg, et⟩ := e
                simp only at r0' r1' b1 b2 b3
                obtain ⟨A1, hA1⟩ : ∃ A1, T2 - et = A1 := ⟨_, rfl⟩
                obtain ⟨A2, hA2⟩ : ∃ A2, G2 - eg = A2 := ⟨_, rfl⟩
                have w1' : IntKind.u64.wrap ((T2 : Int) - (et : Int)) = (A1 : Int) := by rw [IntKind.wrap_u64]; omega
                have w2' : IntKind.u64.wrap ((G2 : Int) - (eg : Int)) = (A2 : Int) := by rw [IntKind.wrap_u64]; omega
                obtain ⟨A3, hA3⟩ : ∃ A3 : Nat, (A2 : Int) + (mo : Int) = (A3 : Int) := ⟨A2 + mo, by omega⟩
                have w3' : IntKind.u64.wrap (A3 : Int) = (A3 : Int) := by rw [IntKind.wrap_u64]; omega
                have d6 : decide ((A3 : Int) < (A1 : Int)) = false := decide_eq_false (by omega)
                have d6' : ¬ A3 < A1 := by omega
                obtain ⟨WK, hWK⟩ : ∃ WK, WK = wr.alloc (.cells #[.int .u64 eg, .int .u64 et] 40) := ⟨_, rfl⟩
                have hbk : BlkIs #[.int .u64 eg, .int .u64 et] 40 wr.heap.size WK := by rw [hWK]; exact BlkIs.new _ _ _
                have hkK : Kept [] W3 WK := by rw [hWK]; exact hkq.out.alloc _
                have j0 : WK.cell? ⟨wr.heap.size, 0, none⟩ = some (.int .u64 eg) := hbk.cell 0
                have j1 : WK.cell? ⟨wr.heap.size, 1, none⟩ = some (.int .u64 et) := hbk.cell 1
                have f0' : WK.cell? ⟨M, 0, none⟩ = some (.int .u64 G2) := (HW.out.quiet hkK).box.cell 0
                have f1' : WK.cell? ⟨M, 1, none⟩ = some (.int .u64 T2) := (HW.out.quiet hkK).box.cell 1
                have HKK := Lib.hid hkK
                have d7 : decide ((j : Int) < 0) = false := decide_eq_false (by omega)
                clear r0 r1 hin b1 b2 b3 hbk hkK HWQ hkq he hA1 hA2 f0 f1
                go_upto_region 28 with fail
                rw [← hWK]
                clear hWK r0' r1'
                go_wp2
                refine ⟨⟨j + 1, by go_num, by omega, HKK⟩, ?_⟩
                simp [intOf]; omega
              · have d5 : decide ((j : Int) < (ls.length : Int)) = false := decide_eq_false (by omega)
                have hsz := HWQ.out.size
                have HOW := Lib.hid HWQ.out.own
                clear hkq HW HA3
                go_wp2_with (at_builtin; go_loud (refine wp_mark rfl _ _ rfl B0 (.slice q ls.length cq) ls rfl wr _ (G2, T2) rfl HOW.out hsz wr.heap.size rfl rfl (by omega) ?_; intro v2 w9 ho9 hb9))
                have HWP := Lib.hid (HWQ.out.push ho9 hb9)
                clear ho9 hb9 HWQ HOW f0 f1
                go_wp2
                refine ⟨⟨k + 1, _, _, _, _, _, _, v2, by go_num, rfl, rfl, (by rw [hrate]), rfl, by omega, by omega, HS, HWP⟩, ?_⟩
                simp [intOf]; omega

          | false =>
            have hS := HSS.out T (by rw [if_neg (by decide)])
            clear HSS
            go_upto_region 25 with (go_at_call 21; (with_reducible refine HA.out.mono ?_); rintro e w3 ⟨rfl, l1, l2⟩)
            have hW := HW1'.out.call l1 l2
            clear l1 l2 HA v0 v1 v2 hs HW1' HR HG HN q1 q3 q5 q7 hneg
            have HS := Lib.hid hS
            have HW := Lib.hid hW
            clear hS hW 
            obtain ⟨q, cq, hv, a1, a2, a3⟩ := HW.out.own.shape
            subst hv
            have HA3 := Lib.hid a3
            have HL := Lib.hid HS.out.len
            have hll : ls.length ≤ 50 := by
              have h9 := HS.out.len
              rw [List.length_append, List.length_singleton] at h9
              omega
            have hGb := HS.out.G_
            have hTb := HS.out.T_
            have hMb := HS.out.mo_
            have hnb := HS.out.now_
            clear a3
            go_wp2
            go_loopw [102] (fun jv wq => ∃ j : Nat, jv = .int .i64 (j : Int) ∧ j ≤ ls.length ∧ Hid (Kept [] w3 wq)) (fun jv _ => ls.length - (intOf jv).toNat)
            case atStart => exact ⟨0, rfl, by omega, Lib.hid (Kept.refl _ _)⟩
            case round =>
              obtain ⟨j, rfl, hj, hkq⟩ := hrel
              have HWQ := Lib.hid (HW.out.quiet hkq.out)
              have f0 : wr.cell? ⟨M, 0, none⟩ = some (.int .u64 G2) := HWQ.out.box.cell 0
              have f1 : wr.cell? ⟨M, 1, none⟩ = some (.int .u64 T) := HWQ.out.box.cell 1
              by_cases hjl : j < ls.length
              · have d5 : decide ((j : Int) < (ls.length : Int)) = true := decide_eq_true (by omega)
                obtain ⟨g, rfl, r0, r1⟩ := HA3.out j hjl
                have hgl := World.block_lt_of_cell? _ _ r0
                have r0' := (hkq.out.below0.cell (p := ⟨g, j * 2, none⟩) hgl).trans r0
                have r1' := (hkq.out.below0.cell (p := ⟨g, j * 2 + 1, none⟩) hgl).trans r1
                obtain ⟨e, he⟩ : ∃ e, ls.getD j (0, 0) = e := ⟨_, rfl⟩
                have hin : e ∈ ls := by
                  rw [← he, List.getD_eq_getElem?_getD, List.getElem?_eq_getElem hjl]
                  exact List.getElem_mem _
                obtain ⟨b1, b2, b3⟩ := HS.out.all e (List.mem_append.2 (.inl hin))
                rw [he] at r0' r1'
                obtain ⟨eg, et⟩ := e
                simp only at r0' r1' b1 b2 b3
                obtain ⟨A1, hA1⟩ : ∃ A1, T - et = A1 := ⟨_, rfl⟩
                obtain ⟨A2, hA2⟩ : ∃ A2, G2 - eg = A2 := ⟨_, rfl⟩
                have w1' : IntKind.u64.wrap ((T : Int) - (et : Int)) = (A1 : Int) := by rw [IntKind.wrap_u64]; omega
                have w2' : IntKind.u64.wrap ((G2 : Int) - (eg : Int)) = (A2 : Int) := by rw [IntKind.wrap_u64]; omega
                obtain ⟨A3, hA3⟩ : ∃ A3 : Nat, (A2 : Int) + (mo : Int) = (A3 : Int) := ⟨A2 + mo, by omega⟩
                have w3' : IntKind.u64.wrap (A3 : Int) = (A3 : Int) := by rw [IntKind.wrap_u64]; omega
                have d6 : decide ((A3 : Int) < (A1 : Int)) = false := decide_eq_false (by omega)
                have d6' : ¬ A3 < A1 := by omega
                obtain ⟨WK, hWK⟩ : ∃ WK, WK = wr.alloc (.cells #[.int .u64 eg, .int .u64 et] 40) := ⟨_, rfl⟩
                have hbk : BlkIs #[.int .u64 eg, .int .u64 et] 40 wr.heap.size WK := by rw [hWK]; exact BlkIs.new _ _ _
                have hkK : Kept [] w3 WK := by rw [hWK]; exact hkq.out.alloc _
                have j0 : WK.cell? ⟨wr.heap.size, 0, none⟩ = some (.int .u64 eg) := hbk.cell 0
                have j1 : WK.cell? ⟨wr.heap.size, 1, none⟩ = some (.int .u64 et) := hbk.cell 1
                have f0' : WK.cell? ⟨M, 0, none⟩ = some (.int .u64 G2) := (HW.out.quiet hkK).box.cell 0
                have f1' : WK.cell? ⟨M, 1, none⟩ = some (.int .u64 T) := (HW.out.quiet hkK).box.cell 1
                have HKK := Lib.hid hkK
                have d7 : decide ((j : Int) < 0) = false := decide_eq_false (by omega)
                clear r0 r1 hin b1 b2 b3 hbk hkK HWQ hkq he hA1 hA2 f0 f1
                go_upto_region 28 with fail
                rw [← hWK]
                clear hWK r0' r1'
                go_wp2
                refine ⟨⟨j + 1, by go_num, by omega, HKK⟩, ?_⟩
                simp [intOf]; omega
              · have d5 : decide ((j : Int) < (ls.length : Int)) = false := decide_eq_false (by omega)
                have hsz := HWQ.out.size
                have HOW := Lib.hid HWQ.out.own
                clear hkq HW HA3
                go_wp2_with (at_builtin; go_loud (refine wp_mark rfl _ _ rfl B0 (.slice q ls.length cq) ls rfl wr _ (G2, T) rfl HOW.out hsz wr.heap.size rfl rfl (by omega) ?_; intro v2 w9 ho9 hb9))
                have HWP := Lib.hid (HWQ.out.push ho9 hb9)
                clear ho9 hb9 HWQ HOW f0 f1
                go_wp2
                refine ⟨⟨k + 1, _, _, _, _, _, _, v2, by go_num, rfl, rfl, (by rw [hrate]), rfl, by omega, by omega, HS, HWP⟩, ?_⟩
                simp [intOf]; omega

    · have hbl := hwr.out.bel
      have hex : ¬ k < m ∨ (k < m ∧ ¬ k < 40) := by omega
      clear hgo hwr hs HOP
      rcases hex with g0 | ⟨g0, g1⟩
      · have d0 : decide ((k : Int) < (m : Int)) = false := decide_eq_false (by omega)
        go_wp2
        go_ret
        exact ⟨rfl, by rw [HBe.out]; exact hbl⟩
      · have d0 : decide ((k : Int) < (m : Int)) = true := decide_eq_true (by omega)
        have d1 : decide ((k : Int) < 40) = false := decide_eq_false (by omega)
        go_wp2
        go_ret
        exact ⟨rfl, by rw [HBe.out]; exact hbl⟩
end Go.Proofs.YtfmnpepgmedfpaaGreatDoor
