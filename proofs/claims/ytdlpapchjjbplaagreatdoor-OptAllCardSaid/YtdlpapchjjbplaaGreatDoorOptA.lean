/-
  Options: the questions on one, and what one is as bytes.
-/
import Derived.Test.YtdlpapchjjbplaaGreatDoorHeadC
import Derived.Test.YtdlpapchjjbplaaGreatDoorOptMath
import Derived.Lib.BufSteps
import Derived.RegionTactic
import Derived.Deep.Cut
import Derived.Deep.DeepCutAuto
namespace Go.Proofs.YtdlpapchjjbplaaGreatDoor
open Go.ChangeShapes Go.WideShapes Go.ChangeAt Go.RowKit
set_option linter.unusedVariables false

def Ov (o : M.Opt) : Value := .agg #[.int .i64 o.t, .string (str o.d)]
def OvBox (o : M.Opt) : Obj := .cells #[.int .i64 o.t, .string (str o.d)] 54
/-- The option o, at block C. -/
def OvBlk (o : M.Opt) (C : Nat) (w : World) : Prop := w.heap[C]? = some (OvBox o)
theorem OvBlk.cells {o : M.Opt} {C : Nat} {w : World} (a : OvBlk o C w) : w.cell? ⟨C, 0, none⟩ = some (.int .i64 o.t) ∧ w.cell? ⟨C, 1, none⟩ = some (.string (str o.d)) := by
  unfold OvBlk OvBox at a
  simp only [cell_of_row w C _ _ _ _ a]
  simp

theorem isLong_any (t : Int) (w : World) :
    Calls Tryz.prog 72 #[.int .i64 t] w fun e w' => e = .returned (.bool (decide (32 ≤ t))) ∧ w = w' := by
  go_enter Tryz.func72, Tryz.ntmps72
  go_wp2
  go_ret
  exact ⟨rfl, rfl⟩

theorem str_empty {d : List UInt8} (h : d.length = 0) : str d = ⟨#[]⟩ := by rw [List.eq_nil_of_length_eq_zero h]; rfl
theorem str_toList (d : List UInt8) : (str d).toList = d := by rw [ByteArray.toList_eq]; rfl
theorem ret_boolE {a b : Bool} (h : b = a) : Ending.returned (.bool a) = .returned (.bool b) := by rw [h]

theorem optMay_any (o : M.Opt) (w : World) (hd : o.d.length ≤ 9223372036854775807) :
    Calls Tryz.prog 36 #[Ov o] w fun e w' => e = .returned (.bool (M.optMay o)) ∧ Below w.heap.size w w' := by
  have HM : Hid (M.optMay o = decide (0 ≤ o.t ∧ o.t ≤ 255 ∧ (o.t < 32 ∧ o.d.length = 0 ∨ 32 ≤ o.t ∧ o.d.length ≤ 253))) := Lib.hid rfl
  unfold Ov
  obtain ⟨t, d⟩ := o
  dsimp only at HM hd ⊢
  by_cases h1 : t < 0
  · have d1 := decide_eq_true h1
    go_enter Tryz.func36, Tryz.ntmps36
    go_wp2
    go_ret
    exact ⟨ret_boolE (by rw [HM.out]; exact decide_eq_false (by omega)), bel_alloc _ _⟩
  have d1 := decide_eq_false h1
  by_cases h2 : 255 < t
  · have d2 := decide_eq_true h2
    go_enter Tryz.func36, Tryz.ntmps36
    go_wp2
    go_ret
    exact ⟨ret_boolE (by rw [HM.out]; exact decide_eq_false (by omega)), bel_alloc _ _⟩
  have d2 := decide_eq_false h2
  by_cases h3 : 32 ≤ t
  · have HL := Lib.hid (fun w => isLong_any t w)
    rw [decide_eq_true h3] at HL
    have hs : (str d).size = d.length := rfl
    have HR : Hid (M.optMay ⟨t, d⟩ = decide (((str d).size : Int) ≤ 253)) := Lib.hid (by rw [HM.out, decide_eq_decide, hs]; omega)
    have hd2 : (str d).size ≤ 9223372036854775807 := by omega
    clear hs hd
    generalize str d = s at *
    clear HM
    go_enter Tryz.func36, Tryz.ntmps36
    go_wp2_with (go_at_call 72; refine (HL.out _).mono ?_; rintro e w' ⟨rfl, rfl⟩)
    all_goals go_ret
    all_goals exact ⟨ret_boolE (by rw [HR.out]), bel_alloc _ _⟩
  · have HL := Lib.hid (fun w => isLong_any t w)
    rw [decide_eq_false h3] at HL
    by_cases h4 : d.length = 0
    · rw [str_empty h4]
      have HR : Hid (M.optMay ⟨t, d⟩ = true) := Lib.hid (by rw [HM.out]; exact decide_eq_true (by omega))
      clear HM h4
      go_enter Tryz.func36, Tryz.ntmps36
      go_wp2_with (go_at_call 72; refine (HL.out _).mono ?_; rintro e w' ⟨rfl, rfl⟩)
      all_goals go_ret
      all_goals exact ⟨ret_boolE (by rw [HR.out]), bel_alloc _ _⟩
    · have HR : Hid (M.optMay ⟨t, d⟩ = false) := Lib.hid (by rw [HM.out]; exact decide_eq_false (by omega))
      have hne : (str d).toList.isEmpty = false := by rw [str_toList]; cases d with | nil => exact absurd rfl h4 | cons _ _ => rfl
      generalize str d = s at *
      clear HM h4
      go_enter Tryz.func36, Tryz.ntmps36
      go_wp2_with (go_at_call 72; refine (HL.out _).mono ?_; rintro e w' ⟨rfl, rfl⟩)
      all_goals go_ret
      all_goals exact ⟨ret_boolE (by rw [HR.out]), bel_alloc _ _⟩

/-- A row of bytes that the call owns from block B on; below B nothing has turned since W0. -/
def BytesOwn (B : Nat) (v : Value) (l : List UInt8) (W0 w : World) : Prop := Lib.OwnBuf B 5 v l.length (l.map byteV) W0 w
theorem BytesOwn.alloc {B : Nat} {v : Value} {l : List UInt8} {W0 w : World} (h : BytesOwn B v l W0 w) (o : Obj) : BytesOwn B v l W0 (w.alloc o) := Lib.OwnBuf.alloc h o
theorem BytesOwn.bel {B : Nat} {v : Value} {l : List UInt8} {W0 w : World} (h : BytesOwn B v l W0 w) : Below B W0 w := h.2.1
theorem BytesOwn.nil (w : World) : BytesOwn w.heap.size (.slice none 0 0) [] w w := ⟨World.ownsRowF_nil _ _ _ _, Below.refl _ _, Nat.le_refl _⟩
theorem BytesOwn.kept {B : Nat} {v : Value} {l : List UInt8} {W0 w w' : World} (h : BytesOwn B v l W0 w) (hb : Below w.heap.size w w') : BytesOwn B v l W0 w' := by
  refine ⟨h.1.kept (row := none) ⟨hb.os, hb.tape, hb.output, hb.size, fun k hk _ => hb.block k hk⟩ ?_, h.2.1.trans (hb.mono h.2.2), Nat.le_trans h.2.2 hb.size⟩
  cases v.ownBlock <;> simp

/-- What was there and is no part of the row is as it was. -/
def Others (v : Value) (w w' : World) : Prop := w.heap.size ≤ w'.heap.size ∧ ∀ g, g < w.heap.size → v.ownBlock ≠ some g → w'.heap[g]? = w.heap[g]?
theorem Others.of_grown {v : Value} {w w' : World} (h : w.grownBy w' v.ownBlock) : Others v w w' := ⟨h.size, fun g hg hne => h.block g hg (fun e => hne e.symm)⟩
theorem OvBlk.others {o : M.Opt} {C : Nat} {v : Value} {w w' : World} (a : OvBlk o C w) (h : Others v w w') (hne : v.ownBlock ≠ some C) : OvBlk o C w' := by
  have hlt : C < w.heap.size := by
    rcases Nat.lt_or_ge C w.heap.size with hlt | hge
    · exact hlt
    · unfold OvBlk at a; rw [Array.getElem?_eq_none hge] at a; cases a
  unfold OvBlk; rw [h.2 C hlt hne]; exact a
theorem BytesOwn.ne {B : Nat} {v : Value} {l : List UInt8} {W0 w : World} (h : BytesOwn B v l W0 w) {C : Nat} (hC : w.heap.size ≤ C) : v.ownBlock ≠ some C := fun e => by have := (h.1.lt C e).2; omega

theorem BytesOwn.ne_ov {B : Nat} {v : Value} {l : List UInt8} {W0 w : World} (h : BytesOwn B v l W0 w) {o : M.Opt} {C : Nat} (a : OvBlk o C w) : v.ownBlock ≠ some C := Lib.ownBlock_neF h.1 a (by decide)

theorem wp_byte {ops : Array Oper} {rest : List Oper} {o : Oper} {a : Act} {Q : Exit → Act → World → Prop} (hgd : o.guard = none) (s x : Operand)
    (ho : o.op = .call { callee := .builtin .append, args := #[s, x], argTypes := #[34, 34] })
    (B : Nat) (v : Value) (l : List UInt8) (hs : a.eval s = v) (W0 w0 : World) (c : Int) (b : UInt8) (hcb : c = (b.toNat : Int)) (hb : BytesOwn B v l W0 w0) (H : Nat) (hH : w0.heap.size = H)
    (hx : a.eval x = .slice (some ⟨H, 0, none⟩) 1 1) (hlen : l.length ≤ 1099511627776)
    (h : ∀ v' w', BytesOwn B v' (l ++ [b]) W0 w' → Others v (w0.alloc (.cells #[.int .u8 c] 5)) w' → wpList Tryz.prog ops Q rest (a.put o.dst v') w') : wpList Tryz.prog ops Q (o :: rest) a (w0.alloc (.cells #[.int .u8 c] 5)) := by
  obtain ⟨i0, hi, hz0, hz1, hz2⟩ := info_parts infoU8
  subst hH hcb
  have hb' := hb.alloc (.cells #[.int .u8 (b.toNat : Int)] 5)
  refine wpList_append_ownF _ hgd s x 34 ho B 5 i0 (.int .u8 0) 1 1 Tryz.underlying34 hi hz0 hz1 hz2 rfl (by decide) v l.length (l.map byteV) hs hb'.1 ⟨w0.heap.size, 0, none⟩ 1 1 [byteV b] hx rfl (one_new w0 _ _) (byte_one b) (by unfold maxLen; omega) (by omega) hb'.2.2 ?_
  intro v' w' ho' hg _
  refine h v' w' ?_ (Others.of_grown hg)
  have := Lib.OwnBuf.grown hb' ho' hg
  unfold BytesOwn
  rw [List.length_append, List.map_append]
  exact this

theorem strCells_str (d : List UInt8) : Lib.strCells (str d) = d.map byteV := rfl
theorem wp_text {ops : Array Oper} {rest : List Oper} {o : Oper} {a : Act} {Q : Exit → Act → World → Prop} (hgd : o.guard = none) (s x : Operand)
    (ho : o.op = .call { callee := .builtin .append, args := #[s, x], argTypes := #[34, 9] })
    (B : Nat) (v : Value) (l : List UInt8) (hs : a.eval s = v) (W0 w0 : World) (d : List UInt8) (hb : BytesOwn B v l W0 w0)
    (hx : a.eval x = .string (str d)) (hlen : l.length ≤ 1099511627776) (hlen2 : d.length ≤ 1099511627776)
    (h : ∀ v' w', BytesOwn B v' (l ++ d) W0 w' → Others v w0 w' → wpList Tryz.prog ops Q rest (a.put o.dst v') w') : wpList Tryz.prog ops Q (o :: rest) a w0 := by
  obtain ⟨i0, hi, hz0, hz1, hz2⟩ := info_parts infoU8
  have hsz : (str d).size = d.length := rfl
  refine Lib.wpList_append_own_stringF _ hgd s x 34 9 ho B 5 i0 Tryz.underlying34 Tryz.underlying9 hi hz0 hz1 hz2 v l.length (l.map byteV) hs hb.1 (str d) hx (by unfold maxLen; omega) (by omega) hb.2.2 ?_
  intro v' w' ho' hg _
  refine h v' w' ?_ (Others.of_grown hg)
  have := Lib.OwnBuf.grown hb ho' hg
  unfold BytesOwn
  rw [List.length_append, List.map_append]
  exact this

/-- A box laid for the call is no part of the row. -/
theorem OvBlk.new (o : M.Opt) (w : World) : OvBlk o w.heap.size (w.alloc (OvBox o)) := heap_alloc_new w _
theorem OvBlk.alloc {o : M.Opt} {C : Nat} {w : World} (a : OvBlk o C w) (b : Obj) : OvBlk o C (w.alloc b) := by
  unfold OvBlk at *
  rcases Nat.lt_or_ge C w.heap.size with hlt | hge
  · rw [Below.heap_alloc _ _ _ hlt]; exact a
  · rw [Array.getElem?_eq_none hge] at a; cases a

set_option maxHeartbeats 1000000 in
theorem optPut1_any (B : Nat) (v : Value) (l : List UInt8) (o : M.Opt) (W0 w : World) (hb : BytesOwn B v l W0 w) (hm : M.optMay o = true) (hl : l.length ≤ 1099511627000) :
    Calls Tryz.prog 73 #[v, Ov o] w fun e w' => ∃ v', e = .returned v' ∧ BytesOwn B v' (l ++ M.optBytes o) W0 w' := by
  have hmay := of_decide_eq_true hm
  have HO : Hid (M.optBytes o = if o.t < 32 then [UInt8.ofNat o.t.toNat] else UInt8.ofNat o.t.toNat :: UInt8.ofNat (2 + o.d.length) :: o.d) := Lib.hid rfl
  have HC0 := Lib.hid (OvBlk.new o w)
  have HNE := Lib.hid (hb.ne (Nat.le_refl _))
  unfold OvBox at HC0
  unfold Ov
  have hob : OvBox o = .cells #[.int .i64 o.t, .string (str o.d)] 54 := rfl
  obtain ⟨n, hn⟩ : ∃ n : Nat, o.t = n := ⟨o.t.toNat, by omega⟩
  obtain ⟨b, hbb⟩ : ∃ b, UInt8.ofNat n = b := ⟨_, rfl⟩
  have hbn : (n : Int) = (b.toNat : Int) := by rw [← hbb]; simp; omega
  have hon : o.t.toNat = n := by omega
  rw [hon, hn, hbb] at HO
  rw [hn] at HC0 ⊢
  have hn0 : n ≤ 255 := by omega
  have HB := Lib.hid hb; have HBN := Lib.hid hbn; have HBB := Lib.hid hbb
  have HL := Lib.hid (fun w => isLong_any n w)
  by_cases h3 : n < 32
  · rw [decide_eq_false (by omega)] at HL
    rw [if_pos (by omega)] at HO
    have HN := Lib.hid hn
    clear hb hbn hbb hon hn hob hmay hm
    go_enter Tryz.func73, Tryz.ntmps73
    go_upto_region 2 with (at_builtin; refine wp_byte rfl _ _ rfl B v l rfl W0 _ _ b HBN.out (HB.out.alloc _) _ (by simp) rfl (by omega) ?_; intro v1 w1 hb1 hk1)
    have hc1 : OvBlk o w.heap.size w1 := ((show OvBlk o w.heap.size _ by unfold OvBlk OvBox; rw [HN.out]; unfold OvBlk OvBox at HC0; rw [HN.out] at HC0; exact HC0.out).alloc _).others hk1 HNE.out
    have c0 := hc1.cells.1
    rw [HN.out] at c0
    have HB1 := Lib.hid hb1
    clear hb1 hk1 hc1
    go_wp2_with (go_at_call 72; refine (HL.out _).mono ?_; rintro e w' ⟨rfl, rfl⟩)
    go_ret
    exact ⟨_, rfl, by rw [HO.out]; exact HB1.out⟩
  · rw [decide_eq_true (by omega)] at HL
    rw [if_neg (by omega)] at HO
    have hk253 : (str o.d).size ≤ 253 := by show o.d.length ≤ 253; omega
    obtain ⟨s, hs⟩ : ∃ s, str o.d = s := ⟨_, rfl⟩
    obtain ⟨b2, hbb2⟩ : ∃ b, UInt8.ofNat (2 + o.d.length) = b := ⟨_, rfl⟩
    have hss : s.size = o.d.length := by rw [← hs]; rfl
    rw [hs] at HC0 hk253 ⊢
    have hbn2 : 2 + (s.size : Int) = (b2.toNat : Int) := by rw [← hbb2, hss]; simp; omega
    rw [hbb2] at HO
    have HBN2 := Lib.hid hbn2; have HS := Lib.hid hs
    have hd3 : o.d.length ≤ 253 := by omega
    have HN := Lib.hid hn
    clear hb hbn hbb hon hn hob hmay hm hbn2 hbb2 hss hs
    go_enter Tryz.func73, Tryz.ntmps73
    go_upto_region 2 with (at_builtin; refine wp_byte rfl _ _ rfl B v l rfl W0 _ _ b HBN.out (HB.out.alloc _) _ (by simp) rfl (by omega) ?_; intro v1 w1 hb1 hk1)
    have hc1 : OvBlk o w.heap.size w1 := ((show OvBlk o w.heap.size _ by unfold OvBlk OvBox; rw [HN.out, HS.out]; unfold OvBlk OvBox at HC0; rw [HN.out, HS.out] at HC0; exact HC0.out).alloc _).others hk1 HNE.out
    have c0 := hc1.cells.1
    have c1 := hc1.cells.2
    rw [HN.out] at c0
    rw [HS.out] at c1
    have hlen1 : (l ++ [b]).length ≤ 1099511627776 := by simp; omega
    have HNE1 := Lib.hid (hb1.ne_ov hc1)
    have HB1 := Lib.hid hb1; have HC1 := Lib.hid hc1; have HLEN1 := Lib.hid hlen1
    clear hb1 hk1 hc1 hlen1
    go_upto_region 4 with (first
      | (go_at_call 72; refine (HL.out _).mono ?_; rintro e w' ⟨rfl, rfl⟩)
      | (at_builtin; refine wp_byte rfl _ _ rfl B v1 (l ++ [b]) rfl W0 _ _ b2 HBN2.out HB1.out _ rfl rfl HLEN1.out ?_; intro v2 w2 hb2 hk2))
    have hc2 : OvBlk o w.heap.size w2 := (HC1.out.alloc _).others hk2 HNE1.out
    have c2 := hc2.cells.2
    rw [HS.out] at c2
    have hlen2 : (l ++ [b] ++ [b2]).length ≤ 1099511627776 := by simp; omega
    have HB2 := Lib.hid hb2; have HLEN2 := Lib.hid hlen2
    clear hb2 hk2 hc2 hlen2 c0 c1
    go_wp2_with (at_builtin; refine wp_text rfl _ _ rfl B v2 (l ++ [b] ++ [b2]) rfl W0 _ o.d HB2.out (by rw [HS.out]; rfl) HLEN2.out (by omega) ?_; intro v3 w3 hb3 hk3)
    go_ret
    exact ⟨_, rfl, by rw [HO.out]; simpa using hb3⟩
end Go.Proofs.YtdlpapchjjbplaaGreatDoor
