/-
  Options: the questions on one, and what one is as bytes.
  What opt.Put answers: options as bytes.
-/
import Derived.Test.YtnhlachoimlhhaaGreatDoorHdA
import Derived.Test.YtnhlachoimlhhaaGreatDoorOptMath
import Derived.Lib.BufSteps
import Derived.RegionTactic
import Derived.Deep.Cut
import Derived.Deep.DeepCutAuto
namespace Go.Proofs.YtnhlachoimlhhaaGreatDoor
open Go.ChangeShapes Go.WideShapes Go.ChangeAt Go.RowKit
set_option linter.unusedVariables false

def Ov (o : M.Opt) : Value := .agg #[.int .i64 o.t, .string (str o.d)]
def OvBox (o : M.Opt) : Obj := .cells #[.int .i64 o.t, .string (str o.d)] 106
/-- The option o, at block C. -/
def OvBlk (o : M.Opt) (C : Nat) (w : World) : Prop := w.heap[C]? = some (OvBox o)
theorem OvBlk.cells {o : M.Opt} {C : Nat} {w : World} (a : OvBlk o C w) : w.cell? ⟨C, 0, none⟩ = some (.int .i64 o.t) ∧ w.cell? ⟨C, 1, none⟩ = some (.string (str o.d)) := by
  unfold OvBlk OvBox at a
  simp only [cell_of_row w C _ _ _ _ a]
  simp

theorem isLong_any (t : Int) (w : World) :
    Calls Tryz.prog 291 #[.int .i64 t] w fun e w' => e = .returned (.bool (decide (32 ≤ t))) ∧ w = w' := by
  go_enter Tryz.func291, Tryz.ntmps291
  go_wp2
  go_ret
  exact ⟨rfl, rfl⟩

theorem str_empty {d : List UInt8} (h : d.length = 0) : str d = ⟨#[]⟩ := by rw [List.eq_nil_of_length_eq_zero h]; rfl
theorem str_toList (d : List UInt8) : (str d).toList = d := by rw [ByteArray.toList_eq]; rfl
theorem ret_boolE {a b : Bool} (h : b = a) : Ending.returned (.bool a) = .returned (.bool b) := by rw [h]

theorem optMay_any (o : M.Opt) (w : World) (hd : o.d.length ≤ 9223372036854775807) :
    Calls Tryz.prog 259 #[Ov o] w fun e w' => e = .returned (.bool (M.optMay o)) ∧ Below w.heap.size w w' := by
  have HM : Hid (M.optMay o = decide (0 ≤ o.t ∧ o.t ≤ 255 ∧ (o.t < 32 ∧ o.d.length = 0 ∨ 32 ≤ o.t ∧ o.d.length ≤ 253))) := Lib.hid rfl
  unfold Ov
  obtain ⟨t, d⟩ := o
  dsimp only at HM hd ⊢
  by_cases h1 : t < 0
  · have d1 := decide_eq_true h1
    go_enter Tryz.func259, Tryz.ntmps259
    go_wp2
    go_ret
    exact ⟨ret_boolE (by rw [HM.out]; exact decide_eq_false (by omega)), bel_alloc _ _⟩
  have d1 := decide_eq_false h1
  by_cases h2 : 255 < t
  · have d2 := decide_eq_true h2
    go_enter Tryz.func259, Tryz.ntmps259
    go_wp2
    go_ret
    exact ⟨ret_boolE (by rw [HM.out]; exact decide_eq_false (by omega)), bel_alloc _ _⟩
  have d2 := decide_eq_false h2
  by_cases h3 : 32 ≤ t
  · have HL := Lib.hid (fun w => isLong_any t w)
    rw [decide_eq_true h3] at HL
    have hs : (str d).size = d.length := rfl
    have HR : Hid (M.optMay ⟨t, d⟩ = decide (((str d).size : Int) ≤ 253)) := Lib.hid (by rw [HM.out, decide_eq_decide, hs]; omega)
    have hd2 : (str d).size ≤ 9223372036854775807 := by omega
    clear hs hd
    generalize str d = s at *
    clear HM
    go_enter Tryz.func259, Tryz.ntmps259
    go_wp2_with (go_at_call 291; refine (HL.out _).mono ?_; rintro e w' ⟨rfl, rfl⟩)
    all_goals go_ret
    all_goals exact ⟨ret_boolE (by rw [HR.out]), bel_alloc _ _⟩
  · have HL := Lib.hid (fun w => isLong_any t w)
    rw [decide_eq_false h3] at HL
    by_cases h4 : d.length = 0
    · rw [str_empty h4]
      have HR : Hid (M.optMay ⟨t, d⟩ = true) := Lib.hid (by rw [HM.out]; exact decide_eq_true (by omega))
      clear HM h4
      go_enter Tryz.func259, Tryz.ntmps259
      go_wp2_with (go_at_call 291; refine (HL.out _).mono ?_; rintro e w' ⟨rfl, rfl⟩)
      all_goals go_ret
      all_goals exact ⟨ret_boolE (by rw [HR.out]), bel_alloc _ _⟩
    · have HR : Hid (M.optMay ⟨t, d⟩ = false) := Lib.hid (by rw [HM.out]; exact decide_eq_false (by omega))
      have hne : (str d).toList.isEmpty = false := by rw [str_toList]; cases d with | nil => exact absurd rfl h4 | cons _ _ => rfl
      generalize str d = s at *
      clear HM h4
      go_enter Tryz.func259, Tryz.ntmps259
      go_wp2_with (go_at_call 291; refine (HL.out _).mono ?_; rintro e w' ⟨rfl, rfl⟩)
      all_goals go_ret
      all_goals exact ⟨ret_boolE (by rw [HR.out]), bel_alloc _ _⟩

/-- A row of bytes that the call owns from block B on; below B nothing has turned since W0. -/
def BytesOwn (B : Nat) (v : Value) (l : List UInt8) (W0 w : World) : Prop := Lib.OwnBuf B 5 v l.length (l.map byteV) W0 w
theorem BytesOwn.alloc {B : Nat} {v : Value} {l : List UInt8} {W0 w : World} (h : BytesOwn B v l W0 w) (o : Obj) : BytesOwn B v l W0 (w.alloc o) := Lib.OwnBuf.alloc h o
theorem BytesOwn.bel {B : Nat} {v : Value} {l : List UInt8} {W0 w : World} (h : BytesOwn B v l W0 w) : Below B W0 w := h.2.1
theorem BytesOwn.nil (w : World) : BytesOwn w.heap.size (.slice none 0 0) [] w w := ⟨World.ownsRowF_nil _ _ _ _, Below.refl _ _, Nat.le_refl _⟩
theorem BytesOwn.kept {B : Nat} {v : Value} {l : List UInt8} {W0 w w' : World} (h : BytesOwn B v l W0 w) (hb : Below w.heap.size w w') : BytesOwn B v l W0 w' := by
  refine ⟨h.1.kept (row := none) ⟨hb.os, hb.tape, hb.output, hb.size, fun k hk _ => hb.block k hk⟩ ?_, h.2.1.trans (hb.mono h.2.2), Nat.le_trans h.2.2 hb.size⟩
  cases v.ownBlock <;> simp

/-- What was there and is no part of the row is as it was. -/
def Others (v : Value) (w w' : World) : Prop := w.heap.size ≤ w'.heap.size ∧ ∀ g, g < w.heap.size → v.ownBlock ≠ some g → w'.heap[g]? = w.heap[g]?
theorem Others.of_grown {v : Value} {w w' : World} (h : w.grownBy w' v.ownBlock) : Others v w w' := ⟨h.size, fun g hg hne => h.block g hg (fun e => hne e.symm)⟩
theorem OvBlk.others {o : M.Opt} {C : Nat} {v : Value} {w w' : World} (a : OvBlk o C w) (h : Others v w w') (hne : v.ownBlock ≠ some C) : OvBlk o C w' := by
  have hlt : C < w.heap.size := by
    rcases Nat.lt_or_ge C w.heap.size with hlt | hge
    · exact hlt
    · unfold OvBlk at a; rw [Array.getElem?_eq_none hge] at a; cases a
  unfold OvBlk; rw [h.2 C hlt hne]; exact a
theorem BytesOwn.ne {B : Nat} {v : Value} {l : List UInt8} {W0 w : World} (h : BytesOwn B v l W0 w) {C : Nat} (hC : w.heap.size ≤ C) : v.ownBlock ≠ some C := fun e => by have := (h.1.lt C e).2; omega

theorem BytesOwn.ne_ov {B : Nat} {v : Value} {l : List UInt8} {W0 w : World} (h : BytesOwn B v l W0 w) {o : M.Opt} {C : Nat} (a : OvBlk o C w) : v.ownBlock ≠ some C := Lib.ownBlock_neF h.1 a (by decide)

theorem wp_byte {ops : Array Oper} {rest : List Oper} {o : Oper} {a : Act} {Q : Exit → Act → World → Prop} (hgd : o.guard = none) (s x : Operand)
    (ho : o.op = .call { callee := .builtin .append, args := #[s, x], argTypes := #[90, 90] })
    (B : Nat) (v : Value) (l : List UInt8) (hs : a.eval s = v) (W0 w0 : World) (c : Int) (b : UInt8) (hcb : c = (b.toNat : Int)) (hb : BytesOwn B v l W0 w0) (H : Nat) (hH : w0.heap.size = H)
    (hx : a.eval x = .slice (some ⟨H, 0, none⟩) 1 1) (hlen : l.length ≤ 1099511627776)
    (h : ∀ v' w', BytesOwn B v' (l ++ [b]) W0 w' → Others v (w0.alloc (.cells #[.int .u8 c] 5)) w' → wpList Tryz.prog ops Q rest (a.put o.dst v') w') : wpList Tryz.prog ops Q (o :: rest) a (w0.alloc (.cells #[.int .u8 c] 5)) := by
  obtain ⟨i0, hi, hz0, hz1, hz2⟩ := info_parts infoU8
  subst hH hcb
  have hb' := hb.alloc (.cells #[.int .u8 (b.toNat : Int)] 5)
  refine wpList_append_ownF _ hgd s x 90 ho B 5 i0 (.int .u8 0) 1 1 Tryz.underlying90 hi hz0 hz1 hz2 rfl (by decide) v l.length (l.map byteV) hs hb'.1 ⟨w0.heap.size, 0, none⟩ 1 1 [byteV b] hx rfl (one_new w0 _ _) (byte_one b) (by unfold maxLen; omega) (by omega) hb'.2.2 ?_
  intro v' w' ho' hg _
  refine h v' w' ?_ (Others.of_grown hg)
  have := Lib.OwnBuf.grown hb' ho' hg
  unfold BytesOwn
  rw [List.length_append, List.map_append]
  exact this

theorem strCells_str (d : List UInt8) : Lib.strCells (str d) = d.map byteV := rfl
theorem wp_text {ops : Array Oper} {rest : List Oper} {o : Oper} {a : Act} {Q : Exit → Act → World → Prop} (hgd : o.guard = none) (s x : Operand)
    (ho : o.op = .call { callee := .builtin .append, args := #[s, x], argTypes := #[90, 9] })
    (B : Nat) (v : Value) (l : List UInt8) (hs : a.eval s = v) (W0 w0 : World) (d : List UInt8) (hb : BytesOwn B v l W0 w0)
    (hx : a.eval x = .string (str d)) (hlen : l.length ≤ 1099511627776) (hlen2 : d.length ≤ 1099511627776)
    (h : ∀ v' w', BytesOwn B v' (l ++ d) W0 w' → Others v w0 w' → wpList Tryz.prog ops Q rest (a.put o.dst v') w') : wpList Tryz.prog ops Q (o :: rest) a w0 := by
  obtain ⟨i0, hi, hz0, hz1, hz2⟩ := info_parts infoU8
  have hsz : (str d).size = d.length := rfl
  refine Lib.wpList_append_own_stringF _ hgd s x 90 9 ho B 5 i0 Tryz.underlying90 Tryz.underlying9 hi hz0 hz1 hz2 v l.length (l.map byteV) hs hb.1 (str d) hx (by unfold maxLen; omega) (by omega) hb.2.2 ?_
  intro v' w' ho' hg _
  refine h v' w' ?_ (Others.of_grown hg)
  have := Lib.OwnBuf.grown hb ho' hg
  unfold BytesOwn
  rw [List.length_append, List.map_append]
  exact this

/-- A box laid for the call is no part of the row. -/
theorem OvBlk.new (o : M.Opt) (w : World) : OvBlk o w.heap.size (w.alloc (OvBox o)) := heap_alloc_new w _
theorem OvBlk.alloc {o : M.Opt} {C : Nat} {w : World} (a : OvBlk o C w) (b : Obj) : OvBlk o C (w.alloc b) := by
  unfold OvBlk at *
  rcases Nat.lt_or_ge C w.heap.size with hlt | hge
  · rw [Below.heap_alloc _ _ _ hlt]; exact a
  · rw [Array.getElem?_eq_none hge] at a; cases a

set_option maxHeartbeats 1000000 in
theorem optPut1_any (B : Nat) (v : Value) (l : List UInt8) (o : M.Opt) (W0 w : World) (hb : BytesOwn B v l W0 w) (hm : M.optMay o = true) (hl : l.length ≤ 1099511627000) :
    Calls Tryz.prog 260 #[v, Ov o] w fun e w' => ∃ v', e = .returned v' ∧ BytesOwn B v' (l ++ M.optBytes o) W0 w' := by
  have hmay := of_decide_eq_true hm
  have HO : Hid (M.optBytes o = if o.t < 32 then [UInt8.ofNat o.t.toNat] else UInt8.ofNat o.t.toNat :: UInt8.ofNat (2 + o.d.length) :: o.d) := Lib.hid rfl
  have HC0 := Lib.hid (OvBlk.new o w)
  have HNE := Lib.hid (hb.ne (Nat.le_refl _))
  unfold OvBox at HC0
  unfold Ov
  have hob : OvBox o = .cells #[.int .i64 o.t, .string (str o.d)] 106 := rfl
  obtain ⟨n, hn⟩ : ∃ n : Nat, o.t = n := ⟨o.t.toNat, by omega⟩
  obtain ⟨b, hbb⟩ : ∃ b, UInt8.ofNat n = b := ⟨_, rfl⟩
  have hbn : (n : Int) = (b.toNat : Int) := by rw [← hbb]; simp; omega
  have hon : o.t.toNat = n := by omega
  rw [hon, hn, hbb] at HO
  rw [hn] at HC0 ⊢
  have hn0 : n ≤ 255 := by omega
  have HB := Lib.hid hb; have HBN := Lib.hid hbn; have HBB := Lib.hid hbb
  have HL := Lib.hid (fun w => isLong_any n w)
  by_cases h3 : n < 32
  · rw [decide_eq_false (by omega)] at HL
    rw [if_pos (by omega)] at HO
    have HN := Lib.hid hn
    clear hb hbn hbb hon hn hob hmay hm
    go_enter Tryz.func260, Tryz.ntmps260
    go_upto_region 2 with (at_builtin; refine wp_byte rfl _ _ rfl B v l rfl W0 _ _ b HBN.out (HB.out.alloc _) _ (by simp) rfl (by omega) ?_; intro v1 w1 hb1 hk1)
    have hc1 : OvBlk o w.heap.size w1 := ((show OvBlk o w.heap.size _ by unfold OvBlk OvBox; rw [HN.out]; unfold OvBlk OvBox at HC0; rw [HN.out] at HC0; exact HC0.out).alloc _).others hk1 HNE.out
    have c0 := hc1.cells.1
    rw [HN.out] at c0
    have HB1 := Lib.hid hb1
    clear hb1 hk1 hc1
    go_wp2_with (go_at_call 291; refine (HL.out _).mono ?_; rintro e w' ⟨rfl, rfl⟩)
    go_ret
    exact ⟨_, rfl, by rw [HO.out]; exact HB1.out⟩
  · rw [decide_eq_true (by omega)] at HL
    rw [if_neg (by omega)] at HO
    have hk253 : (str o.d).size ≤ 253 := by show o.d.length ≤ 253; omega
    obtain ⟨s, hs⟩ : ∃ s, str o.d = s := ⟨_, rfl⟩
    obtain ⟨b2, hbb2⟩ : ∃ b, UInt8.ofNat (2 + o.d.length) = b := ⟨_, rfl⟩
    have hss : s.size = o.d.length := by rw [← hs]; rfl
    rw [hs] at HC0 hk253 ⊢
    have hbn2 : 2 + (s.size : Int) = (b2.toNat : Int) := by rw [← hbb2, hss]; simp; omega
    rw [hbb2] at HO
    have HBN2 := Lib.hid hbn2; have HS := Lib.hid hs
    have hd3 : o.d.length ≤ 253 := by omega
    have HN := Lib.hid hn
    clear hb hbn hbb hon hn hob hmay hm hbn2 hbb2 hss hs
    go_enter Tryz.func260, Tryz.ntmps260
    go_upto_region 2 with (at_builtin; refine wp_byte rfl _ _ rfl B v l rfl W0 _ _ b HBN.out (HB.out.alloc _) _ (by simp) rfl (by omega) ?_; intro v1 w1 hb1 hk1)
    have hc1 : OvBlk o w.heap.size w1 := ((show OvBlk o w.heap.size _ by unfold OvBlk OvBox; rw [HN.out, HS.out]; unfold OvBlk OvBox at HC0; rw [HN.out, HS.out] at HC0; exact HC0.out).alloc _).others hk1 HNE.out
    have c0 := hc1.cells.1
    have c1 := hc1.cells.2
    rw [HN.out] at c0
    rw [HS.out] at c1
    have hlen1 : (l ++ [b]).length ≤ 1099511627776 := by simp; omega
    have HNE1 := Lib.hid (hb1.ne_ov hc1)
    have HB1 := Lib.hid hb1; have HC1 := Lib.hid hc1; have HLEN1 := Lib.hid hlen1
    clear hb1 hk1 hc1 hlen1
    go_upto_region 4 with (first
      | (go_at_call 291; refine (HL.out _).mono ?_; rintro e w' ⟨rfl, rfl⟩)
      | (at_builtin; refine wp_byte rfl _ _ rfl B v1 (l ++ [b]) rfl W0 _ _ b2 HBN2.out HB1.out _ rfl rfl HLEN1.out ?_; intro v2 w2 hb2 hk2))
    have hc2 : OvBlk o w.heap.size w2 := (HC1.out.alloc _).others hk2 HNE1.out
    have c2 := hc2.cells.2
    rw [HS.out] at c2
    have hlen2 : (l ++ [b] ++ [b2]).length ≤ 1099511627776 := by simp; omega
    have HB2 := Lib.hid hb2; have HLEN2 := Lib.hid hlen2
    clear hb2 hk2 hc2 hlen2 c0 c1
    go_wp2_with (at_builtin; refine wp_text rfl _ _ rfl B v2 (l ++ [b] ++ [b2]) rfl W0 _ o.d HB2.out (by rw [HS.out]; rfl) HLEN2.out (by omega) ?_; intro v3 w3 hb3 hk3)
    go_ret
    exact ⟨_, rfl, by rw [HO.out]; simpa using hb3⟩
end Go.Proofs.YtnhlachoimlhhaaGreatDoor

namespace Go.Proofs.YtnhlachoimlhhaaGreatDoor
open Go.ChangeShapes Go.WideShapes Go.ChangeAt Go.RowKit
set_option linter.unusedVariables false

theorem BytesOwn.shape {B : Nat} {v : Value} {l : List UInt8} {W0 w : World} (h : BytesOwn B v l W0 w) : ∃ p cap, v = .slice p l.length cap := by
  rcases h.1.2 with ⟨rfl, h0⟩ | ⟨g, cap, cur, fz, rfl, _⟩
  · exact ⟨none, 0, by rw [h0]⟩
  · exact ⟨_, _, rfl⟩

theorem BytesOwn.conv {B : Nat} {v : Value} {l : List UInt8} {W0 w : World} (h : BytesOwn B v l W0 w) : (convert 90 9 v).run Tryz.prog w = .ok (.string (str l)) w := by
  rcases h.1.2 with ⟨rfl, h0⟩ | ⟨g, cap, cur, fz, rfl, _, hg, _, _, _, _, ht⟩
  · rw [List.eq_nil_of_length_eq_zero h0]
    exact run_convert_bytes_nil w 90 5 Tryz.underlying90 Tryz.underlying5 0 0 9 Tryz.underlying9
  · refine run_convert_bytes_back w 90 9 5 ⟨g, 0, none⟩ cap l Tryz.underlying90 Tryz.underlying5 Tryz.underlying9 (fun j hj => ?_)
    have e := cell_of_row w g (0 + j) cur _ _ hg
    rw [show (⟨g, 0, none⟩ : Addr).add j = ⟨g, 0 + j, none⟩ from by simp [Addr.add]; exact fun h => h.symm, e, Nat.zero_add]
    rw [Nat.mul_one] at ht
    have h9 : cur.toList[j]? = (l.map byteV)[j]? := by
      rw [← ht, List.getElem?_take_of_lt hj]
    rw [← Array.getElem?_toList, h9]
    simp [hj, byteV]

/-- A slice of options, as it stands in memory. -/
structure OptsAt (w : World) (v : Value) (os : List M.Opt) : Prop where
  at_ : (os = [] ∧ ∃ a cap, v = .slice a 0 cap) ∨ ∃ b o cap, v = .slice (some ⟨b, o, none⟩) os.length cap ∧ b < w.heap.size ∧
    ∀ i, i < os.length → w.cell? ⟨b, o + i * 2, none⟩ = some (.int .i64 (os.getD i ⟨0, []⟩).t) ∧ w.cell? ⟨b, o + i * 2 + 1, none⟩ = some (.string (str (os.getD i ⟨0, []⟩).d))
  len : os.length ≤ 1073741824
  data : ∀ o ∈ os, o.d.length ≤ maxLen

theorem OptsAt.below {w w' : World} {v : Value} {os : List M.Opt} (h : OptsAt w v os) (hb : Below w.heap.size w w') : OptsAt w' v os := by
  refine ⟨?_, h.len, h.data⟩
  rcases h.at_ with h1 | ⟨b, o, cap, h1, h2, h3⟩
  · exact .inl h1
  · refine .inr ⟨b, o, cap, h1, Nat.lt_of_lt_of_le h2 hb.size, fun i hi => ?_⟩
    rw [hb.cell (p := ⟨b, o + i * 2, none⟩) h2, hb.cell (p := ⟨b, o + i * 2 + 1, none⟩) h2]
    exact h3 i hi

theorem take_snocO (os : List M.Opt) (k : Nat) (h : k < os.length) : os.take (k + 1) = os.take k ++ [os.getD k ⟨0, []⟩] := by
  rw [List.take_succ_eq_append_getElem h, List.getD_eq_getElem?_getD, List.getElem?_eq_getElem h]; rfl

def lenOf : Value → Nat
  | .slice _ n _ => n
  | _ => 0

theorem pad_len (n j : Nat) (hj : j < M.padLen n) : (n + j) % 4 ≠ 0 := by unfold M.padLen at hj; omega
theorem rep_snoc (l : List UInt8) (j : Nat) : l ++ List.replicate j 0 ++ [0] = l ++ List.replicate (j + 1) 0 := by
  rw [List.append_assoc, List.replicate_succ']

/-- The end of opt.Put: the bytes are padded, and a text is made of them. -/
def PutEnd (W0 : World) (l : List UInt8) (e : Ending) (w' : World) : Prop := e = .returned (.string (str l)) ∧ Below W0.heap.size W0 w'

set_option maxHeartbeats 1000000 in
set_option maxRecDepth 100000 in
theorem optPut_none (a : Option Addr) (cap : Nat) (w : World) :
    Calls Tryz.prog 232 #[.slice a 0 cap] w (PutEnd w []) := by
  have hconv := (BytesOwn.nil w).conv
  go_enter Tryz.func232, Tryz.ntmps232
  go_wp2
  go_loop [3, 8] (fun u k => u = .slice none 0 0 ∧ k = .int .i64 0) (fun _ k => (0 - intOf k).toNat)
  case atStart => exact ⟨rfl, rfl⟩
  case round =>
    obtain ⟨rfl, rfl⟩ := hrel
    go_wp2
    refine wp_loop_rounds 1 ?_
    rw [rounds_succ]
    go_wp2
    go_ret
    exact ⟨rfl, Below.refl _ _⟩

set_option maxHeartbeats 4000000 in
set_option maxRecDepth 100000 in
theorem optPut_some (b o cap : Nat) (os : List M.Opt) (w : World) (hb : b < w.heap.size)
    (hc : ∀ i, i < os.length → w.cell? ⟨b, o + i * 2, none⟩ = some (.int .i64 (os.getD i ⟨0, []⟩).t) ∧ w.cell? ⟨b, o + i * 2 + 1, none⟩ = some (.string (str (os.getD i ⟨0, []⟩).d)))
    (hlen : os.length ≤ 1073741824) (hdata : ∀ o ∈ os, o.d.length ≤ maxLen) :
    Calls Tryz.prog 232 #[.slice (some ⟨b, o, none⟩) os.length cap] w (PutEnd w (M.putOpts os)) := by
  have HC := Lib.hid hc; have HD := Lib.hid hdata; have HBW := Lib.hid hb
  have HP : Hid (M.putOpts os = if os.all M.optMay = true then M.pad4 (M.optsBytes os) else []) := Lib.hid rfl
  have HNIL := Lib.hid (BytesOwn.nil w)
  clear hc hdata hb
  go_enter Tryz.func232, Tryz.ntmps232
  go_wp2
  go_loopw [3, 8] (fun v i wr => ∃ k : Nat, k ≤ os.length ∧ i = .int .i64 k ∧ Hid (BytesOwn w.heap.size v (M.optsBytes (os.take k)) w wr) ∧ Hid ((os.take k).all M.optMay = true)) (fun _ i _ => os.length - (intOf i).toNat)
  case atStart => exact ⟨0, Nat.zero_le _, rfl, Lib.hid (by simpa [M.optsBytes] using HNIL.out), Lib.hid (by simp)⟩
  case round =>
    obtain ⟨k, hk, rfl, hown, hall⟩ := hrel
    by_cases hkn : k < os.length
    · have hlk := M.optsBytes_len _ hall.out
      rw [List.length_take, Nat.min_eq_left hk] at hlk
      have hts := take_snocO os k hkn
      obtain ⟨hc0, hc1⟩ := HC.out k hkn
      have hdk : (os.getD k ⟨0, []⟩).d.length ≤ maxLen := by
        rw [List.getD_eq_getElem?_getD, List.getElem?_eq_getElem hkn]
        exact HD.out _ (List.getElem_mem hkn)
      generalize hok : os.getD k ⟨0, []⟩ = ok at *
      have HTS := Lib.hid hts
      have c0 : wr.cell? ⟨b, o + k * 2, none⟩ = some (.int .i64 ok.t) := by rw [hown.out.bel.cell (p := ⟨b, o + k * 2, none⟩) HBW.out]; exact hc0
      have c1 : wr.cell? ⟨b, o + k * 2 + 1, none⟩ = some (.string (str ok.d)) := by rw [hown.out.bel.cell (p := ⟨b, o + k * 2 + 1, none⟩) HBW.out]; exact hc1
      have HM := Lib.hid (fun w => optMay_any ok w (by unfold maxLen at hdk; omega))
      unfold Ov at HM
      clear hts hok hc0 hc1 hdk
      by_cases hm : M.optMay ok = true
      · have HMM := Lib.hid hm
        rw [hm] at HM
        clear hm
        go_upto_region 7 with (go_at_call 259; refine (HM.out _).mono ?_; rintro e w1 ⟨rfl, hb1⟩)
        have ho1 : OvBlk ok wr.heap.size w1 := by
          unfold OvBlk
          rw [hb1.block _ (by simp)]
          exact OvBlk.new ok wr
        obtain ⟨d0, d1⟩ := ho1.cells
        have HB1 := Lib.hid ((hown.out.alloc (OvBox ok)).kept hb1)
        have hlm : (M.optsBytes (os.take k)).length ≤ 1099511627000 := by omega
        have HPT := Lib.hid (optPut1_any _ _ _ ok w w1 HB1.out HMM.out hlm)
        unfold Ov at HPT
        clear hb1 ho1 c0 c1 hlk hlm
        go_wp2_with (go_at_call 260; refine HPT.out.mono ?_; rintro e w2 ⟨v2, rfl, hb2⟩)
        refine ⟨⟨k + 1, by omega, by go_num, Lib.hid ?_, Lib.hid ?_⟩, by simp [intOf]; omega⟩
        · rw [HTS.out, M.optsBytes_snoc]; exact hb2
        · rw [HTS.out, List.all_append, hall.out]; simp [HMM.out]
      · have HMM := Lib.hid (Bool.eq_false_iff.2 hm)
        rw [Bool.eq_false_iff.2 hm] at HM
        clear hm
        go_wp2_with (go_at_call 259; refine (HM.out _).mono ?_; rintro e w1 ⟨rfl, hb1⟩)
        go_ret
        have hpo : M.putOpts os = [] := by
          rw [HP.out, if_neg]
          intro hh
          have h2 : (os.take (k + 1)).all M.optMay = true := by
            rw [List.all_eq_true] at hh ⊢
            exact fun x hx => hh x (List.mem_of_mem_take hx)
          rw [HTS.out, List.all_append] at h2
          simp [HMM.out] at h2
        refine ⟨by rw [hpo]; rfl, ?_⟩
        exact (hown.out.bel.alloc hown.out.2.2 _).trans (hb1.mono (by have := hown.out.2.2; simp; omega))
    · obtain rfl : k = os.length := by omega
      have hlk := M.optsBytes_len _ hall.out
      rw [List.take_length] at hown hall hlk
      have HPE : Hid (M.putOpts os = M.pad4 (M.optsBytes os)) := Lib.hid (by rw [HP.out, if_pos hall.out])
      clear HP HNIL HC HD
      generalize M.optsBytes os = l at *
      have hpl := M.padLen_lt l.length
      obtain ⟨p0, cap0, rfl⟩ := hown.out.shape
      go_wp2
      go_loopw [3] (fun u wx => ∃ j : Nat, j ≤ M.padLen l.length ∧ Hid (BytesOwn w.heap.size u (l ++ List.replicate j 0) w wx)) (fun u _ => (4 - lenOf u % 4) % 4)
      case atStart => exact ⟨0, Nat.zero_le _, Lib.hid (by simpa using hown.out)⟩
      case round =>
        obtain ⟨j, hj, hown2⟩ := hrel
        obtain ⟨p1, cap1, hu⟩ := hown2.out.shape
        subst hu
        have hll : (l ++ List.replicate j (0 : UInt8)).length = l.length + j := by simp
        rw [hll]
        rw [hll] at hown2
        by_cases hjp : j < M.padLen l.length
        · have hne := pad_len _ _ hjp
          have hne2 : (((l.length + j : Nat) : Int) % 4 != 0) = true := by rw [bne_iff_ne]; omega
          rw [← hll] at hne2 hown2 ⊢
          have hlen4 : (l ++ List.replicate j (0 : UInt8)).length ≤ 1099511627776 := by omega
          generalize hll2 : l ++ List.replicate j (0 : UInt8) = l2 at *
          have HLL := Lib.hid hll2; have HLL1 := Lib.hid hll
          clear hll hll2 hlk hne
          go_wp2_with (at_builtin; refine wp_byte rfl _ _ rfl _ _ l2 rfl w _ _ 0 (by simp) hown2.out _ rfl rfl hlen4 ?_; intro v1 w1 hb1 hk1)
          obtain ⟨p2, cap2, hv1⟩ := hb1.shape
          rw [← HLL.out, rep_snoc] at hb1
          have hl2 : l2.length = l.length + j := HLL1.out
          have hpe := M.padLen_mod l.length
          have e1 : lenOf v1 = l.length + j + 1 := by rw [hv1]; show (l2 ++ [0]).length = _; simp [hl2]
          have hpd : M.padLen l.length = (4 - l.length % 4) % 4 := rfl
          refine ⟨⟨j + 1, by omega, Lib.hid hb1⟩, ?_⟩
          rw [e1]
          show (4 - (l.length + j + 1) % 4) % 4 < (4 - l2.length % 4) % 4
          rw [hl2]
          omega
        · obtain rfl : j = M.padLen l.length := by omega
          have hz := M.padLen_mod l.length
          have hne2 : (((l.length + M.padLen l.length : Nat) : Int) % 4 != 0) = false := by rw [bne_eq_false_iff_eq]; omega
          have hconv := hown2.out.conv
          have HPD : Hid (M.putOpts os = l ++ List.replicate (M.padLen l.length) 0) := HPE
          clear hll hlk hz
          go_wp2
          go_ret
          exact ⟨ret_str (by rw [HPD.out]), hown2.out.bel⟩
end Go.Proofs.YtnhlachoimlhhaaGreatDoor
