/-
  What pkt.Get answers: the plain functions; a packet's cells.
  pkt.Get's walk.
-/
import Derived.Test.YtbiglbclifbmhaaGreatDoorPkA
import Derived.StillTailTactics
import Derived.BigQuiet
namespace Go.Proofs.YtbiglbclifbmhaaGreatDoor
open Go.ChangeShapes Go.WideShapes Go.ChangeAt Go.RowKit
set_option linter.unusedVariables false

def getOff (l : List UInt8) : Nat := byteAt l 4 * 4
def getSize (l : List UInt8) : Nat := sizeN (getHd l).type (getHd l).x
def getCov (l : List UInt8) : Int := covI l.length (getOff l : Nat) (getHd l).cs
def getOs (l : List UInt8) : Option (List M.Opt) := M.getOpts ((l.take (getOff l)).drop (getSize l))
/-- Which error pkt.Get answers; 0: none. -/
def getErr (l : List UInt8) : Nat :=
  if 2500 < l.length then 13 else if faultN l ≠ 0 then faultN l
  else if covB l.length (getOff l : Nat) (getHd l).cs = false then 5
  else if M.sum16 (l.take (getCov l).toNat) ≠ 0 then 6
  else if getOs l = none then 7 else 0

theorem getHd_off {l : List UInt8} (h : 12 ≤ l.length) : (getHd l).off = (byteAt l 4 : Nat) ∧ (getHd l).cs = (byteAt l 5 % 16 : Nat) ∧ (getHd l).type = (hType l : Nat) ∧ (getHd l).x = hX l := by
  have e4 := byteAt_num l 4 (by omega)
  have e5 := byteAt_num l 5 (by omega)
  have e8 := byteAt_num l 8 (by omega)
  have h0 : (getHd l).off = (hd0 l).off ∧ (getHd l).cs = (hd0 l).cs ∧ (getHd l).type = (hd0 l).type ∧ (getHd l).x = (hd0 l).x := by
    unfold getHd Hd.withExtras
    split
    · exact ⟨rfl, rfl, rfl, rfl⟩
    · split
      · exact ⟨rfl, rfl, rfl, rfl⟩
      · exact ⟨rfl, rfl, rfl, rfl⟩
  rw [h0.1, h0.2.1, h0.2.2.1, h0.2.2.2]
  unfold hd0 hType hX
  refine ⟨?_, ?_, ?_, ?_⟩ <;> simp [e4, e5, e8]

/-- Where nothing is wrong with a head the data begin behind it and within the bytes. -/
theorem fault_facts {l : List UInt8} (hf : faultN l = 0) : 12 ≤ l.length ∧ sizeN (hType l) (hX l) ≠ 0 ∧ sizeN (hType l) (hX l) ≤ getOff l ∧ getOff l ≤ l.length ∧ hType l ≤ 9 := by
  have h4 := sizeN_four (hType l) (hX l)
  unfold faultN at hf
  unfold getOff
  by_cases h1 : l.length < 12
  · rw [if_pos h1] at hf; cases hf
  rw [if_neg h1] at hf
  by_cases h2 : 9 < hType l
  · rw [if_pos h2] at hf; cases hf
  rw [if_neg h2] at hf
  by_cases h3 : sizeN (hType l) (hX l) = 0
  · rw [if_pos h3] at hf; cases hf
  rw [if_neg h3] at hf
  by_cases h5 : l.length < sizeN (hType l) (hX l)
  · rw [if_pos h5] at hf; cases hf
  rw [if_neg h5] at hf
  by_cases h6 : byteAt l 4 < sizeN (hType l) (hX l) / 4 ∨ l.length < byteAt l 4 * 4
  · rw [if_pos h6] at hf; cases hf
  exact ⟨by omega, h3, by omega, by omega, by omega⟩

theorem infoPk : (Tryz.prog.info? 156).map (·.size) = some 17 := by kernel_rfl
theorem pkCells_one (h : Hd) (a : Option Addr) (n c : Nat) (s : ByteArray) : (pkCells h (.slice a n c) s).all (·.oneCell') = true := by simp [pkCells, Value.oneCell']
theorem store_pk {ops : Array Oper} {rest : List Oper} {o : Oper} {a : Act} {w : World} {Q : Exit → Act → World → Prop} (hgd : o.guard = none) (x y : Operand) (ho : o.op = .store 156 x y)
    (C : Nat) (h h2 : Hd) (v : Value) (s s2 : ByteArray) (va : Option Addr) (vn vc : Nat) (hx : a.eval x = .pointer (some ⟨C, 0, none⟩)) (hy : a.eval y = Pv h2 (.slice va vn vc) s2) (hb : PkBlk h v s C w)
    (hh : ∀ w', PkBlk h2 (.slice va vn vc) s2 C w' → w.grownBy w' (some C) → wpList Tryz.prog ops Q rest (a.put o.dst undef) w') : wpList Tryz.prog ops Q (o :: rest) a w :=
  wpList_store_row hgd 156 x y ho C (pkCells h2 (.slice va vn vc) s2) hx hy 156 (pkCells h v s) hb infoPk rfl (pkCells_one _ _ _ _ _) (hh _ (setRow_heap w C _ _ _ _ hb) (grown_setRow _ _ _))
theorem load_pkv {h : Hd} {v : Value} {s : ByteArray} {C : Nat} {w : World} (a : PkBlk h v s C w) : (loadVar 156 ⟨C, 0, none⟩).run Tryz.prog w = .ok (Pv h v s) w :=
  run_loadVar_row (P := Tryz.prog) w C 156 156 (pkCells h v s) (0, 0) _ a Tryz.underlying156 rfl infoPk
theorem get_end {h : Hd} {v : Value} {s : ByteArray} {C : Nat} {n : Int} {tmps : Array Value} {w : World} (a : PkBlk h v s C w) (hp : tmps.getD 2 undef = .pointer (some ⟨C, 0, none⟩)) (hq : tmps.getD 3 undef = .int .i64 n) :
    (results Tryz.f96 tmps).run Tryz.prog w = .ok (.tuple #[Pv h v s, .int .i64 n]) w := by
  rw [results_pair (fn := Tryz.f96) Tryz.results96 tmps w C (pkCells h v s) hp (load_pkv a), hq]; rfl

/-- The zero packet, as a new block lays it. -/
def Pv0 : Value := Pv Hd.zero (.slice none 0 0) ⟨#[]⟩

/-- What pkt.Get answers of bytes. -/
def GetPk (w : World) (l : List UInt8) (e : Ending) (w' : World) : Prop :=
  Below w.heap.size w w' ∧ (getErr l ≠ 0 → e = .returned (.tuple #[Pv0, .int .i64 (getErr l)])) ∧
    (getErr l = 0 → ∃ v os, getOs l = some os ∧ e = .returned (.tuple #[Pv (getHd l) v (str (l.drop (getOff l))), .int .i64 0]) ∧ OptsOwn w.heap.size v os w w')

/-- How far pkt.Get has come: the result at block Z, the head at block C. -/
structure GSt (w : World) (Z C : Nat) (g : Hd) (W : World) : Prop where
  pk : PkBlk Hd.zero (.slice none 0 0) ⟨#[]⟩ Z W
  hd : HdBlk g C W
  ne : Z ≠ C
  bel : Below w.heap.size w W
  zge : w.heap.size ≤ Z
  cge : w.heap.size ≤ C
theorem GSt.below {w : World} {Z C : Nat} {g : Hd} {W W' : World} (a : GSt w Z C g W) (hb : Below W.heap.size W W') : GSt w Z C g W' :=
  ⟨a.pk.below hb, a.hd.below hb, a.ne, a.bel.trans (hb.mono a.bel.size), a.zge, a.cge⟩
end Go.Proofs.YtbiglbclifbmhaaGreatDoor

namespace Go.Proofs.YtbiglbclifbmhaaGreatDoor
open Go.ChangeShapes Go.WideShapes Go.ChangeAt Go.RowKit
set_option linter.unusedVariables false

theorem hd_new : ∀ w : World, HdBlk Hd.zero w.heap.size (w.alloc (Obj.cells #[Value.int IntKind.i64 0, Value.int IntKind.i64 0, Value.int IntKind.i64 0, Value.int IntKind.i64 0, Value.int IntKind.i64 0, Value.int IntKind.i64 0, Value.int IntKind.i64 0, Value.bool false, Value.int IntKind.u64 0, Value.int IntKind.u64 0, Value.int IntKind.u32 0, Value.int IntKind.i64 0, Value.int IntKind.u8 0, Value.int IntKind.u8 0, Value.int IntKind.u8 0] 151)) := fun w => heap_alloc_new w _
def pk0 : Obj := Obj.cells #[Value.int IntKind.i64 0, Value.int IntKind.i64 0, Value.int IntKind.i64 0, Value.int IntKind.i64 0, Value.int IntKind.i64 0, Value.int IntKind.i64 0, Value.int IntKind.i64 0, Value.bool false, Value.int IntKind.u64 0, Value.int IntKind.u64 0, Value.int IntKind.u32 0, Value.int IntKind.i64 0, Value.int IntKind.u8 0, Value.int IntKind.u8 0, Value.int IntKind.u8 0, Value.slice none 0 0, Value.string ⟨#[]⟩] 156
theorem pk_new (w : World) : PkBlk Hd.zero (.slice none 0 0) ⟨#[]⟩ w.heap.size (w.alloc pk0) := heap_alloc_new w _

theorem get_bad {w : World} {l : List UInt8} {w' : World} {e : Ending} {n : Nat} (hb : Below w.heap.size w w') (hn : getErr l = n) (hn0 : n ≠ 0) (he : e = .returned (.tuple #[Pv0, .int .i64 n])) : GetPk w l e w' :=
  ⟨hb, fun _ => by rw [hn]; exact he, fun h => absurd (hn.symm.trans h) hn0⟩

def GotOs (W : World) (os : List M.Opt) (e : Ending) (w' : World) : Prop := ∃ p n cap, e = .returned (.tuple #[.slice p n cap, .int .i64 0]) ∧ OptsOwn W.heap.size (.slice p n cap) os W w'
theorem optGet_yes {l : List UInt8} {os : List M.Opt} (hl : l.length ≤ 1073741824) (h : M.getOpts l = some os) (W : World) : Calls Tryz.prog 126 #[.string (str l)] W (GotOs W os) :=
  (optGet_any l hl W).mono fun e w' hh => by
    rw [h] at hh
    obtain ⟨hb, v, he, ho⟩ := hh
    rcases ho.1.2 with ⟨rfl, h0⟩ | ⟨g, cap, cur, rfl, _⟩
    · exact ⟨none, 0, 0, he, ho⟩
    · exact ⟨_, _, cap, he, ho⟩
theorem optGet_no {l : List UInt8} (hl : l.length ≤ 1073741824) (h : M.getOpts l = none) (W : World) : Calls Tryz.prog 126 #[.string (str l)] W fun e w' => e = .returned (.tuple #[.slice none 0 0, .int .i64 7]) ∧ Below W.heap.size W w' :=
  (optGet_any l hl W).mono fun e w' hh => by
    rw [h] at hh
    exact ⟨hh.2, hh.1⟩

theorem OptsOwn.lower {B B2 : Nat} {v : Value} {os : List M.Opt} {W0 W1 w w' : World} {Z : Nat} (h : OptsOwn B v os W1 w) (hB : B2 ≤ B) (hZ : Z < B) (hg : w.drew.grownBy w' (some Z)) (hb : Below B2 W0 w') (hs : B2 ≤ w'.heap.size) : OptsOwn B2 v os W0 w' := by
  have h1 : w.ownsRow B2 153 2 v os.length (ovList os) := by
    refine ⟨h.1.1, ?_⟩
    rcases h.1.2 with h2 | ⟨g, cap, cur, hv, hbg, r⟩
    · exact .inl h2
    · exact .inr ⟨g, cap, cur, hv, Nat.le_trans hB hbg, r⟩
  have h2 : w.drew.ownsRow B2 153 2 v os.length (ovList os) := h1
  refine ⟨h2.kept hg ?_, hb, hs⟩
  cases hv : v.ownBlock with
  | none => exact .inl rfl
  | some k => exact .inr (fun e => by have h3 := (h.lt k hv).1; have h4 := Option.some.inj e; omega)

set_option maxHeartbeats 1600000 in
set_option maxRecDepth 100000 in
theorem pktGet_any (l : List UInt8) (hl : l.length ≤ 1073741824) (w : World) :
    Calls Tryz.prog 96 #[.string (str l)] w (GetPk w l) := by
  have HE : Hid (getErr l = if 2500 < l.length then 13 else if faultN l ≠ 0 then faultN l
    else if covB l.length (getOff l : Nat) (getHd l).cs = false then 5
    else if M.sum16 (l.take (getCov l).toNat) ≠ 0 then 6
    else if getOs l = none then 7 else 0) := Lib.hid rfl
  obtain ⟨s, hs⟩ : ∃ s, str l = s := ⟨_, rfl⟩
  have hsz : s.size = l.length := by rw [← hs]; rfl
  have HS := Lib.hid hs
  have hsl : s.size ≤ 1073741824 := by omega
  have HNEW := Lib.hid (pk_new w)
  have HB0 := Lib.hid (bel_alloc w pk0)
  have hlt0 : w.heap.size < (w.alloc pk0).heap.size := by simp
  unfold pk0 at HNEW HB0 hlt0
  by_cases h13 : 2500 < l.length
  · have HR : Hid (getErr l = 13) := Lib.hid (by rw [HE.out, if_pos h13])
    have hd := decide_eq_true (p := (2500 : Int) < (s.size : Int)) (by omega)
    rw [hs]
    clear hs HE hsz hlt0 h13
    go_enter Tryz.func96, Tryz.ntmps96
    go_upto_region 1 with fail
    generalize hW0 : w.alloc (Obj.cells #[Value.int IntKind.i64 0, Value.int IntKind.i64 0, Value.int IntKind.i64 0, Value.int IntKind.i64 0, Value.int IntKind.i64 0, Value.int IntKind.i64 0, Value.int IntKind.i64 0, Value.bool false, Value.int IntKind.u64 0, Value.int IntKind.u64 0, Value.int IntKind.u32 0, Value.int IntKind.i64 0, Value.int IntKind.u8 0, Value.int IntKind.u8 0, Value.int IntKind.u8 0, Value.slice none 0 0, Value.string ⟨#[]⟩] 156) = W0 at *
    clear hW0
    go_wp2_with (refine store_pk rfl _ _ rfl _ Hd.zero Hd.zero _ _ ⟨#[]⟩ none 0 0 rfl rfl HNEW.out ?_; intro W1 hp1 hg1)
    refine bodyPost_ret (get_end hp1 rfl rfl) rfl (get_bad (HB0.out.grown hg1 HB0.out.size (fun k hk => by cases hk; exact Nat.le_refl _)) HR.out (by decide) rfl)
  · rw [if_neg h13] at HE
    have hd := decide_eq_false (p := (2500 : Int) < (s.size : Int)) (by omega)
    have hl25 : l.length ≤ 2500 := by omega
    by_cases hf : faultN l = 0
    · rw [if_neg (by omega)] at HE
      obtain ⟨hl12, hz0, hzo, hol, ht9⟩ := fault_facts hf
      obtain ⟨g1, g2, g3, g4⟩ := getHd_off hl12
      have HG := Lib.hid (fun W => get_yes l (by omega) W hf)
      have hb4 := byteAt_lt l 4
      have hcsb : (getHd l).cs = ((byteAt l 5 % 16 : Nat) : Int) := g2
      have hoff4 : 4 * (getHd l).off = ((getOff l : Nat) : Int) := by rw [g1]; unfold getOff; omega
      have HCV : Hid (∀ W, Calls Tryz.prog 124 #[(getHd l).val, .int .i64 (s.size : Int)] W fun e w' => e = .returned (.tuple #[.int .i64 (covI l.length (getOff l : Nat) (getHd l).cs), .bool (covB l.length (getOff l : Nat) (getHd l).cs)]) ∧ Below W.heap.size W w') := Lib.hid (fun W => by
        have hh := covered_hd (getHd l) (s.size : Int) W (by omega) (by omega) (by rw [g1]; omega) (by rw [g1]; omega) (by rw [hcsb]; omega) (by rw [hcsb]; omega)
        rw [hoff4, hsz] at hh
        rw [hsz]
        exact hh)
      have HSZ := Lib.hid (fun W => size_any (getHd l).type (getHd l).x W)
      have HSZE : Hid (sizeN (getHd l).type (getHd l).x = getSize l) := Lib.hid rfl
      have hso : getSize l ≤ getOff l := by unfold getSize; rw [g3, g4]; exact hzo
      have hgo : getOff l ≤ s.size := by omega
      rw [hs] at HG ⊢
      have HOFF4 : Hid ((getHd l).off = (byteAt l 4 : Nat) ∧ getOff l = byteAt l 4 * 4) := Lib.hid ⟨g1, rfl⟩
      have HCI : Hid (covB l.length (getOff l : Nat) (getHd l).cs = true → ∃ k : Nat, k ≤ l.length ∧ covI l.length (getOff l : Nat) (getHd l).cs = (k : Int) ∧ (getCov l).toNat = k) := Lib.hid (by
        intro hc
        have hcl : getCov l = covI l.length (getOff l : Nat) (getHd l).cs := rfl
        rw [hcl]
        unfold covB at hc
        have hc2 := of_decide_eq_true hc
        unfold covI
        rw [if_neg hc2.1]
        by_cases h0 : (getHd l).cs = 0
        · rw [if_pos h0]; exact ⟨l.length, Nat.le_refl _, rfl, by omega⟩
        · rw [if_neg h0, if_neg (hc2.2.resolve_left h0)]
          have h5 := hc2.2.resolve_left h0
          exact ⟨((getOff l : Nat) + 4 * ((getHd l).cs - 1)).toNat, by omega, by omega, by omega⟩)
      clear hs hsz h13 hf hz0 hzo ht9 g1 g2 g3 g4 hcsb hoff4 hl12
      go_enter Tryz.func96, Tryz.ntmps96
      go_upto_region 1 with fail
      generalize hW0 : w.alloc (Obj.cells #[Value.int IntKind.i64 0, Value.int IntKind.i64 0, Value.int IntKind.i64 0, Value.int IntKind.i64 0, Value.int IntKind.i64 0, Value.int IntKind.i64 0, Value.int IntKind.i64 0, Value.bool false, Value.int IntKind.u64 0, Value.int IntKind.u64 0, Value.int IntKind.u32 0, Value.int IntKind.i64 0, Value.int IntKind.u8 0, Value.int IntKind.u8 0, Value.int IntKind.u8 0, Value.slice none 0 0, Value.string ⟨#[]⟩] 156) = W0 at *
      clear hW0
      go_upto_region 4 with (first
        | (go_at_call 125; refine (HG.out _).mono ?_; rintro e W1 ⟨rfl, hb1⟩)
        | (refine store_blk rfl _ _ rfl _ Hd.zero (getHd l) rfl rfl (hd_new _) ?_; intro W2 hc2 hg2))
      have hne : w.heap.size ≠ W1.heap.size := by have := hb1.size; omega
      have hp2 := ((HNEW.out.below hb1).other (World.grownBy_alloc _ _ none) (by simp)).other hg2 (by simpa using hne)
      have b1 := (HB0.out.trans (hb1.mono (Nat.le_of_lt hlt0))).alloc (Nat.le_trans (Nat.le_of_lt hlt0) hb1.size) (Obj.cells #[Value.int IntKind.i64 0, Value.int IntKind.i64 0, Value.int IntKind.i64 0, Value.int IntKind.i64 0, Value.int IntKind.i64 0, Value.int IntKind.i64 0, Value.int IntKind.i64 0, Value.bool false, Value.int IntKind.u64 0, Value.int IntKind.u64 0, Value.int IntKind.u32 0, Value.int IntKind.i64 0, Value.int IntKind.u8 0, Value.int IntKind.u8 0, Value.int IntKind.u8 0] 151)
      have hle : w.heap.size ≤ W1.heap.size := by have := hb1.size; omega
      have b2 := b1.grown hg2 b1.size (fun k hk => by cases hk; exact hle)
      have HST : Hid (GSt w w.heap.size W1.heap.size (getHd l) W2) := Lib.hid ⟨hp2, hc2, hne, b2, Nat.le_refl _, hle⟩
      clear hne hp2 b1 b2 hb1 hg2 hc2 hlt0 hle HNEW HB0 HG
      obtain ⟨Z, hZ⟩ : ∃ Z, Z = w.heap.size := ⟨_, rfl⟩
      have HZ := Lib.hid hZ
      rw [← hZ] at HST ⊢
      generalize W1.heap.size = C at *
      clear hZ
      by_cases hcv : covB l.length (getOff l : Nat) (getHd l).cs = true
      · rw [if_neg (by rw [hcv]; decide)] at HE
        obtain ⟨k, hk, hci, hct⟩ := HCI.out hcv
        rw [hcv, hci] at HCV
        rw [hct] at HE
        have hks : k ≤ s.size := by rw [← HS.out]; exact hk
        obtain ⟨E, hE⟩ : ∃ E, str (l.take k) = E := ⟨_, rfl⟩
        have hrun : ∀ W : World, (Instr.slice 9 (.string s) none (some (.int .i64 (k : Int))) none).run Tryz.prog W = .ok (.string E) W := fun W => by
          rw [run_slice_string_h W 9 s Tryz.underlying9 .i64 k (by omega) (by omega)]
          have hx := str_extract l 0 k
          rw [HS.out, List.drop_zero, hE] at hx
          exact congrArg (fun z => Result.ok (Value.string z) W) hx
        have hEs : E.size = k := by rw [← hE]; show (l.take k).length = k; rw [List.length_take]; omega
        have HSUM : Hid (∀ W : World, Calls Tryz.prog 99 #[.slice (some ⟨W.heap.size, 0, none⟩) 1 1] (W.alloc (.cells #[.string E] 9)) fun e w' => e = .returned (.int .i64 (M.sum16 (l.take k))) ∧ (W.alloc (.cells #[.string E] 9)) = w') := Lib.hid (fun W => by
          have hj : M.joined [E] = l.take k := by
            unfold M.joined
            rw [← hE]
            simp [str]
          have hs := sumOf_at (w := W.alloc (.cells #[.string E] 9)) (v := .slice (some ⟨W.heap.size, 0, none⟩) 1 1) (ss := [E]) ⟨.inr ⟨⟨W.heap.size, 0, none⟩, 1, rfl, fun i hi => by
              rw [Addr.add_mid, cell_of_row _ _ _ _ _ _ (heap_alloc_new W _)]
              have : i = 0 := by simp at hi; omega
              rcases this with rfl; rfl⟩, by simp, by
              intro s hs
              simp at hs
              unfold maxLen
              rcases hs with rfl; omega, by
              rw [hj, List.length_take]; omega⟩
          rw [hj] at hs
          exact hs)
        have hs65 : M.sum16 (l.take k) ≤ 65535 := by unfold M.sum16; omega
        clear hcv hci hct hE hEs HCI
        go_upto_region 9 with (first
          | (refine load_blk rfl _ rfl C rfl _ HST.out.hd ?_)
          | (go_at_call 124; (with_reducible refine (HCV.out _).mono ?_); rintro e W8 ⟨rfl, hb8⟩))
        have st8 := HST.out.below hb8
        have st9 := st8.below (bel_alloc W8 (.cells #[.string E] 9))
        have HST9 := Lib.hid st9
        clear st8 st9 hb8 HST HCV
        by_cases h6 : M.sum16 (l.take k) = 0
        · rw [if_neg (by omega)] at HE
          rw [h6] at HSUM
          clear h6 hs65
          go_upto_region 11 with (go_at_call 99; refine (HSUM.out _).mono ?_; rintro e W9 ⟨rfl, rfl⟩)
          generalize W8.alloc (.cells #[.string E] 9) = W9 at *
          have c2 := HST9.out.hd.at_.2.2.1
          have c6 := HST9.out.hd.at_.2.2.2.2.2.2.1
          have c7 := HST9.out.hd.at_.2.2.2.2.2.2.2.1
          have o4 : (4 : Int) * (getHd l).off = ((getOff l : Nat) : Int) := by rw [HOFF4.out.1, HOFF4.out.2]; omega
          clear hrun HSUM
          rw [HSZE.out] at HSZ
          obtain ⟨F, hF⟩ : ∃ F, str ((l.take (getOff l)).drop (getSize l)) = F := ⟨_, rfl⟩
          have hFl : ((l.take (getOff l)).drop (getSize l)).length ≤ 1073741824 := by rw [List.length_drop, List.length_take]; omega
          have HGO : Hid (getOs l = M.getOpts ((l.take (getOff l)).drop (getSize l))) := Lib.hid rfl
          have hrun : ∀ W : World, (Instr.slice 9 (.string s) (some (.int .i64 (getSize l : Nat))) (some (.int .i64 (getOff l : Nat))) none).run Tryz.prog W = .ok (.string F) W := fun W => by
            rw [run_slice_string W 9 s .i64 .i64 _ _ Tryz.underlying9 (by omega) (by omega) (by omega)]
            have hx := str_extract l (getSize l) (getOff l)
            rw [HS.out, hF] at hx
            exact congrArg (fun z => Result.ok (Value.string z) W) hx
          cases hos : getOs l with
          | none =>
            have HR : Hid (getErr l = 7) := Lib.hid (by rw [HE.out, if_pos hos])
            have HN := Lib.hid (fun W => optGet_no hFl (HGO.out.symm.trans hos) W)
            rw [hF] at HN
            generalize getOff l = q at *
            generalize getSize l = z at *
            clear HE hos hF hFl
            go_upto_region 13 with (first
              | (go_at_call 100; refine (HSZ.out _).mono ?_; rintro e W10 ⟨rfl, rfl⟩)
              | (go_at_call 126; refine (HN.out _).mono ?_; rintro e W11 ⟨rfl, hb11⟩))
            have HST11 := Lib.hid (HST9.out.below hb11)
            clear hb11 HST9 c2 c6 c7
            go_wp2_with (refine store_pk rfl _ _ rfl _ Hd.zero Hd.zero _ _ ⟨#[]⟩ none 0 0 rfl rfl HST11.out.pk ?_; intro W3 hp3 hg3)
            refine bodyPost_ret (get_end hp3 rfl rfl) rfl (get_bad (HST11.out.bel.grown hg3 HST11.out.bel.size (fun k hk => by cases hk; exact HST11.out.zge)) HR.out (by decide) rfl)
          | some os =>
            have HR : Hid (getErr l = 0) := Lib.hid (by rw [HE.out, if_neg (by rw [hos]; intro h; cases h)])
            have HN := Lib.hid (fun W => optGet_yes hFl (HGO.out.symm.trans hos) W)
            rw [hF] at HN
            obtain ⟨D, hD⟩ : ∃ D, str (l.drop (getOff l)) = D := ⟨_, rfl⟩
            have hdd := str_drop l (getOff l)
            rw [HS.out, hD] at hdd
            have HD := Lib.hid hD
            have HQ : Hid (getOff l = getOff l) := Lib.hid rfl
            generalize hq : getOff l = q at *
            generalize getSize l = z at *
            have HQ2 := Lib.hid hq
            clear HE hF hFl hD hq HQ
            go_upto_region 15 with (first
              | (go_at_call 100; refine (HSZ.out _).mono ?_; rintro e W10 ⟨rfl, rfl⟩)
              | (go_at_call 126; refine (HN.out _).mono ?_; rintro e W11 ⟨p, n, cap, rfl, ho11⟩))
            have hzl := HST9.out.pk.lt
            have hwl := HST9.out.bel.size
            have st11 := HST9.out.below ho11.2.1
            have HZL := Lib.hid hzl; have HWL := Lib.hid hwl
            clear hzl hwl
            have HO11 := Lib.hid ho11
            have HST11 := Lib.hid st11
            have h1 := st11.hd.at_
            unfold HdAt at h1
            obtain ⟨q0, q1, q2, q3, q4, q5, q6, q7, q8, q9, q10, q11, q12, q13, q14⟩ := h1
            clear ho11 st11 HST9 c2 c6 c7
            go_still_tail 6, (by kernel_rfl)
            change wpList _ _ _ _ _ W11.drew
            have hdr : W11.drew.heap = W11.heap := rfl
            refine store_pk rfl _ _ rfl Z Hd.zero (getHd l) _ _ D p n cap rfl rfl (show PkBlk Hd.zero (.slice none 0 0) ⟨#[]⟩ Z W11.drew from HST11.out.pk) ?_
            intro W3 hp3 hg3
            go_wp2
            have b12 : Below w.heap.size w W11.drew := HST11.out.bel.drew
            have b13 := b12.grown hg3 b12.size (fun k hk => by cases hk; exact HST11.out.zge)
            have ho12 : OptsOwn w.heap.size (.slice p n cap) os w W3 := HO11.out.lower HWL.out HZL.out hg3 b13 b13.size
            refine bodyPost_ret (get_end hp3 rfl rfl) rfl ⟨b13, fun h => absurd HR.out h, fun _ => ⟨.slice p n cap, os, hos, ?_, ho12⟩⟩
            rw [HQ2.out, HD.out]
        · have HR : Hid (getErr l = 6) := Lib.hid (by rw [HE.out, if_pos h6])
          have hbne : (((M.sum16 (l.take k) : Nat) : Int) != 0) = true := by rw [bne_iff_ne]; omega
          generalize M.sum16 (l.take k) = m at *
          clear HE h6
          go_wp2_with (first
            | (go_at_call 99; refine (HSUM.out _).mono ?_; rintro e W9 ⟨rfl, rfl⟩)
            | (refine store_pk rfl _ _ rfl _ Hd.zero Hd.zero _ _ ⟨#[]⟩ none 0 0 rfl rfl HST9.out.pk ?_; intro W3 hp3 hg3))
          refine bodyPost_ret (get_end hp3 rfl rfl) rfl (get_bad (HST9.out.bel.grown hg3 HST9.out.bel.size (fun k hk => by cases hk; exact HST9.out.zge)) HR.out (by decide) rfl)
      · have hcf := Bool.eq_false_iff.2 hcv
        have HR : Hid (getErr l = 5) := Lib.hid (by rw [HE.out, if_pos hcf])
        rw [hcf] at HCV
        generalize covI l.length (getOff l : Nat) (getHd l).cs = N at *
        clear hcv hcf HE HCI
        go_upto_region 7 with (first
          | (refine load_blk rfl _ rfl C rfl _ HST.out.hd ?_)
          | (go_at_call 124; (with_reducible refine (HCV.out _).mono ?_); rintro e W8 ⟨rfl, hb8⟩))
        have HST8 := Lib.hid (HST.out.below hb8)
        clear hb8 HST
        go_wp2_with (refine store_pk rfl _ _ rfl _ Hd.zero Hd.zero _ _ ⟨#[]⟩ none 0 0 rfl rfl HST8.out.pk ?_; intro W3 hp3 hg3)
        refine bodyPost_ret (get_end hp3 rfl rfl) rfl (get_bad (HST8.out.bel.grown hg3 HST8.out.bel.size (fun k hk => by cases hk; exact HST8.out.zge)) HR.out (by decide) rfl)
    · have HR : Hid (getErr l = faultN l) := Lib.hid (by rw [HE.out, if_pos hf])
      have HG := Lib.hid (fun W => get_no l (by omega) W hf)
      have HNZ := Lib.hid hf
      have hbne : (((faultN l : Nat) : Int) != 0) = true := by rw [bne_iff_ne]; omega
      generalize faultN l = f at *
      rw [hs] at HG ⊢
      clear hs HE hsz h13 hf
      go_enter Tryz.func96, Tryz.ntmps96
      go_upto_region 1 with fail
      generalize hW0 : w.alloc (Obj.cells #[Value.int IntKind.i64 0, Value.int IntKind.i64 0, Value.int IntKind.i64 0, Value.int IntKind.i64 0, Value.int IntKind.i64 0, Value.int IntKind.i64 0, Value.int IntKind.i64 0, Value.bool false, Value.int IntKind.u64 0, Value.int IntKind.u64 0, Value.int IntKind.u32 0, Value.int IntKind.i64 0, Value.int IntKind.u8 0, Value.int IntKind.u8 0, Value.int IntKind.u8 0, Value.slice none 0 0, Value.string ⟨#[]⟩] 156) = W0 at *
      clear hW0
      go_upto_region 4 with (first
        | (go_at_call 125; refine (HG.out _).mono ?_; rintro e W1 ⟨rfl, hb1⟩)
        | (refine store_blk rfl _ _ rfl _ Hd.zero Hd.zero rfl rfl (hd_new _) ?_; intro W2 hc2 hg2))
      have hne : w.heap.size ≠ W1.heap.size := by have := hb1.size; omega
      have hp2 := ((HNEW.out.below hb1).other (World.grownBy_alloc _ _ none) (by simp)).other hg2 (by simpa using hne)
      have b1 := (HB0.out.trans (hb1.mono (Nat.le_of_lt hlt0))).alloc (Nat.le_trans (Nat.le_of_lt hlt0) hb1.size) (Obj.cells #[Value.int IntKind.i64 0, Value.int IntKind.i64 0, Value.int IntKind.i64 0, Value.int IntKind.i64 0, Value.int IntKind.i64 0, Value.int IntKind.i64 0, Value.int IntKind.i64 0, Value.bool false, Value.int IntKind.u64 0, Value.int IntKind.u64 0, Value.int IntKind.u32 0, Value.int IntKind.i64 0, Value.int IntKind.u8 0, Value.int IntKind.u8 0, Value.int IntKind.u8 0] 151)
      have hle : w.heap.size ≤ W1.heap.size := by have := hb1.size; omega
      have b2 := b1.grown hg2 b1.size (fun k hk => by cases hk; exact hle)
      have HP2 := Lib.hid hp2; have HB2 := Lib.hid b2
      clear hne hp2 b1 b2 hb1 hg2 hc2 hlt0
      go_wp2_with (refine store_pk rfl _ _ rfl _ Hd.zero Hd.zero _ _ ⟨#[]⟩ none 0 0 rfl rfl HP2.out ?_; intro W3 hp3 hg3)
      refine bodyPost_ret (get_end hp3 rfl rfl) rfl (get_bad (HB2.out.grown hg3 HB2.out.size (fun k hk => by cases hk; exact Nat.le_refl _)) HR.out HNZ.out rfl)
end Go.Proofs.YtbiglbclifbmhaaGreatDoor
