/-
  What pkt.Get answers: the plain functions; a packet's cells.
-/
import Derived.Test.YtdlpapchjjbplaaGreatDoorPktB
import Derived.StillTailTactics
import Derived.BigQuiet
namespace Go.Proofs.YtdlpapchjjbplaaGreatDoor
open Go.ChangeShapes Go.WideShapes Go.ChangeAt Go.RowKit
set_option linter.unusedVariables false

def getOff (l : List UInt8) : Nat := byteAt l 4 * 4
def getSize (l : List UInt8) : Nat := sizeN (getHd l).type (getHd l).x
def getCov (l : List UInt8) : Int := covI l.length (getOff l : Nat) (getHd l).cs
def getOs (l : List UInt8) : Option (List M.Opt) := M.getOpts ((l.take (getOff l)).drop (getSize l))
/-- Which error pkt.Get answers; 0: none. -/
def getErr (l : List UInt8) : Nat :=
  if 2500 < l.length then 13 else if faultN l ≠ 0 then faultN l
  else if covB l.length (getOff l : Nat) (getHd l).cs = false then 5
  else if M.sum16 (l.take (getCov l).toNat) ≠ 0 then 6
  else if getOs l = none then 7 else 0

theorem getHd_off {l : List UInt8} (h : 12 ≤ l.length) : (getHd l).off = (byteAt l 4 : Nat) ∧ (getHd l).cs = (byteAt l 5 % 16 : Nat) ∧ (getHd l).type = (hType l : Nat) ∧ (getHd l).x = hX l := by
  have e4 := byteAt_num l 4 (by omega)
  have e5 := byteAt_num l 5 (by omega)
  have e8 := byteAt_num l 8 (by omega)
  have h0 : (getHd l).off = (hd0 l).off ∧ (getHd l).cs = (hd0 l).cs ∧ (getHd l).type = (hd0 l).type ∧ (getHd l).x = (hd0 l).x := by
    unfold getHd Hd.withExtras
    split
    · exact ⟨rfl, rfl, rfl, rfl⟩
    · split
      · exact ⟨rfl, rfl, rfl, rfl⟩
      · exact ⟨rfl, rfl, rfl, rfl⟩
  rw [h0.1, h0.2.1, h0.2.2.1, h0.2.2.2]
  unfold hd0 hType hX
  refine ⟨?_, ?_, ?_, ?_⟩ <;> simp [e4, e5, e8]

/-- Where nothing is wrong with a head the data begin behind it and within the bytes. -/
theorem fault_facts {l : List UInt8} (hf : faultN l = 0) : 12 ≤ l.length ∧ sizeN (hType l) (hX l) ≠ 0 ∧ sizeN (hType l) (hX l) ≤ getOff l ∧ getOff l ≤ l.length ∧ hType l ≤ 9 := by
  have h4 := sizeN_four (hType l) (hX l)
  unfold faultN at hf
  unfold getOff
  by_cases h1 : l.length < 12
  · rw [if_pos h1] at hf; cases hf
  rw [if_neg h1] at hf
  by_cases h2 : 9 < hType l
  · rw [if_pos h2] at hf; cases hf
  rw [if_neg h2] at hf
  by_cases h3 : sizeN (hType l) (hX l) = 0
  · rw [if_pos h3] at hf; cases hf
  rw [if_neg h3] at hf
  by_cases h5 : l.length < sizeN (hType l) (hX l)
  · rw [if_pos h5] at hf; cases hf
  rw [if_neg h5] at hf
  by_cases h6 : byteAt l 4 < sizeN (hType l) (hX l) / 4 ∨ l.length < byteAt l 4 * 4
  · rw [if_pos h6] at hf; cases hf
  exact ⟨by omega, h3, by omega, by omega, by omega⟩

theorem infoPk : (Tryz.prog.info? 71).map (·.size) = some 17 := by kernel_rfl
theorem pkCells_one (h : Hd) (a : Option Addr) (n c : Nat) (s : ByteArray) : (pkCells h (.slice a n c) s).all (·.oneCell') = true := by simp [pkCells, Value.oneCell']
theorem store_pk {ops : Array Oper} {rest : List Oper} {o : Oper} {a : Act} {w : World} {Q : Exit → Act → World → Prop} (hgd : o.guard = none) (x y : Operand) (ho : o.op = .store 71 x y)
    (C : Nat) (h h2 : Hd) (v : Value) (s s2 : ByteArray) (va : Option Addr) (vn vc : Nat) (hx : a.eval x = .pointer (some ⟨C, 0, none⟩)) (hy : a.eval y = Pv h2 (.slice va vn vc) s2) (hb : PkBlk h v s C w)
    (hh : ∀ w', PkBlk h2 (.slice va vn vc) s2 C w' → w.grownBy w' (some C) → wpList Tryz.prog ops Q rest (a.put o.dst undef) w') : wpList Tryz.prog ops Q (o :: rest) a w :=
  wpList_store_row hgd 71 x y ho C (pkCells h2 (.slice va vn vc) s2) hx hy 71 (pkCells h v s) hb infoPk rfl (pkCells_one _ _ _ _ _) (hh _ (setRow_heap w C _ _ _ _ hb) (grown_setRow _ _ _))
theorem load_pkv {h : Hd} {v : Value} {s : ByteArray} {C : Nat} {w : World} (a : PkBlk h v s C w) : (loadVar 71 ⟨C, 0, none⟩).run Tryz.prog w = .ok (Pv h v s) w :=
  run_loadVar_row (P := Tryz.prog) w C 71 71 (pkCells h v s) (0, 0) _ a Tryz.underlying71 rfl infoPk
theorem get_end {h : Hd} {v : Value} {s : ByteArray} {C : Nat} {n : Int} {tmps : Array Value} {w : World} (a : PkBlk h v s C w) (hp : tmps.getD 2 undef = .pointer (some ⟨C, 0, none⟩)) (hq : tmps.getD 3 undef = .int .i64 n) :
    (results Tryz.f45 tmps).run Tryz.prog w = .ok (.tuple #[Pv h v s, .int .i64 n]) w := by
  rw [results_pair (fn := Tryz.f45) Tryz.results45 tmps w C (pkCells h v s) hp (load_pkv a), hq]; rfl

/-- The zero packet, as a new block lays it. -/
def Pv0 : Value := Pv Hd.zero (.slice none 0 0) ⟨#[]⟩

/-- What pkt.Get answers of bytes. -/
def GetPk (w : World) (l : List UInt8) (e : Ending) (w' : World) : Prop :=
  Below w.heap.size w w' ∧ (getErr l ≠ 0 → e = .returned (.tuple #[Pv0, .int .i64 (getErr l)])) ∧
    (getErr l = 0 → ∃ v os, getOs l = some os ∧ e = .returned (.tuple #[Pv (getHd l) v (str (l.drop (getOff l))), .int .i64 0]) ∧ OptsOwn w.heap.size v os w w')

/-- How far pkt.Get has come: the result at block Z, the head at block C. -/
structure GSt (w : World) (Z C : Nat) (g : Hd) (W : World) : Prop where
  pk : PkBlk Hd.zero (.slice none 0 0) ⟨#[]⟩ Z W
  hd : HdBlk g C W
  ne : Z ≠ C
  bel : Below w.heap.size w W
  zge : w.heap.size ≤ Z
  cge : w.heap.size ≤ C
theorem GSt.below {w : World} {Z C : Nat} {g : Hd} {W W' : World} (a : GSt w Z C g W) (hb : Below W.heap.size W W') : GSt w Z C g W' :=
  ⟨a.pk.below hb, a.hd.below hb, a.ne, a.bel.trans (hb.mono a.bel.size), a.zge, a.cge⟩
end Go.Proofs.YtdlpapchjjbplaaGreatDoor
