/-
  The opening check's packet, at its own values: closed facts, and contracts.
-/
import Derived.Test.YtdlpapchjjbplaaGreatDoorBegunA
import Derived.Test.YtdlpapchjjbplaaGreatDoorFixE
import Derived.Test.YtdlpapchjjbplaaGreatDoorSeqA
namespace Go.Proofs.YtdlpapchjjbplaaGreatDoor
open Go.ChangeShapes Go.WideShapes Go.ChangeAt Go.RowKit
set_option linter.unusedVariables false

def bgHd : Hd := ⟨1, 2, 0, 0, 0, 0, 4, true, 77, 5, 0, 0, 0, 0, 0⟩
def bgOs : List M.Opt := [⟨2, []⟩, ⟨40, [120, 121]⟩]
def bgD : List UInt8 := [104, 101, 108, 108, 111]
def bgB : List UInt8 := putText bgHd bgOs bgD
theorem bgHd_ok : bgHd.ok := ⟨by decide, by decide, by decide, by decide, by decide, by decide⟩
theorem bg_err : putErr bgHd bgOs bgD = 0 := by kernel_rfl
theorem bg_len : bgB.length = 37 := by kernel_rfl
theorem bg_get : getErr bgB = 0 := by kernel_rfl
theorem bg_os : getOs bgB = some bgOs := by kernel_rfl
theorem bg_off : (getHd bgB).off = 8 := by kernel_rfl
theorem bg_d : bgB.drop (getOff bgB) = bgD := by kernel_rfl

theorem pktGet_yes {l : List UInt8} {os : List M.Opt} (hl : l.length ≤ 1073741824) (h : getErr l = 0) (hos : getOs l = some os) (w : World) :
    Calls Tryz.prog 45 #[.string (str l)] w fun e w' => ∃ p cap, e = .returned (.tuple #[Pv (getHd l) (.slice p os.length cap) (str (l.drop (getOff l))), .int .i64 0]) ∧ OptsOwn w.heap.size (.slice p os.length cap) os w w' :=
  (pktGet_any l hl w).mono fun e w' hh => by
    obtain ⟨v, os', h1, h2, h3⟩ := hh.2.2 h
    obtain rfl : os = os' := Option.some.inj (hos.symm.trans h1)
    rcases h3.1.2 with ⟨rfl, h0⟩ | ⟨g, cap, cur, rfl, _⟩
    · refine ⟨none, 0, ?_, ?_⟩
      · rw [h0]; exact h2
      · rw [h0]; exact h3
    · exact ⟨_, cap, h2, h3⟩

theorem bg_muldiv (w : World) : Calls Tryz.prog 47 #[.int .u64 9223372036854775808, .int .u64 4, .int .u64 8] w fun e w' => e = .returned (.int .u64 4611686018427387904) ∧ Below w.heap.size w w' :=
  (fixMulDiv_any 9223372036854775808 4 8 (by decide) (by decide) (by decide) w).mono fun e w' hh => by
    obtain ⟨h1, n, rfl⟩ := hh
    exact ⟨by rw [h1, show M.mulDivT 9223372036854775808 4 8 = 4611686018427387904 by decide +kernel]; rfl, bel_drewN w n⟩
theorem bg_sqrt (w : World) : Calls Tryz.prog 48 #[.int .u64 99] w fun e w' => e = .returned (.int .u64 9) ∧ w = w' :=
  (fixSqrt_any 99 (by decide) w).mono fun e w' hh => ⟨by rw [hh.1, show M.isq 99 = 9 by decide +kernel]; rfl, hh.2⟩
theorem bg_diff (w : World) : Calls Tryz.prog 49 #[.int .u64 1, .int .u64 281474976710655] w fun e w' => e = .returned (.int .i64 2) ∧ w = w' :=
  (seqDiff_any 1 281474976710655 (by decide) (by decide) w).mono fun e w' hh => ⟨by rw [hh.1]; rfl, hh.2⟩
theorem bg_add (w : World) : Calls Tryz.prog 50 #[.int .u64 0, .int .i64 (-1)] w fun e w' => e = .returned (.int .u64 281474976710655) ∧ w = w' :=
  (seqAdd_any 0 (-1) (by decide) (by decide) (by decide) w).mono fun e w' hh => ⟨by rw [hh.1]; rfl, hh.2⟩
theorem bg_size (w : World) : Calls Tryz.prog 27 #[.int .i64 4, .bool true] w fun e w' => e = .returned (.int .i64 24) ∧ w = w' :=
  (size_any 4 true w).mono fun e w' hh => ⟨by rw [hh.1]; rfl, hh.2⟩
theorem bg_sum (w : World) : Calls Tryz.prog 19 #[.slice (some ⟨w.heap.size, 0, none⟩) 1 1] (w.alloc (.cells #[.string ⟨#[1, 2]⟩] 9)) fun e w' => e = .returned (.int .i64 65277) ∧ w.alloc (.cells #[.string ⟨#[1, 2]⟩] 9) = w' := by
  have hs := sumOf_at (w := w.alloc (.cells #[.string ⟨#[1, 2]⟩] 9)) (v := .slice (some ⟨w.heap.size, 0, none⟩) 1 1) (ss := [⟨#[1, 2]⟩]) ⟨.inr ⟨⟨w.heap.size, 0, none⟩, 1, rfl, fun i hi => by
      rw [Addr.add_mid, cell_of_row _ _ _ _ _ _ (heap_alloc_new w _)]
      have : i = 0 := by simp at hi; omega
      subst this; rfl⟩, by simp, by
      intro s hs
      simp at hs
      subst hs; decide, by decide +kernel⟩
  exact hs.mono fun e w' hh => ⟨by rw [hh.1, show M.sum16 (M.joined [⟨#[1, 2]⟩]) = 65277 by decide +kernel]; rfl, hh.2⟩

theorem pk_new_at (w : World) (H : Nat) (hH : w.heap.size = H) : PkBlk Hd.zero (.slice none 0 0) ⟨#[]⟩ H (w.alloc pk0) := by subst hH; exact pk_new w
theorem load_pk {ops : Array Oper} {rest : List Oper} {o : Oper} {a : Act} {w : World} {Q : Exit → Act → World → Prop} (hgd : o.guard = none) (x : Operand) (ho : o.op = .load 71 x)
    (C : Nat) (hx : a.eval x = .pointer (some ⟨C, 0, none⟩)) (h : Hd) (v : Value) (s : ByteArray) (hb : PkBlk h v s C w)
    (hh : wpList Tryz.prog ops Q rest (a.put o.dst (Pv h v s)) w) : wpList Tryz.prog ops Q (o :: rest) a w :=
  wpList_load_row hgd 71 x ho C hx 71 (pkCells h v s) (0, 0) _ hb Tryz.underlying71 rfl infoPk hh
end Go.Proofs.YtdlpapchjjbplaaGreatDoor
