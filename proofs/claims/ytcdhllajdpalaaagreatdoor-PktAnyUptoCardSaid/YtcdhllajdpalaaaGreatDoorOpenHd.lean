/-
  An argument that is a head, opened.
-/
import Derived.Test.YtcdhllajdpalaaaGreatDoorPkA
import Derived.OpenShut
import Derived.ChangeSame
namespace Go.Proofs.YtcdhllajdpalaaaGreatDoor
open Go.ChangeShapes Go.WideShapes Go.RowKit
set_option linter.unusedVariables false

theorem int_cell {H : Type} {enc : TypeId × Value → H} {P : Program} {W : World} {base : Nat} {sp : Nat → Bool} {held : Bool} {n : Nat} {t : TypeId} {k : IntKind} {v : Value} {o : Option (DataW H × List MemPlace)}
    (ht : P.underlying t = some (.int k)) (hn : o ≠ none) (h : DataW.trod enc P W base sp held n t [v] = o) : ∃ z, v = .int k z ∧ (Lit.int k z).wf = true := by
  cases o with
  | none => exact absurd rfl hn
  | some x =>
    obtain ⟨z, hz, _, hw⟩ := DataW.trod_int ht h
    simp at hz
    exact ⟨z, hz, hw⟩
theorem bool_cell {H : Type} {enc : TypeId × Value → H} {P : Program} {W : World} {base : Nat} {sp : Nat → Bool} {held : Bool} {n : Nat} {t : TypeId} {v : Value} {o : Option (DataW H × List MemPlace)}
    (ht : P.underlying t = some .bool) (hn : o ≠ none) (h : DataW.trod enc P W base sp held n t [v] = o) : ∃ z, v = .bool z := by
  cases o with
  | none => exact absurd rfl hn
  | some x =>
    obtain ⟨z, hz, _⟩ := DataW.trod_bool ht h
    simp at hz
    exact ⟨z, hz⟩
theorem some_at {α : Type} {l : List α} {i : Nat} (h : i < l.length) : l[i]? ≠ none := by
  rw [List.getElem?_eq_getElem h]; exact fun e => by cases e

/-- The numbers of a head fit 64 bits with their sign. -/
structure Hd.fits (h : Hd) : Prop where
  src : -9223372036854775808 ≤ h.src ∧ h.src ≤ 9223372036854775807
  dst : -9223372036854775808 ≤ h.dst ∧ h.dst ≤ 9223372036854775807
  off : -9223372036854775808 ≤ h.off ∧ h.off ≤ 9223372036854775807
  cc : -9223372036854775808 ≤ h.cc ∧ h.cc ≤ 9223372036854775807
  cs : -9223372036854775808 ≤ h.cs ∧ h.cs ≤ 9223372036854775807
  sum : -9223372036854775808 ≤ h.sum ∧ h.sum ≤ 9223372036854775807
  type : -9223372036854775808 ≤ h.type ∧ h.type ≤ 9223372036854775807
  code : -9223372036854775808 ≤ h.code ∧ h.code ≤ 9223372036854775807

set_option maxRecDepth 100000 in
set_option maxHeartbeats 2000000 in
theorem open_cells {H : Type} {enc : TypeId × Value → H} {W : World} {base : Nat} {sp : Nat → Bool} {held : Bool} {fuel : Nat} {cs : List Value} {x : DataW H × List MemPlace}
    (h : DataW.trod enc Tryz.prog W base sp held fuel 26 cs = some x) : ∃ g : Hd, cs = g.cellsA.toList ∧ g.ok ∧ g.fits := by
  obtain ⟨ys, n, hn, _, hlen, hyl, hf⟩ := DataW.trod_struct Tryz.underlying26 h
  have hC : Tryz.prog.cellsOf 26 = 15 := by kernel_rfl
  rw [hC] at hlen
  have hy : ys.length = 13 := hyl
  match cs, hlen with
  | [c0, c1, c2, c3, c4, c5, c6, c7, c8, c9, c10, c11, c12, c13, c14], _ =>
    have f0 : DataW.trod enc Tryz.prog W base sp held n 3 [c0] = ys[0]? := hf 0 _ rfl
    have f1 : DataW.trod enc Tryz.prog W base sp held n 3 [c1] = ys[1]? := hf 1 _ rfl
    have f2 : DataW.trod enc Tryz.prog W base sp held n 3 [c2] = ys[2]? := hf 2 _ rfl
    have f3 : DataW.trod enc Tryz.prog W base sp held n 3 [c3] = ys[3]? := hf 3 _ rfl
    have f4 : DataW.trod enc Tryz.prog W base sp held n 3 [c4] = ys[4]? := hf 4 _ rfl
    have f5 : DataW.trod enc Tryz.prog W base sp held n 3 [c5] = ys[5]? := hf 5 _ rfl
    have f6 : DataW.trod enc Tryz.prog W base sp held n 3 [c6] = ys[6]? := hf 6 _ rfl
    have f7 : DataW.trod enc Tryz.prog W base sp held n 4 [c7] = ys[7]? := hf 7 _ rfl
    have f8 : DataW.trod enc Tryz.prog W base sp held n 22 [c8] = ys[8]? := hf 8 _ rfl
    have f9 : DataW.trod enc Tryz.prog W base sp held n 22 [c9] = ys[9]? := hf 9 _ rfl
    have f10 : DataW.trod enc Tryz.prog W base sp held n 23 [c10] = ys[10]? := hf 10 _ rfl
    have f11 : DataW.trod enc Tryz.prog W base sp held n 3 [c11] = ys[11]? := hf 11 _ rfl
    have f12 : DataW.trod enc Tryz.prog W base sp held n 24 [c12, c13, c14] = ys[12]? := hf 12 _ rfl
    obtain ⟨z0, rfl, w0⟩ := int_cell Tryz.underlying3 (some_at (by omega)) f0
    obtain ⟨z1, rfl, w1⟩ := int_cell Tryz.underlying3 (some_at (by omega)) f1
    obtain ⟨z2, rfl, w2⟩ := int_cell Tryz.underlying3 (some_at (by omega)) f2
    obtain ⟨z3, rfl, w3⟩ := int_cell Tryz.underlying3 (some_at (by omega)) f3
    obtain ⟨z4, rfl, w4⟩ := int_cell Tryz.underlying3 (some_at (by omega)) f4
    obtain ⟨z5, rfl, w5⟩ := int_cell Tryz.underlying3 (some_at (by omega)) f5
    obtain ⟨z6, rfl, w6⟩ := int_cell Tryz.underlying3 (some_at (by omega)) f6
    obtain ⟨z7, rfl⟩ := bool_cell Tryz.underlying4 (some_at (by omega)) f7
    obtain ⟨z8, rfl, w8⟩ := int_cell Tryz.underlying22 (some_at (by omega)) f8
    obtain ⟨z9, rfl, w9⟩ := int_cell Tryz.underlying22 (some_at (by omega)) f9
    obtain ⟨z10, rfl, w10⟩ := int_cell Tryz.underlying23 (some_at (by omega)) f10
    obtain ⟨z11, rfl, w11⟩ := int_cell Tryz.underlying3 (some_at (by omega)) f11
    rw [List.getElem?_eq_getElem (by omega)] at f12
    obtain ⟨xs, m, _, _, _, hxl, hg⟩ := DataW.trod_array Tryz.underlying24 f12
    have g0 : DataW.trod enc Tryz.prog W base sp held m 5 [c12] = xs[0]? := hg 0 (by decide)
    have g1 : DataW.trod enc Tryz.prog W base sp held m 5 [c13] = xs[1]? := hg 1 (by decide)
    have g2 : DataW.trod enc Tryz.prog W base sp held m 5 [c14] = xs[2]? := hg 2 (by decide)
    obtain ⟨y0, rfl, v0⟩ := int_cell Tryz.underlying5 (some_at (by omega)) g0
    obtain ⟨y1, rfl, v1⟩ := int_cell Tryz.underlying5 (some_at (by omega)) g1
    obtain ⟨y2, rfl, v2⟩ := int_cell Tryz.underlying5 (some_at (by omega)) g2
    have b8 := bounds_u64 w8
    have b9 := bounds_u64 w9
    have b10 := bounds_u32 w10
    have d0 := bounds_u8 v0
    have d1 := bounds_u8 v1
    have d2 := bounds_u8 v2
    obtain ⟨n8, rfl⟩ := Int.eq_ofNat_of_zero_le b8.1
    obtain ⟨n9, rfl⟩ := Int.eq_ofNat_of_zero_le b9.1
    obtain ⟨n10, rfl⟩ := Int.eq_ofNat_of_zero_le b10.1
    obtain ⟨m0, rfl⟩ := Int.eq_ofNat_of_zero_le d0.1
    obtain ⟨m1, rfl⟩ := Int.eq_ofNat_of_zero_le d1.1
    obtain ⟨m2, rfl⟩ := Int.eq_ofNat_of_zero_le d2.1
    exact ⟨⟨z0, z1, z2, z3, z4, z5, z6, z7, n8, n9, n10, z11, m0, m1, m2⟩, rfl, ⟨by show n8 < _; omega, by show n9 < _; omega, by show n10 < _; omega, by show m0 < _; omega, by show m1 < _; omega, by show m2 < _; omega⟩,
      ⟨bounds_i64 w0, bounds_i64 w1, bounds_i64 w2, bounds_i64 w3, bounds_i64 w4, bounds_i64 w5, bounds_i64 w6, bounds_i64 w11⟩⟩

set_option maxRecDepth 100000 in
theorem open_head {H : Type} {enc : TypeId × Value → H} {W : World} {r : Reach} {b0 : Nat} {sp : Nat → Bool} {held : Bool} {v : Value} {d : DataW H} {q : List MemPlace}
    (hv : Value.okWide Tryz.prog W r b0 26 v) (h : DataW.Trod enc Tryz.prog W 0 sp held 26 v d q) : ∃ g : Hd, v = g.val ∧ g.ok ∧ g.fits := by
  obtain ⟨cs, rfl, hsz⟩ := okWide_struct Tryz.underlying26 hv
  obtain ⟨fuel, hf⟩ := h
  obtain ⟨g, hg, h1, h2⟩ := open_cells hf
  refine ⟨g, ?_, h1, h2⟩
  have e : cs.toList = g.cellsA.toList := hg
  rw [Array.toList_inj] at e
  rw [e]; rfl
end Go.Proofs.YtcdhllajdpalaaaGreatDoor
