/-
  Bytes of a head that say nothing.
-/
import Derived.Test.YtjbcjcfmjagbkaaGreatDoorHeadMath
namespace Go.Proofs.YtjbcjcfmjagbkaaGreatDoor
open Go
set_option linter.unusedVariables false
set_option linter.unusedSimpArgs false

theorem dt_set (l : List UInt8) (p a n : Nat) (v : UInt8) (h : p < a ∨ a + n ≤ p) : ((l.set p v).drop a).take n = (l.drop a).take n := by
  rw [List.drop_set]
  split
  · rfl
  · rw [List.take_set, List.set_eq_of_length_le]
    rw [List.length_take]; omega
theorem d_set (l : List UInt8) (p a : Nat) (v : UInt8) (h : p < a) : (l.set p v).drop a = l.drop a := by
  rw [List.drop_set, if_pos h]
theorem t_set (l : List UInt8) (p n : Nat) (v : UInt8) (h : n ≤ p) : (l.set p v).take n = l.take n := by
  have := dt_set l p 0 n v (.inr (by omega))
  simpa using this
theorem byteAt_set (l : List UInt8) (p i : Nat) (v : UInt8) (h : i ≠ p) : byteAt (l.set p v) i = byteAt l i := by
  unfold byteAt
  rw [List.getD_eq_getElem?_getD, List.getD_eq_getElem?_getD, List.getElem?_set_ne (Ne.symm h)]

/-- What a head's reading hangs on. -/
theorem getHd_cong (l m : List UInt8) (h0 : hd0 m = hd0 l) (h1 : seqOf (hd0 l) (m.drop 9) = seqOf (hd0 l) (l.drop 9)) (h2 : ackOf (hd0 l) (m.drop 9) = ackOf (hd0 l) (l.drop 9)) (h3 : m.drop (9 + numsLen (hd0 l)) = l.drop (9 + numsLen (hd0 l))) : getHd m = getHd l := by
  unfold getHd hd1
  rw [h0, h1, h2, h3]
theorem faultN_cong (l m : List UInt8) (h0 : m.length = l.length) (h1 : hType m = hType l) (h2 : hX m = hX l) (h3 : byteAt m 4 = byteAt l 4) : faultN m = faultN l := by
  unfold faultN
  rw [h0, h1, h2, h3]
theorem seqOf_set (h : Hd) (l : List UInt8) (p : Nat) (v : UInt8) (hp : p < 9 + seqPad h.x ∨ 9 + seqPad h.x + numLen h.x ≤ p) : seqOf h ((l.set p v).drop 9) = seqOf h (l.drop 9) := by
  unfold seqOf
  rw [List.drop_drop, List.drop_drop, dt_set _ _ _ _ _ (by omega)]
theorem ackOf_set (h : Hd) (l : List UInt8) (p : Nat) (v : UInt8) (hp : p < 9 + (seqPad h.x + numLen h.x + ackPad h.x)) : ackOf h ((l.set p v).drop 9) = ackOf h (l.drop 9) := by
  unfold ackOf
  split
  · rw [List.drop_drop, List.drop_drop, dt_set _ _ _ _ _ (.inl (by omega))]
  · rfl
/-- A byte behind the ninth that is part of no number. -/
theorem getHd_pad (l : List UInt8) (p : Nat) (v : UInt8) (h9 : 9 ≤ p) (hs : p < 9 + seqPad (hd0 l).x ∨ 9 + seqPad (hd0 l).x + numLen (hd0 l).x ≤ p) (ha : p < 9 + (seqPad (hd0 l).x + numLen (hd0 l).x + ackPad (hd0 l).x)) (hn : p < 9 + numsLen (hd0 l)) :
    getHd (l.set p v) = getHd l ∧ hd0 (l.set p v) = hd0 l := by
  have h0 : hd0 (l.set p v) = hd0 l := by
    unfold hd0
    rw [t_set _ _ _ _ (by omega), dt_set _ _ 2 2 _ (.inr (by omega)), dt_set _ _ 4 1 _ (.inr (by omega)), dt_set _ _ 5 1 _ (.inr (by omega)), dt_set _ _ 6 2 _ (.inr (by omega)), dt_set _ _ 8 1 _ (.inr (by omega))]
  exact ⟨getHd_cong _ _ h0 (seqOf_set _ _ _ _ hs) (ackOf_set _ _ _ _ ha) (d_set _ _ _ _ hn), h0⟩
theorem faultN_pad (l : List UInt8) (p : Nat) (v : UInt8) (h9 : 9 ≤ p) : faultN (l.set p v) = faultN l := by
  refine faultN_cong _ _ (by rw [List.length_set]) ?_ ?_ (byteAt_set _ _ _ _ (by omega))
  · unfold hType; rw [byteAt_set _ _ _ _ (by omega)]
  · unfold hX; rw [byteAt_set _ _ _ _ (by omega)]
/-- The type's byte with other bits on top. -/
theorem getHd_top (l : List UInt8) (v : UInt8) (hl : 8 < l.length) (h1 : v.toNat / 2 % 16 = byteAt l 8 / 2 % 16) (h2 : v.toNat % 2 = byteAt l 8 % 2) :
    getHd (l.set 8 v) = getHd l ∧ hd0 (l.set 8 v) = hd0 l ∧ faultN (l.set 8 v) = faultN l := by
  have b8 : byteAt (l.set 8 v) 8 = v.toNat := by unfold byteAt; rw [List.getD_eq_getElem?_getD, List.getElem?_set_self hl]; rfl
  have n1 := byteAt_num l 8 hl
  have n2 := byteAt_num (l.set 8 v) 8 (by rw [List.length_set]; exact hl)
  have h0 : hd0 (l.set 8 v) = hd0 l := by
    unfold hd0
    rw [t_set _ _ _ _ (by omega), dt_set _ _ 2 2 _ (.inr (by omega)), dt_set _ _ 4 1 _ (.inr (by omega)), dt_set _ _ 5 1 _ (.inr (by omega)), dt_set _ _ 6 2 _ (.inr (by omega))]
    rw [n1, n2, b8, h1, h2]
  refine ⟨getHd_cong _ _ h0 (seqOf_set _ _ _ _ (.inl (by omega))) (ackOf_set _ _ _ _ (by omega)) (d_set _ _ _ _ (by omega)), h0, ?_⟩
  refine faultN_cong _ _ (by rw [List.length_set]) ?_ ?_ (byteAt_set _ _ _ _ (by omega))
  · unfold hType; rw [b8, h1]
  · unfold hX; rw [b8, h2]
end Go.Proofs.YtjbcjcfmjagbkaaGreatDoor
namespace Go.Proofs.YtjbcjcfmjagbkaaGreatDoor
open Go
/-- The bytes of a head with others where they say nothing. -/
def looseA (x : Bool) (l : List UInt8) (v8 j : UInt8) : List UInt8 := if x = true then (l.set 8 v8).set 9 j else l.set 8 v8
def looseB (x hk : Bool) (l : List UInt8) (j k : UInt8) : List UInt8 := if hk = true then (if x = true then (l.set 16 j).set 17 k else l.set 12 j) else l
theorem loose_get (h : Hd) (hok : h.ok) (hm : h.mayB = true) (ho : h.off = 255) (v8 j k : UInt8) (h1 : v8.toNat / 2 % 16 = h.type.toNat) (h2 : v8.toNat % 2 = if h.x = true then 1 else 0) :
    getHd (looseB h.x (hasAckB h.type) (looseA h.x (h.bytes ++ List.replicate 1020 0) v8 j) j k) = h ∧ faultN (looseB h.x (hasAckB h.type) (looseA h.x (h.bytes ++ List.replicate 1020 0) v8 j) j k) = 0 := by
  obtain ⟨_, _, _, _, _, _, ⟨t1, t2⟩, _⟩ := mayB_bounds hm
  have g0 := getHd_bytes h hok hm (List.replicate 1020 0)
  have f0 := fault_bytes h hm (List.replicate 1020 0)
  rw [if_neg (by rw [List.length_append, List.length_replicate, ho]; simp)] at f0
  have hb : h.bytes ++ List.replicate 1020 0 = h.nine ++ (h.seqBytes ++ (h.ackBytes ++ h.extraBytes) ++ List.replicate 1020 0) := by rw [bytes_nine, List.append_assoc]
  have hh := hd0_bytes h hm (h.seqBytes ++ (h.ackBytes ++ h.extraBytes) ++ List.replicate 1020 0)
  have n8 := (nine_at h hm (h.seqBytes ++ (h.ackBytes ++ h.extraBytes) ++ List.replicate 1020 0)).2
  rw [← hb] at hh n8
  have hl : 8 < (h.bytes ++ List.replicate 1020 0).length := by rw [List.length_append, List.length_replicate]; omega
  generalize h.bytes ++ List.replicate 1020 0 = L at *
  have hx0 : (hd0 L).x = h.x := by rw [hh]
  have ht0 : (hd0 L).type = h.type := by rw [hh]
  obtain ⟨a1, a2, a3⟩ := getHd_top L v8 hl (by rw [h1, n8]; unfold typeN; cases h.x <;> simp <;> omega) (by rw [h2, n8]; unfold typeN; cases h.x <;> simp)
  have key : ∀ (l : List UInt8) (p : Nat) (v : UInt8), hd0 l = hd0 L → getHd l = h → faultN l = 0 → 9 ≤ p → (p < 9 + seqPad h.x ∨ 9 + seqPad h.x + numLen h.x ≤ p) → p < 9 + (seqPad h.x + numLen h.x + ackPad h.x) → p < 9 + (seqPad h.x + numLen h.x + if hasAckB h.type = true then ackPad h.x + numLen h.x else 0) →
      hd0 (l.set p v) = hd0 L ∧ getHd (l.set p v) = h ∧ faultN (l.set p v) = 0 := fun l p v e1 e2 e3 p1 p2 p3 p4 => by
    obtain ⟨b1, b2⟩ := getHd_pad l p v p1 (by rw [e1, hx0]; exact p2) (by rw [e1, hx0]; exact p3) (by unfold numsLen; rw [e1, hx0, ht0]; exact p4)
    exact ⟨b2.trans e1, b1.trans e2, (faultN_pad l p v p1).trans e3⟩
  have s8 : hd0 (L.set 8 v8) = hd0 L ∧ getHd (L.set 8 v8) = h ∧ faultN (L.set 8 v8) = 0 := ⟨a2, a1.trans g0, a3.trans f0⟩
  unfold looseA looseB
  cases hx : h.x <;> cases hk : hasAckB h.type <;> rw [hx, hk] at key <;> simp only [if_true, Bool.false_eq_true, if_false]
  · exact s8.2
  · exact (key _ 12 j s8.1 s8.2.1 s8.2.2 (by decide) (by decide) (by decide) (by decide)).2
  · exact (key _ 9 j s8.1 s8.2.1 s8.2.2 (by decide) (by decide) (by decide) (by decide)).2
  · have s9 := key _ 9 j s8.1 s8.2.1 s8.2.2 (by decide) (by decide) (by decide) (by decide)
    have s16 := key _ 16 j s9.1 s9.2.1 s9.2.2 (by decide) (by decide) (by decide) (by decide)
    exact (key _ 17 k s16.1 s16.2.1 s16.2.2 (by decide) (by decide) (by decide) (by decide)).2
theorem loose_bits : ∀ a : Fin 20, ∀ j : Fin 256, bits .or .u8 (a.val : Int) (bits .and .u8 (j.val : Int) 224) = ((a.val + j.val / 32 * 32 : Nat) : Int) ∧ a.val + j.val / 32 * 32 < 256 := by decide +kernel
end Go.Proofs.YtjbcjcfmjagbkaaGreatDoor
