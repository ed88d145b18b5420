/-
  A head that is written is read.
-/
import Derived.Test.YtcdhllajdpalaaaGreatDoorHdC
import Derived.Test.YtcdhllajdpalaaaGreatDoorPkA
import Derived.Test.YtcdhllajdpalaaaGreatDoorNumA
namespace Go.Proofs.YtcdhllajdpalaaaGreatDoor
open Go
set_option linter.unusedSimpArgs false
set_option linter.unusedVariables false

theorem beBytes_drop (a b n : Nat) : (beBytes (a + b) n).drop a = beBytes b n := by
  induction a with
  | zero => simp
  | succ a ih =>
    rw [show a + 1 + b = (a + b) + 1 by omega, beBytes_succ, List.drop_succ_cons, ih]
theorem beNum_two (x y : UInt8) : beNum [x, y] = x.toNat * 256 + y.toNat := by simp [beNum]
theorem beNum_one (x : UInt8) : beNum [x] = x.toNat := by simp [beNum]
theorem ofNat_byte (n : Nat) : (UInt8.ofNat (n % 256)).toNat = n % 256 := by rw [UInt8.toNat_ofNat']; exact Nat.mod_eq_of_lt (Nat.mod_lt _ (by decide))

/-- The first nine bytes. -/
def Hd.nine (h : Hd) : List UInt8 := [UInt8.ofNat (h.src.toNat / 256 % 256), UInt8.ofNat (h.src.toNat % 256), UInt8.ofNat (h.dst.toNat / 256 % 256), UInt8.ofNat (h.dst.toNat % 256), UInt8.ofNat (h.off.toNat % 256), UInt8.ofNat ((h.cc.toNat * 16 + h.cs.toNat) % 256),
  UInt8.ofNat (h.sum.toNat / 256 % 256), UInt8.ofNat (h.sum.toNat % 256), UInt8.ofNat (typeN h.type.toNat h.x % 256)]
theorem bytes_nine (h : Hd) : h.bytes = h.nine ++ (h.seqBytes ++ (h.ackBytes ++ h.extraBytes)) := by
  unfold Hd.bytes Hd.nine
  simp [beBytes]

theorem mayB_more {h : Hd} (hm : h.mayB = true) : sizeN h.type h.x ≠ 0 ∧ sizeN h.type h.x / 4 ≤ h.off.toNat ∧ h.numbersB = true ∧ h.extrasB = true := by
  unfold Hd.mayB at hm
  simp only [Bool.and_eq_true, btw_true] at hm
  refine ⟨of_decide_eq_true hm.1, by have := hm.2.2.2.1.1; omega, hm.2.2.2.2.2.2.2.1, hm.2.2.2.2.2.2.2.2⟩
theorem numbersB_parts {h : Hd} (hn : h.numbersB = true) : (hasAckB h.type = true ∨ h.ack = 0) ∧ h.seq < mostN h.x ∧ h.ack < mostN h.x := by
  unfold Hd.numbersB roomB at hn
  simp only [Bool.and_eq_true, Bool.or_eq_true, decide_eq_true_eq] at hn
  exact hn
theorem extrasB_parts {h : Hd} (hn : h.extrasB = true) : (serviceB h.type = true ∨ h.service = 0) ∧ (codeB h.type = true ∧ 0 ≤ h.code ∧ h.code ≤ 255 ∨ codeB h.type = false ∧ h.code = 0 ∧ h.i0 = 0 ∧ h.i1 = 0 ∧ h.i2 = 0) := by
  unfold Hd.extrasB at hn
  simp only [Bool.and_eq_true, Bool.or_eq_true, decide_eq_true_eq] at hn
  refine ⟨hn.1, ?_⟩
  have h2 := hn.2
  by_cases hc : codeB h.type = true
  · rw [if_pos hc, btw_true] at h2; exact .inl ⟨hc, h2⟩
  · rw [if_neg hc, decide_eq_true_eq] at h2; exact .inr ⟨by simpa using hc, h2⟩
theorem mostN_pow (x : Bool) : mostN x = 256 ^ numLen x := by cases x <;> decide

set_option maxRecDepth 100000 in
/-- What is read of the nine. -/
theorem hd0_bytes (h : Hd) (hm : h.mayB = true) (r : List UInt8) : hd0 (h.nine ++ r) = { h with seq := 0, ack := 0, service := 0, code := 0, i0 := 0, i1 := 0, i2 := 0 } := by
  obtain ⟨⟨s1, s2⟩, ⟨d1, d2⟩, ⟨o1, o2⟩, ⟨c1, c2⟩, ⟨v1, v2⟩, ⟨u1, u2⟩, ⟨t1, t2⟩, _⟩ := mayB_bounds hm
  have hx : typeN h.type.toNat h.x / 2 % 16 = h.type.toNat ∧ decide (typeN h.type.toNat h.x % 2 = 1) = h.x := by
    unfold typeN
    cases h.x
    · exact ⟨by simp <;> omega, by simp <;> omega⟩
    · exact ⟨by simp <;> omega, by simp <;> omega⟩
  have ht := typeN_le h.type.toNat h.x (by omega)
  have e1 : h.nine ++ r = UInt8.ofNat (h.src.toNat / 256 % 256) :: UInt8.ofNat (h.src.toNat % 256) :: UInt8.ofNat (h.dst.toNat / 256 % 256) :: UInt8.ofNat (h.dst.toNat % 256) :: UInt8.ofNat (h.off.toNat % 256) :: UInt8.ofNat ((h.cc.toNat * 16 + h.cs.toNat) % 256) ::
    UInt8.ofNat (h.sum.toNat / 256 % 256) :: UInt8.ofNat (h.sum.toNat % 256) :: UInt8.ofNat (typeN h.type.toNat h.x % 256) :: r := rfl
  unfold hd0
  rw [e1]
  simp only [List.drop_succ_cons, List.drop_zero, List.take_succ_cons, List.take_zero, beNum_two, beNum_one, ofNat_byte]
  have a1 : ((h.src.toNat / 256 % 256 * 256 + h.src.toNat % 256 : Nat) : Int) = h.src := by omega
  have a2 : ((h.dst.toNat / 256 % 256 * 256 + h.dst.toNat % 256 : Nat) : Int) = h.dst := by omega
  have a3 : ((h.off.toNat % 256 : Nat) : Int) = h.off := by omega
  have a4 : (((h.cc.toNat * 16 + h.cs.toNat) % 256 / 16 : Nat) : Int) = h.cc := by omega
  have a5 : (((h.cc.toNat * 16 + h.cs.toNat) % 256 % 16 : Nat) : Int) = h.cs := by omega
  have a6 : ((h.sum.toNat / 256 % 256 * 256 + h.sum.toNat % 256 : Nat) : Int) = h.sum := by omega
  have hm2 : typeN h.type.toNat h.x % 256 = typeN h.type.toNat h.x := Nat.mod_eq_of_lt (by omega)
  have a7 : ((typeN h.type.toNat h.x % 256 / 2 % 16 : Nat) : Int) = h.type := by rw [hm2, hx.1]; omega
  have a8 : decide (typeN h.type.toNat h.x % 256 % 2 = 1) = h.x := by rw [hm2, hx.2]
  rw [a1, a2, a3, a4, a5, a6, a7, a8]
  rfl

theorem num_part (p n s : Nat) (r : List UInt8) (h : s < 256 ^ n) : beNum (((beBytes (p + n) s ++ r).drop p).take n) = s := by
  rw [List.drop_append_of_le_length (by rw [beBytes_length]; omega), beBytes_drop, List.take_append_of_le_length (by rw [beBytes_length]; exact Nat.le_refl _), List.take_of_length_le (by rw [beBytes_length]; exact Nat.le_refl _), beNum_be, Nat.mod_eq_of_lt h]

theorem getHd_bytes (h : Hd) (hok : h.ok) (hm : h.mayB = true) (r : List UInt8) : getHd (h.bytes ++ r) = h := by
  obtain ⟨hz, ho, hn, he⟩ := mayB_more hm
  obtain ⟨n1, n2, n3⟩ := numbersB_parts hn
  obtain ⟨e1, e2⟩ := extrasB_parts he
  rw [mostN_pow] at n2 n3
  obtain ⟨q1, q2, q3, q4, q5, q6⟩ := hok
  have hb : h.bytes ++ r = h.nine ++ (h.seqBytes ++ (h.ackBytes ++ (h.extraBytes ++ r))) := by rw [bytes_nine]; simp
  have h0 := hd0_bytes h hm (h.seqBytes ++ (h.ackBytes ++ (h.extraBytes ++ r)))
  have h9 : (h.nine ++ (h.seqBytes ++ (h.ackBytes ++ (h.extraBytes ++ r)))).drop 9 = h.seqBytes ++ (h.ackBytes ++ (h.extraBytes ++ r)) := rfl
  have hsl : h.seqBytes.length = seqPad h.x + numLen h.x := by unfold Hd.seqBytes; rw [beBytes_length]
  have hal : h.ackBytes.length = if hasAckB h.type = true then ackPad h.x + numLen h.x else 0 := by
    unfold Hd.ackBytes; split <;> simp [beBytes_length]
  have hseq : seqOf { h with seq := 0, ack := 0, service := 0, code := 0, i0 := 0, i1 := 0, i2 := 0 } (h.seqBytes ++ (h.ackBytes ++ (h.extraBytes ++ r))) = h.seq := num_part _ _ _ _ n2
  have hack : ackOf { h with seq := 0, ack := 0, service := 0, code := 0, i0 := 0, i1 := 0, i2 := 0 } (h.seqBytes ++ (h.ackBytes ++ (h.extraBytes ++ r))) = h.ack := by
    unfold ackOf
    by_cases ha : hasAckB h.type = true
    · rw [if_pos ha]
      show beNum (((h.seqBytes ++ (h.ackBytes ++ (h.extraBytes ++ r))).drop (seqPad h.x + numLen h.x + ackPad h.x)).take (numLen h.x)) = h.ack
      rw [← List.drop_drop, ← hsl, List.drop_left]
      unfold Hd.ackBytes
      rw [if_pos ha]
      exact num_part _ _ _ _ n3
    · rw [if_neg ha]
      rcases n1 with n1 | n1
      · exact absurd n1 ha
      · exact n1.symm
  have hnl : numsLen { h with seq := 0, ack := 0, service := 0, code := 0, i0 := 0, i1 := 0, i2 := 0 } = h.seqBytes.length + h.ackBytes.length := by
    unfold numsLen; rw [hsl, hal]
  have hdr : (h.nine ++ (h.seqBytes ++ (h.ackBytes ++ (h.extraBytes ++ r)))).drop (9 + (h.seqBytes.length + h.ackBytes.length)) = h.extraBytes ++ r := by
    rw [← List.drop_drop, h9, ← List.drop_drop, List.drop_left, List.drop_left]
  unfold getHd hd1
  rw [hb, h0, h9, hseq, hack, hnl, hdr]
  unfold Hd.withExtras
  show (if serviceB h.type = true then _ else _) = h
  by_cases hs : serviceB h.type = true
  · rw [if_pos hs]
    have hsv : beNum ((h.extraBytes ++ r).take 4) = h.service := by
      have := num_part 0 4 h.service r (by omega)
      unfold Hd.extraBytes
      rw [if_pos hs]
      simpa using this
    rw [hsv]
    have hc := service_not_code hs
    rcases e2 with e2 | ⟨_, e3, e4, e5, e6⟩
    · rw [e2.1] at hc; cases hc
    · show ({ h with code := 0, i0 := 0, i1 := 0, i2 := 0 } : Hd) = h
      cases h; simp only at e3 e4 e5 e6; subst e3 e4 e5 e6; rfl
  · rw [if_neg hs]
    have hsv : h.service = 0 := by
      rcases e1 with e1 | e1
      · exact absurd e1 hs
      · exact e1
    show (if codeB h.type = true then _ else _) = h
    rcases e2 with ⟨hc, c1, c2⟩ | ⟨hc, e3, e4, e5, e6⟩
    · rw [if_pos hc]
      have hx : h.extraBytes ++ r = UInt8.ofNat (h.code.toNat % 256) :: UInt8.ofNat h.i0 :: UInt8.ofNat h.i1 :: UInt8.ofNat h.i2 :: r := by
        unfold Hd.extraBytes Hd.infoBytes
        rw [if_neg hs, if_pos hc]
        simp [beBytes]
      rw [hx]
      simp only [List.drop_succ_cons, List.drop_zero, List.take_succ_cons, List.take_zero, beNum_one, ofNat_byte]
      have b1 : ((h.code.toNat % 256 : Nat) : Int) = h.code := by omega
      have b2 : (UInt8.ofNat h.i0).toNat = h.i0 := by rw [UInt8.toNat_ofNat', Nat.mod_eq_of_lt (by omega)]
      have b3 : (UInt8.ofNat h.i1).toNat = h.i1 := by rw [UInt8.toNat_ofNat', Nat.mod_eq_of_lt (by omega)]
      have b4 : (UInt8.ofNat h.i2).toNat = h.i2 := by rw [UInt8.toNat_ofNat', Nat.mod_eq_of_lt (by omega)]
      rw [b1, b2, b3, b4]
      show ({ h with service := 0 } : Hd) = h
      cases h; simp only at hsv; subst hsv; rfl
    · rw [if_neg (by rw [hc]; decide)]
      show ({ h with service := 0, code := 0, i0 := 0, i1 := 0, i2 := 0 } : Hd) = h
      cases h; simp only at hsv e3 e4 e5 e6; subst hsv e3 e4 e5 e6; rfl

theorem nine_at (h : Hd) (hm : h.mayB = true) (r : List UInt8) : byteAt (h.nine ++ r) 4 = h.off.toNat ∧ byteAt (h.nine ++ r) 8 = typeN h.type.toNat h.x := by
  obtain ⟨_, _, ⟨o1, o2⟩, _, _, _, ⟨t1, t2⟩, _⟩ := mayB_bounds hm
  have ht := typeN_le h.type.toNat h.x (by omega)
  refine ⟨?_, ?_⟩
  · show (UInt8.ofNat (h.off.toNat % 256)).toNat = _
    rw [ofNat_byte]; omega
  · show (UInt8.ofNat (typeN h.type.toNat h.x % 256)).toNat = _
    rw [ofNat_byte]; omega
theorem type_of (h : Hd) (hm : h.mayB = true) (r : List UInt8) : hType (h.nine ++ r) = h.type.toNat ∧ hX (h.nine ++ r) = h.x := by
  obtain ⟨_, _, _, _, _, _, ⟨t1, t2⟩, _⟩ := mayB_bounds hm
  unfold hType hX
  rw [(nine_at h hm r).2]
  unfold typeN
  cases h.x
  · exact ⟨by simp <;> omega, by simp <;> omega⟩
  · exact ⟨by simp <;> omega, by simp <;> omega⟩
/-- What is wrong with bytes that begin with a head. -/
theorem fault_bytes (h : Hd) (hm : h.mayB = true) (r : List UInt8) : faultN (h.bytes ++ r) = if (h.bytes ++ r).length < h.off.toNat * 4 then 4 else 0 := by
  obtain ⟨_, _, ⟨o1, o2⟩, _, _, _, ⟨t1, t2⟩, _⟩ := mayB_bounds hm
  obtain ⟨hz, ho, _, _⟩ := mayB_more hm
  have hl := bytes_len hm
  have h12 : 12 ≤ sizeN h.type h.x := by
    have := sizeN_four h.type h.x
    have := size_parts hz
    have : 3 ≤ numsLen h := by unfold numsLen numLen; cases h.x <;> simp <;> omega
    omega
  have hll : (h.bytes ++ r).length = sizeN h.type h.x + r.length := by rw [List.length_append, hl]
  have hb : h.bytes ++ r = h.nine ++ (h.seqBytes ++ (h.ackBytes ++ (h.extraBytes ++ r))) := by rw [bytes_nine]; simp
  obtain ⟨ty, tx⟩ := type_of h hm (h.seqBytes ++ (h.ackBytes ++ (h.extraBytes ++ r)))
  obtain ⟨b4, _⟩ := nine_at h hm (h.seqBytes ++ (h.ackBytes ++ (h.extraBytes ++ r)))
  rw [← hb] at ty tx b4
  have hti : ((h.type.toNat : Nat) : Int) = h.type := by omega
  unfold faultN
  rw [ty, tx, b4, hti, if_neg (by omega), if_neg (by omega), if_neg hz, if_neg (by omega)]
  by_cases hc : (h.bytes ++ r).length < h.off.toNat * 4
  · rw [if_pos hc, if_pos (.inr hc)]
  · rw [if_neg hc, if_neg (by omega)]
/-- A head whose end is cut off is too short. -/
theorem fault_cut (h : Hd) (hm : h.mayB = true) (k : Nat) (hk : k < h.bytes.length) : faultN (h.bytes.take k) = 1 := by
  obtain ⟨_, _, ⟨o1, o2⟩, _, _, _, ⟨t1, t2⟩, _⟩ := mayB_bounds hm
  obtain ⟨hz, ho, _, _⟩ := mayB_more hm
  have hl := bytes_len hm
  have hlt : (h.bytes.take k).length = k := by rw [List.length_take]; omega
  unfold faultN
  by_cases h12 : k < 12
  · rw [if_pos (by omega)]
  · rw [if_neg (by omega)]
    have hb : h.bytes.take k = h.nine ++ ((h.seqBytes ++ (h.ackBytes ++ h.extraBytes)).take (k - 9)) := by
      rw [bytes_nine, show k = h.nine.length + (k - 9) by show k = 9 + (k - 9); omega, List.take_length_add_append]
      simp [Hd.nine]
    obtain ⟨ty, tx⟩ := type_of h hm ((h.seqBytes ++ (h.ackBytes ++ h.extraBytes)).take (k - 9))
    rw [← hb] at ty tx
    have hti : ((h.type.toNat : Nat) : Int) = h.type := by omega
    rw [ty, tx, hti, if_neg (by omega), if_neg hz, if_pos (by omega)]
end Go.Proofs.YtcdhllajdpalaaaGreatDoor
