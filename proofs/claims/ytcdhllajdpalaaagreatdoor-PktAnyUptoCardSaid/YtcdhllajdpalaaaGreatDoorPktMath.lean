/-
  A packet that is written is read: its head, options, data; its sum.
-/
import Derived.Test.YtcdhllajdpalaaaGreatDoorHeadMath
import Derived.Test.YtcdhllajdpalaaaGreatDoorOptMath2
import Derived.Test.YtcdhllajdpalaaaGreatDoorSumMath2
import Derived.Test.YtcdhllajdpalaaaGreatDoorPkB
namespace Go.Proofs.YtcdhllajdpalaaaGreatDoor
open Go
set_option linter.unusedVariables false
set_option linter.unusedSimpArgs false

theorem nine_sum (h : Hd) (s : Nat) (hs : s ≤ 65535) (r : List UInt8) : M.wsum true (({ h with sum := (s : Int) } : Hd).nine ++ r) = M.wsum true (({ h with sum := 0 } : Hd).nine ++ r) + s := by
  have e1 : ({ h with sum := (s : Int) } : Hd).nine = [UInt8.ofNat (h.src.toNat / 256 % 256), UInt8.ofNat (h.src.toNat % 256), UInt8.ofNat (h.dst.toNat / 256 % 256), UInt8.ofNat (h.dst.toNat % 256), UInt8.ofNat (h.off.toNat % 256), UInt8.ofNat ((h.cc.toNat * 16 + h.cs.toNat) % 256),
    UInt8.ofNat (s / 256 % 256), UInt8.ofNat (s % 256), UInt8.ofNat (typeN h.type.toNat h.x % 256)] := by
    unfold Hd.nine; simp
  have e0 : ({ h with sum := 0 } : Hd).nine = [UInt8.ofNat (h.src.toNat / 256 % 256), UInt8.ofNat (h.src.toNat % 256), UInt8.ofNat (h.dst.toNat / 256 % 256), UInt8.ofNat (h.dst.toNat % 256), UInt8.ofNat (h.off.toNat % 256), UInt8.ofNat ((h.cc.toNat * 16 + h.cs.toNat) % 256),
    0, 0, UInt8.ofNat (typeN h.type.toNat h.x % 256)] := by
    unfold Hd.nine; simp
  rw [e1, e0]
  have a1 := ofNat_byte (s / 256)
  have a2 := ofNat_byte s
  simp only [List.cons_append, List.nil_append, M.wsum, Bool.not_true, Bool.not_false, if_true, Bool.false_eq_true, if_false, a1, a2]
  simp
  omega
/-- With its own sum in its place a head's words and what is behind them come to nothing. -/
theorem own_sum (h : Hd) (h0 : h.sum = 0) (r : List UInt8) (s : Nat) (hs : M.sum16 (h.bytes ++ r) = s) : M.sum16 (({ h with sum := (s : Int) } : Hd).bytes ++ r) = 0 := by
  have hle : s ≤ 65535 := by rw [← hs]; unfold M.sum16; omega
  have e1 : ({ h with sum := (s : Int) } : Hd).bytes ++ r = ({ h with sum := (s : Int) } : Hd).nine ++ (h.seqBytes ++ (h.ackBytes ++ h.extraBytes) ++ r) := by
    rw [bytes_nine, List.append_assoc]; rfl
  have e0 : h.bytes ++ r = ({ h with sum := 0 } : Hd).nine ++ (h.seqBytes ++ (h.ackBytes ++ h.extraBytes) ++ r) := by
    have : ({ h with sum := 0 } : Hd) = h := by cases h; simp only at h0; subst h0; rfl
    rw [this, bytes_nine, List.append_assoc]
  have hw := nine_sum h s hle (h.seqBytes ++ (h.ackBytes ++ h.extraBytes) ++ r)
  rw [← e1, ← e0] at hw
  have hf := M.fits_own (h.bytes ++ r)
  rw [hs, ← hw] at hf
  unfold M.sum16
  rw [hf]

structure Round (h : Hd) (os : List M.Opt) (d l : List UInt8) : Prop where
  len : l.length = 4 * offN h os + d.length
  small : 4 * offN h os + d.length ≤ 2500 ∧ d.length ≤ 1400 ∧ offN h os ≤ 255
  hd : getHd l = pkHead h os d
  off : getOff l = 4 * offN h os
  size : getSize l = sizeN h.type h.x
  gos : getOs l = M.getOpts (M.putOpts os)
  gd : l.drop (getOff l) = d
  fault : faultN l = 0
  cov : covB l.length (getOff l : Nat) (getHd l).cs = true
  sum : M.sum16 (l.take (getCov l).toNat) = 0
  err : getErr l = if getOs l = none then 7 else 0
  four : 4 * offN h os = sizeN h.type h.x + (M.putOpts os).length
  covN : (getCov l).toNat = 4 * offN h os + covLen h os d ∧ covLen h os d ≤ d.length
theorem putErr_zero {h : Hd} {os : List M.Opt} {d : List UInt8} (he : putErr h os d = 0) : h.bare.mayB = true ∧ ¬ ((M.putOpts os).length = 0 ∧ 0 < os.length) ∧ (4 * offN h os + d.length ≤ 2500 ∧ d.length ≤ 1400 ∧ offN h os ≤ 255) ∧ covB (4 * offN h os + d.length : Nat) (4 * offN h os : Nat) h.cs = true := by
  unfold putErr at he
  by_cases h1 : h.bare.mayB = false
  · rw [if_pos h1] at he; cases he
  rw [if_neg h1] at he
  by_cases h2 : (M.putOpts os).length = 0 ∧ 0 < os.length
  · rw [if_pos h2] at he; cases he
  rw [if_neg h2] at he
  by_cases h3 : largeB (offN h os) d.length = true
  · rw [if_pos h3] at he; cases he
  rw [if_neg h3] at he
  by_cases h4 : covB (4 * offN h os + d.length : Nat) (4 * offN h os : Nat) h.cs = false
  · rw [if_pos h4] at he; cases he
  refine ⟨by simpa using h1, h2, ?_, by simpa using h4⟩
  unfold largeB at h3
  rw [decide_eq_true_eq] at h3
  omega
theorem cov_parts {t o c : Int} (h : covB t o c = true) : o ≤ covI t o c ∧ covI t o c ≤ t ∧ 0 ≤ o := by
  unfold covB at h
  rw [decide_eq_true_eq] at h
  obtain ⟨h1, h2⟩ := h
  unfold covI
  rw [if_neg h1]
  by_cases hc : c = 0
  · rw [if_pos hc]; omega
  · rw [if_neg hc, if_neg (by omega)]; omega
theorem pk_round (h : Hd) (os : List M.Opt) (d : List UInt8) (hok : h.ok) (he : putErr h os d = 0) : Round h os d (pkBytes h os d) := by
  obtain ⟨hm, hno, ⟨s1, s2, s3⟩, hc⟩ := putErr_zero he
  have hpm := pkHead_may (d := d) hm s3
  have hpl := bytes_len hpm
  have hsz : sizeN (pkHead h os d).type (pkHead h os d).x = sizeN h.type h.x := rfl
  rw [hsz] at hpl
  have hal := ahead_len hm s3
  rw [List.length_append, off1_len hm s3] at hal
  have hlen : (pkBytes h os d).length = 4 * offN h os + d.length := by
    unfold pkBytes
    rw [List.length_append, List.length_append, hpl, hal]
  have hpo : (pkHead h os d).ok := ⟨hok.seq, hok.ack, hok.service, hok.i0, hok.i1, hok.i2⟩
  have eb : pkBytes h os d = (pkHead h os d).bytes ++ (M.putOpts os ++ d) := by unfold pkBytes; rw [List.append_assoc]
  have hg : getHd (pkBytes h os d) = pkHead h os d := by rw [eb]; exact getHd_bytes _ hpo hpm _
  have hot : (pkHead h os d).off.toNat = offN h os := by show ((offN h os : Nat) : Int).toNat = _; simp
  have hoff : getOff (pkBytes h os d) = 4 * offN h os := by
    unfold getOff
    have := (nine_at (pkHead h os d) hpm ((pkHead h os d).seqBytes ++ ((pkHead h os d).ackBytes ++ (pkHead h os d).extraBytes) ++ (M.putOpts os ++ d))).1
    rw [← List.append_assoc, ← bytes_nine, ← eb, hot] at this
    rw [this]; omega
  have hf : faultN (pkBytes h os d) = 0 := by
    have := fault_bytes (pkHead h os d) hpm (M.putOpts os ++ d)
    rw [← eb, hot, if_neg (by omega)] at this
    exact this
  have hsize : getSize (pkBytes h os d) = sizeN h.type h.x := by unfold getSize; rw [hg]; rfl
  have hcs : (getHd (pkBytes h os d)).cs = h.cs := by rw [hg]; rfl
  have hcov : covB (pkBytes h os d).length (getOff (pkBytes h os d) : Nat) (getHd (pkBytes h os d)).cs = true := by rw [hlen, hoff, hcs]; exact hc
  have hos : getOs (pkBytes h os d) = M.getOpts (M.putOpts os) := by
    unfold getOs
    rw [hoff, hsize]
    congr 1
    unfold pkBytes
    rw [List.take_append_of_le_length (by rw [List.length_append, hpl]; omega), List.take_of_length_le (by rw [List.length_append, hpl]; omega), ← hpl, List.drop_left]
  have hd : (pkBytes h os d).drop (getOff (pkBytes h os d)) = d := by
    rw [hoff]
    unfold pkBytes
    rw [show 4 * offN h os = ((pkHead h os d).bytes ++ M.putOpts os).length by rw [List.length_append, hpl, hal], List.drop_left]
  obtain ⟨c1, c2, _⟩ := cov_parts hc
  have hcn : (getCov (pkBytes h os d)).toNat = 4 * offN h os + covLen h os d ∧ covLen h os d ≤ d.length := by
    unfold getCov covLen
    rw [hlen, hoff, hcs]
    omega
  have hsum : M.sum16 ((pkBytes h os d).take (getCov (pkBytes h os d)).toNat) = 0 := by
    rw [hcn.1]
    have e : (pkBytes h os d).take (4 * offN h os + covLen h os d) = (pkHead h os d).bytes ++ (M.putOpts os ++ d.take (covLen h os d)) := by
      unfold pkBytes
      rw [show 4 * offN h os = ((pkHead h os d).bytes ++ M.putOpts os).length by rw [List.length_append, hpl, hal], List.take_length_add_append, List.append_assoc]
    rw [e]
    have := own_sum (h.off1 os) rfl (M.putOpts os ++ d.take (covLen h os d)) (pkSum h os d) (by unfold pkSum; rw [List.append_assoc])
    exact this
  refine ⟨hlen, ⟨s1, s2, s3⟩, hg, hoff, hsize, hos, hd, hf, hcov, hsum, ?_, by omega, hcn⟩
  unfold getErr
  rw [if_neg (by omega), if_neg (by rw [hf]; simp), if_neg (by rw [hcov]; simp), if_neg (by rw [hsum]; simp)]
end Go.Proofs.YtcdhllajdpalaaaGreatDoor
