/-
  A packet of which one bit is turned; of which a byte of the data is turned.
-/
import Derived.Test.YtjbcjcfmjagbkaaGreatDoorPktMath
import Derived.Test.YtjbcjcfmjagbkaaGreatDoorLooseMath
namespace Go.Proofs.YtjbcjcfmjagbkaaGreatDoor
open Go
set_option linter.unusedVariables false
set_option linter.unusedSimpArgs false

theorem byte_sum (l : List UInt8) (p : Nat) (b : UInt8) (hp : p < l.length) (hb : b.toNat ≠ (l.getD p 0).toNat) : M.sum16 l ≠ M.sum16 (l.set p b) := by
  have hs := M.wsum_set l true p b hp
  have hx := (l.getD p 0).toNat_lt
  have hy := b.toNat_lt
  generalize (l.getD p 0).toNat = x at *
  generalize b.toNat = y at *
  unfold M.sum16
  generalize M.wsum true l = m at *
  generalize M.wsum true (l.set p b) = m2 at *
  have hw : M.wtE true p = 256 ∨ M.wtE true p = 1 := by unfold M.wtE; split <;> simp
  unfold M.fold16
  rcases hw with hw | hw <;> rw [hw] at hs
  · split <;> split <;> omega
  · split <;> split <;> omega

theorem top_bit : ∀ a : Fin 256, ∀ k : Fin 8, 4 ≤ k.val → (a.val ^^^ 2 ^ k.val) % 16 = a.val % 16 := by decide +kernel
theorem byteAt_getD (l : List UInt8) (i : Nat) : byteAt l i = (l.getD i 0).toNat := rfl

/-- A whole sum: the sum covers every byte. -/
theorem cov_whole {l : List UInt8} (h0 : (getHd l).cs = 0) (hc : covB l.length (getOff l : Nat) (getHd l).cs = true) : (getCov l).toNat = l.length := by
  unfold getCov covI
  unfold covB at hc
  rw [decide_eq_true_eq] at hc
  rw [if_neg hc.1, if_pos h0]; simp

theorem getErr_bit (h : Hd) (os : List M.Opt) (d : List UInt8) (hok : h.ok) (h0 : h.cs = 0) (he : putErr h os d = 0) (p k : Nat) (b : UInt8) (hp : p < (pkBytes h os d).length) (hk : k < 8) (hb : b.toNat = ((pkBytes h os d).getD p 0).toNat ^^^ 2 ^ k) (h5 : ¬ (p = 5 ∧ k < 4)) :
    getErr ((pkBytes h os d).set p b) ≠ 0 := by
  have R := pk_round h os d hok he
  have hcs : (getHd (pkBytes h os d)).cs = 0 := by rw [R.hd]; exact h0
  have hcv := cov_whole hcs R.cov
  have hs0 : M.sum16 (pkBytes h os d) = 0 := by
    have := R.sum
    rwa [hcv, List.take_length] at this
  have hf := fault_facts R.fault
  generalize pkBytes h os d = l at *
  have hne := (M.sum_bit l p k b hp hk hb).1
  have hcs5 : byteAt l 5 % 16 = 0 := by have := (getHd_off hf.1).2.1; omega
  have hl2 : (l.set p b).length = l.length := by simp
  have h52 : byteAt (l.set p b) 5 % 16 = 0 := by
    by_cases e : p = 5
    · subst e
      have : byteAt (l.set 5 b) 5 = b.toNat := by rw [byteAt_getD, M.getD_set _ _ _ _ hp, if_pos rfl]
      rw [this, hb, top_bit ⟨(l.getD 5 0).toNat, (l.getD 5 0).toNat_lt⟩ ⟨k, hk⟩ (by show 4 ≤ k; omega)]
      exact hcs5
    · rw [byteAt_set _ _ _ _ (by omega)]; exact hcs5
  intro hz
  unfold getErr at hz
  by_cases e1 : 2500 < (l.set p b).length
  · rw [if_pos e1] at hz; cases hz
  rw [if_neg e1] at hz
  by_cases e2 : faultN (l.set p b) ≠ 0
  · rw [if_pos e2] at hz; exact e2 hz
  rw [if_neg e2] at hz
  by_cases e3 : covB (l.set p b).length (getOff (l.set p b) : Nat) (getHd (l.set p b)).cs = false
  · rw [if_pos e3] at hz; cases hz
  rw [if_neg e3] at hz
  have hc2 : (getHd (l.set p b)).cs = 0 := by rw [(getHd_off (by rw [hl2]; exact hf.1)).2.1, h52]; rfl
  rw [cov_whole hc2 (by simpa using e3), List.take_length, if_pos (by omega)] at hz
  cases hz

/-- A byte of the data that is turned. -/
theorem cover_far (h : Hd) (os : List M.Opt) (d : List UInt8) (hok : h.ok) (he : putErr h os d = 0) (t : Nat) (v : UInt8) (ht : t < d.length) (hv : v.toNat ≠ (d.getD t 0).toNat) :
    ∃ l2, (pkBytes h os d).set (4 * offN h os + t) v = l2 ∧ getHd l2 = pkHead h os d ∧ getOs l2 = getOs (pkBytes h os d) ∧ l2.drop (getOff l2) = d.set t v ∧
      (t < covLen h os d → getErr l2 = 6) ∧ (¬ t < covLen h os d → getErr l2 = getErr (pkBytes h os d)) := by
  have R := pk_round h os d hok he
  obtain ⟨hm, hno, ⟨s1, s2, s3⟩, hc⟩ := putErr_zero he
  have hpm := pkHead_may (d := d) hm s3
  have hpo : (pkHead h os d).ok := ⟨hok.seq, hok.ack, hok.service, hok.i0, hok.i1, hok.i2⟩
  have hpl := bytes_len hpm
  have hsz : sizeN (pkHead h os d).type (pkHead h os d).x = sizeN h.type h.x := rfl
  rw [hsz] at hpl
  have hA : ((pkHead h os d).bytes ++ M.putOpts os).length = 4 * offN h os := by rw [List.length_append, hpl]; have := R.four; omega
  have hot : (pkHead h os d).off.toNat = offN h os := by show ((offN h os : Nat) : Int).toNat = _; simp
  have e1 : pkBytes h os d = ((pkHead h os d).bytes ++ M.putOpts os) ++ d := rfl
  have e2 : (pkBytes h os d).set (4 * offN h os + t) v = ((pkHead h os d).bytes ++ M.putOpts os) ++ d.set t v := by
    rw [e1, List.set_append_right _ _ (by omega), hA, show 4 * offN h os + t - 4 * offN h os = t by omega]
  refine ⟨_, rfl, ?_⟩
  have eb : (pkBytes h os d).set (4 * offN h os + t) v = (pkHead h os d).bytes ++ (M.putOpts os ++ d.set t v) := by rw [e2, List.append_assoc]
  have hlen : ((pkBytes h os d).set (4 * offN h os + t) v).length = (pkBytes h os d).length := by simp
  have hg : getHd ((pkBytes h os d).set (4 * offN h os + t) v) = pkHead h os d := by rw [eb]; exact getHd_bytes _ hpo hpm _
  have hoff : getOff ((pkBytes h os d).set (4 * offN h os + t) v) = 4 * offN h os := by
    unfold getOff
    have := (nine_at (pkHead h os d) hpm ((pkHead h os d).seqBytes ++ ((pkHead h os d).ackBytes ++ (pkHead h os d).extraBytes) ++ (M.putOpts os ++ d.set t v))).1
    rw [← List.append_assoc, ← bytes_nine, ← eb, hot] at this
    rw [this]; omega
  have hf : faultN ((pkBytes h os d).set (4 * offN h os + t) v) = 0 := by
    have := fault_bytes (pkHead h os d) hpm (M.putOpts os ++ d.set t v)
    rw [← eb, hot, hlen, R.len, if_neg (by omega)] at this
    exact this
  have hsize : getSize ((pkBytes h os d).set (4 * offN h os + t) v) = getSize (pkBytes h os d) := by unfold getSize; rw [hg, R.hd]
  have hos : getOs ((pkBytes h os d).set (4 * offN h os + t) v) = getOs (pkBytes h os d) := by
    unfold getOs
    rw [hoff, R.off, hsize, e2, e1, ← hA, List.take_left, List.take_left]
  have hdr : ((pkBytes h os d).set (4 * offN h os + t) v).drop (getOff ((pkBytes h os d).set (4 * offN h os + t) v)) = d.set t v := by
    rw [hoff, e2, ← hA, List.drop_left]
  have hcv : getCov ((pkBytes h os d).set (4 * offN h os + t) v) = getCov (pkBytes h os d) := by unfold getCov; rw [hlen, hoff, R.off, hg, R.hd]
  have hcB : covB ((pkBytes h os d).set (4 * offN h os + t) v).length (getOff ((pkBytes h os d).set (4 * offN h os + t) v) : Nat) (getHd ((pkBytes h os d).set (4 * offN h os + t) v)).cs = true := by
    have := R.cov; rw [R.off, R.hd] at this; rw [hlen, hoff, hg]; exact this
  have hl2 : ((pkBytes h os d).set (4 * offN h os + t) v).length ≤ 2500 := by rw [hlen, R.len]; omega
  refine ⟨hg, hos, hdr, ?_, ?_⟩
  · intro htc
    unfold getErr
    rw [if_neg (by omega), if_neg (by rw [hf]; simp), if_neg (by rw [hcB]; simp), if_pos]
    rw [hcv]
    have hs := R.sum
    intro hz
    rw [List.take_set] at hz
    have hlt : 4 * offN h os + t < ((pkBytes h os d).take (getCov (pkBytes h os d)).toNat).length := by rw [List.length_take, R.len]; have := R.covN; omega
    refine byte_sum _ _ v hlt ?_ (by rw [hs, hz])
    rw [List.getD_eq_getElem?_getD, List.getElem?_take_of_lt (by have := R.covN; omega), e1, List.getElem?_append_right (by omega), hA, show 4 * offN h os + t - 4 * offN h os = t by omega, ← List.getD_eq_getElem?_getD]
    exact hv
  · intro htc
    have hs2 : M.sum16 (((pkBytes h os d).set (4 * offN h os + t) v).take (getCov ((pkBytes h os d).set (4 * offN h os + t) v)).toNat) = 0 := by
      rw [hcv, t_set _ _ _ _ (by have := R.covN; omega)]; exact R.sum
    rw [R.err]
    unfold getErr
    rw [if_neg (by omega), if_neg (by rw [hf]; simp), if_neg (by rw [hcB]; simp), if_neg (by rw [hs2]; simp), hos]
end Go.Proofs.YtjbcjcfmjagbkaaGreatDoor
