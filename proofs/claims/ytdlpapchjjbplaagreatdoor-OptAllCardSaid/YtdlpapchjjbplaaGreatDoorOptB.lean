/-
  What opt.Put answers: options as bytes.
-/
import Derived.Test.YtdlpapchjjbplaaGreatDoorOptA
namespace Go.Proofs.YtdlpapchjjbplaaGreatDoor
open Go.ChangeShapes Go.WideShapes Go.ChangeAt Go.RowKit
set_option linter.unusedVariables false

theorem BytesOwn.shape {B : Nat} {v : Value} {l : List UInt8} {W0 w : World} (h : BytesOwn B v l W0 w) : ∃ p cap, v = .slice p l.length cap := by
  rcases h.1.2 with ⟨rfl, h0⟩ | ⟨g, cap, cur, fz, rfl, _⟩
  · exact ⟨none, 0, by rw [h0]⟩
  · exact ⟨_, _, rfl⟩

theorem BytesOwn.conv {B : Nat} {v : Value} {l : List UInt8} {W0 w : World} (h : BytesOwn B v l W0 w) : (convert 34 9 v).run Tryz.prog w = .ok (.string (str l)) w := by
  rcases h.1.2 with ⟨rfl, h0⟩ | ⟨g, cap, cur, fz, rfl, _, hg, _, _, _, _, ht⟩
  · rw [List.eq_nil_of_length_eq_zero h0]
    exact run_convert_bytes_nil w 34 5 Tryz.underlying34 Tryz.underlying5 0 0 9 Tryz.underlying9
  · refine run_convert_bytes_back w 34 9 5 ⟨g, 0, none⟩ cap l Tryz.underlying34 Tryz.underlying5 Tryz.underlying9 (fun j hj => ?_)
    have e := cell_of_row w g (0 + j) cur _ _ hg
    rw [show (⟨g, 0, none⟩ : Addr).add j = ⟨g, 0 + j, none⟩ from by simp [Addr.add]; exact fun h => h.symm, e, Nat.zero_add]
    rw [Nat.mul_one] at ht
    have h9 : cur.toList[j]? = (l.map byteV)[j]? := by
      rw [← ht, List.getElem?_take_of_lt hj]
    rw [← Array.getElem?_toList, h9]
    simp [hj, byteV]

/-- A slice of options, as it stands in memory. -/
structure OptsAt (w : World) (v : Value) (os : List M.Opt) : Prop where
  at_ : (os = [] ∧ ∃ a cap, v = .slice a 0 cap) ∨ ∃ b o cap, v = .slice (some ⟨b, o, none⟩) os.length cap ∧ b < w.heap.size ∧
    ∀ i, i < os.length → w.cell? ⟨b, o + i * 2, none⟩ = some (.int .i64 (os.getD i ⟨0, []⟩).t) ∧ w.cell? ⟨b, o + i * 2 + 1, none⟩ = some (.string (str (os.getD i ⟨0, []⟩).d))
  len : os.length ≤ 1073741824
  data : ∀ o ∈ os, o.d.length ≤ maxLen

theorem OptsAt.below {w w' : World} {v : Value} {os : List M.Opt} (h : OptsAt w v os) (hb : Below w.heap.size w w') : OptsAt w' v os := by
  refine ⟨?_, h.len, h.data⟩
  rcases h.at_ with h1 | ⟨b, o, cap, h1, h2, h3⟩
  · exact .inl h1
  · refine .inr ⟨b, o, cap, h1, Nat.lt_of_lt_of_le h2 hb.size, fun i hi => ?_⟩
    rw [hb.cell (p := ⟨b, o + i * 2, none⟩) h2, hb.cell (p := ⟨b, o + i * 2 + 1, none⟩) h2]
    exact h3 i hi

theorem take_snocO (os : List M.Opt) (k : Nat) (h : k < os.length) : os.take (k + 1) = os.take k ++ [os.getD k ⟨0, []⟩] := by
  rw [List.take_succ_eq_append_getElem h, List.getD_eq_getElem?_getD, List.getElem?_eq_getElem h]; rfl

def lenOf : Value → Nat
  | .slice _ n _ => n
  | _ => 0

theorem pad_len (n j : Nat) (hj : j < M.padLen n) : (n + j) % 4 ≠ 0 := by unfold M.padLen at hj; omega
theorem rep_snoc (l : List UInt8) (j : Nat) : l ++ List.replicate j 0 ++ [0] = l ++ List.replicate (j + 1) 0 := by
  rw [List.append_assoc, List.replicate_succ']

/-- The end of opt.Put: the bytes are padded, and a text is made of them. -/
def PutEnd (W0 : World) (l : List UInt8) (e : Ending) (w' : World) : Prop := e = .returned (.string (str l)) ∧ Below W0.heap.size W0 w'

set_option maxHeartbeats 1000000 in
set_option maxRecDepth 100000 in
theorem optPut_none (a : Option Addr) (cap : Nat) (w : World) :
    Calls Tryz.prog 38 #[.slice a 0 cap] w (PutEnd w []) := by
  have hconv := (BytesOwn.nil w).conv
  go_enter Tryz.func38, Tryz.ntmps38
  go_wp2
  go_loop [3, 8] (fun u k => u = .slice none 0 0 ∧ k = .int .i64 0) (fun _ k => (0 - intOf k).toNat)
  case atStart => exact ⟨rfl, rfl⟩
  case round =>
    obtain ⟨rfl, rfl⟩ := hrel
    go_wp2
    refine wp_loop_rounds 1 ?_
    rw [rounds_succ]
    go_wp2
    go_ret
    exact ⟨rfl, Below.refl _ _⟩

set_option maxHeartbeats 4000000 in
set_option maxRecDepth 100000 in
theorem optPut_some (b o cap : Nat) (os : List M.Opt) (w : World) (hb : b < w.heap.size)
    (hc : ∀ i, i < os.length → w.cell? ⟨b, o + i * 2, none⟩ = some (.int .i64 (os.getD i ⟨0, []⟩).t) ∧ w.cell? ⟨b, o + i * 2 + 1, none⟩ = some (.string (str (os.getD i ⟨0, []⟩).d)))
    (hlen : os.length ≤ 1073741824) (hdata : ∀ o ∈ os, o.d.length ≤ maxLen) :
    Calls Tryz.prog 38 #[.slice (some ⟨b, o, none⟩) os.length cap] w (PutEnd w (M.putOpts os)) := by
  have HC := Lib.hid hc; have HD := Lib.hid hdata; have HBW := Lib.hid hb
  have HP : Hid (M.putOpts os = if os.all M.optMay = true then M.pad4 (M.optsBytes os) else []) := Lib.hid rfl
  have HNIL := Lib.hid (BytesOwn.nil w)
  clear hc hdata hb
  go_enter Tryz.func38, Tryz.ntmps38
  go_wp2
  go_loopw [3, 8] (fun v i wr => ∃ k : Nat, k ≤ os.length ∧ i = .int .i64 k ∧ Hid (BytesOwn w.heap.size v (M.optsBytes (os.take k)) w wr) ∧ Hid ((os.take k).all M.optMay = true)) (fun _ i _ => os.length - (intOf i).toNat)
  case atStart => exact ⟨0, Nat.zero_le _, rfl, Lib.hid (by simpa [M.optsBytes] using HNIL.out), Lib.hid (by simp)⟩
  case round =>
    obtain ⟨k, hk, rfl, hown, hall⟩ := hrel
    by_cases hkn : k < os.length
    · have hlk := M.optsBytes_len _ hall.out
      rw [List.length_take, Nat.min_eq_left hk] at hlk
      have hts := take_snocO os k hkn
      obtain ⟨hc0, hc1⟩ := HC.out k hkn
      have hdk : (os.getD k ⟨0, []⟩).d.length ≤ maxLen := by
        rw [List.getD_eq_getElem?_getD, List.getElem?_eq_getElem hkn]
        exact HD.out _ (List.getElem_mem hkn)
      generalize hok : os.getD k ⟨0, []⟩ = ok at *
      have HTS := Lib.hid hts
      have c0 : wr.cell? ⟨b, o + k * 2, none⟩ = some (.int .i64 ok.t) := by rw [hown.out.bel.cell (p := ⟨b, o + k * 2, none⟩) HBW.out]; exact hc0
      have c1 : wr.cell? ⟨b, o + k * 2 + 1, none⟩ = some (.string (str ok.d)) := by rw [hown.out.bel.cell (p := ⟨b, o + k * 2 + 1, none⟩) HBW.out]; exact hc1
      have HM := Lib.hid (fun w => optMay_any ok w (by unfold maxLen at hdk; omega))
      unfold Ov at HM
      clear hts hok hc0 hc1 hdk
      by_cases hm : M.optMay ok = true
      · have HMM := Lib.hid hm
        rw [hm] at HM
        clear hm
        go_upto_region 7 with (go_at_call 36; refine (HM.out _).mono ?_; rintro e w1 ⟨rfl, hb1⟩)
        have ho1 : OvBlk ok wr.heap.size w1 := by
          unfold OvBlk
          rw [hb1.block _ (by simp)]
          exact OvBlk.new ok wr
        obtain ⟨d0, d1⟩ := ho1.cells
        have HB1 := Lib.hid ((hown.out.alloc (OvBox ok)).kept hb1)
        have hlm : (M.optsBytes (os.take k)).length ≤ 1099511627000 := by omega
        have HPT := Lib.hid (optPut1_any _ _ _ ok w w1 HB1.out HMM.out hlm)
        unfold Ov at HPT
        clear hb1 ho1 c0 c1 hlk hlm
        go_wp2_with (go_at_call 73; refine HPT.out.mono ?_; rintro e w2 ⟨v2, rfl, hb2⟩)
        refine ⟨⟨k + 1, by omega, by go_num, Lib.hid ?_, Lib.hid ?_⟩, by simp [intOf]; omega⟩
        · rw [HTS.out, M.optsBytes_snoc]; exact hb2
        · rw [HTS.out, List.all_append, hall.out]; simp [HMM.out]
      · have HMM := Lib.hid (Bool.eq_false_iff.2 hm)
        rw [Bool.eq_false_iff.2 hm] at HM
        clear hm
        go_wp2_with (go_at_call 36; refine (HM.out _).mono ?_; rintro e w1 ⟨rfl, hb1⟩)
        go_ret
        have hpo : M.putOpts os = [] := by
          rw [HP.out, if_neg]
          intro hh
          have h2 : (os.take (k + 1)).all M.optMay = true := by
            rw [List.all_eq_true] at hh ⊢
            exact fun x hx => hh x (List.mem_of_mem_take hx)
          rw [HTS.out, List.all_append] at h2
          simp [HMM.out] at h2
        refine ⟨by rw [hpo]; rfl, ?_⟩
        exact (hown.out.bel.alloc hown.out.2.2 _).trans (hb1.mono (by have := hown.out.2.2; simp; omega))
    · obtain rfl : k = os.length := by omega
      have hlk := M.optsBytes_len _ hall.out
      rw [List.take_length] at hown hall hlk
      have HPE : Hid (M.putOpts os = M.pad4 (M.optsBytes os)) := Lib.hid (by rw [HP.out, if_pos hall.out])
      clear HP HNIL HC HD
      generalize M.optsBytes os = l at *
      have hpl := M.padLen_lt l.length
      obtain ⟨p0, cap0, rfl⟩ := hown.out.shape
      go_wp2
      go_loopw [3] (fun u wx => ∃ j : Nat, j ≤ M.padLen l.length ∧ Hid (BytesOwn w.heap.size u (l ++ List.replicate j 0) w wx)) (fun u _ => (4 - lenOf u % 4) % 4)
      case atStart => exact ⟨0, Nat.zero_le _, Lib.hid (by simpa using hown.out)⟩
      case round =>
        obtain ⟨j, hj, hown2⟩ := hrel
        obtain ⟨p1, cap1, hu⟩ := hown2.out.shape
        subst hu
        have hll : (l ++ List.replicate j (0 : UInt8)).length = l.length + j := by simp
        rw [hll]
        rw [hll] at hown2
        by_cases hjp : j < M.padLen l.length
        · have hne := pad_len _ _ hjp
          have hne2 : (((l.length + j : Nat) : Int) % 4 != 0) = true := by rw [bne_iff_ne]; omega
          rw [← hll] at hne2 hown2 ⊢
          have hlen4 : (l ++ List.replicate j (0 : UInt8)).length ≤ 1099511627776 := by omega
          generalize hll2 : l ++ List.replicate j (0 : UInt8) = l2 at *
          have HLL := Lib.hid hll2; have HLL1 := Lib.hid hll
          clear hll hll2 hlk hne
          go_wp2_with (at_builtin; refine wp_byte rfl _ _ rfl _ _ l2 rfl w _ _ 0 (by simp) hown2.out _ rfl rfl hlen4 ?_; intro v1 w1 hb1 hk1)
          obtain ⟨p2, cap2, hv1⟩ := hb1.shape
          rw [← HLL.out, rep_snoc] at hb1
          have hl2 : l2.length = l.length + j := HLL1.out
          have hpe := M.padLen_mod l.length
          have e1 : lenOf v1 = l.length + j + 1 := by rw [hv1]; show (l2 ++ [0]).length = _; simp [hl2]
          have hpd : M.padLen l.length = (4 - l.length % 4) % 4 := rfl
          refine ⟨⟨j + 1, by omega, Lib.hid hb1⟩, ?_⟩
          rw [e1]
          show (4 - (l.length + j + 1) % 4) % 4 < (4 - l2.length % 4) % 4
          rw [hl2]
          omega
        · obtain rfl : j = M.padLen l.length := by omega
          have hz := M.padLen_mod l.length
          have hne2 : (((l.length + M.padLen l.length : Nat) : Int) % 4 != 0) = false := by rw [bne_eq_false_iff_eq]; omega
          have hconv := hown2.out.conv
          have HPD : Hid (M.putOpts os = l ++ List.replicate (M.padLen l.length) 0) := HPE
          clear hll hlk hz
          go_wp2
          go_ret
          exact ⟨ret_str (by rw [HPD.out]), hown2.out.bel⟩
end Go.Proofs.YtdlpapchjjbplaaGreatDoor
