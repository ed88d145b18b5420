/-
  The document's own May of options; the first option of a type.
  The document's own Put of options that may be.
-/
import Derived.Test.YtjbcjcfmjagbkaaGreatDoorRefOpM
import Derived.Test.YtjbcjcfmjagbkaaGreatDoorText
import Derived.Deep.RegionHeld3
namespace Go.Proofs.YtjbcjcfmjagbkaaGreatDoor
open Go.ChangeShapes Go.WideShapes Go.ChangeAt Go.RowKit
set_option linter.unusedVariables false

theorem optMay_true {o : M.Opt} (h : 0 ≤ o.t ∧ o.t ≤ 255 ∧ (o.t < 32 ∧ o.d.length = 0 ∨ 32 ≤ o.t ∧ o.d.length ≤ 253)) : M.optMay o = true := decide_eq_true h
theorem optMay_false {o : M.Opt} (h : ¬ (0 ≤ o.t ∧ o.t ≤ 255 ∧ (o.t < 32 ∧ o.d.length = 0 ∨ 32 ≤ o.t ∧ o.d.length ≤ 253))) : M.optMay o = false := decide_eq_false h

set_option maxHeartbeats 4000000 in
set_option maxRecDepth 100000 in
theorem refMayOpt_any (o : M.Opt) (hd : o.d.length ≤ 9223372036854775807) (w : World) :
    Calls Tryz.prog 92 #[Ov o] w fun e w' => e = .returned (.bool (M.optMay o)) ∧ Below w.heap.size w w' := by
  have HTR := Lib.hid (fun h => optMay_true (o := o) h)
  have HFA := Lib.hid (fun h => optMay_false (o := o) h)
  have hsz : (str o.d).size = o.d.length := rfl
  have hem : (str o.d).toList = o.d := str_toList o.d
  unfold Ov
  generalize hs : str o.d = s at *
  generalize o.t = t at *
  by_cases h0 : t < 0
  · have HR := Lib.hid (HFA.out (by omega))
    have h0' : decide ((0 : Int) ≤ t) = false := decide_eq_false (by omega)
    clear hsz hem hs
    go_enter Tryz.func92, Tryz.ntmps92
    go_wp2
    go_ret
    exact ⟨ret_boolE (by rw [HR.out]), bel_alloc _ _⟩
  have h0' : decide ((0 : Int) ≤ t) = true := decide_eq_true (by omega)
  by_cases h1 : 255 < t
  · have HR := Lib.hid (HFA.out (by omega))
    have h1' : decide (t ≤ 255) = false := decide_eq_false (by omega)
    clear hsz hem hs
    go_enter Tryz.func92, Tryz.ntmps92
    go_wp2
    go_ret
    exact ⟨ret_boolE (by rw [HR.out]), bel_alloc _ _⟩
  have h1' : decide (t ≤ 255) = true := decide_eq_true (by omega)
  by_cases h2 : t < 32
  · have h2' : decide (t < 32) = true := decide_eq_true h2
    have h3' : decide (32 ≤ t) = false := decide_eq_false (by omega)
    by_cases hl : o.d.length = 0
    · have HR := Lib.hid (HTR.out (by omega))
      have he : s = ⟨#[]⟩ := by rw [← hs]; exact str_empty hl
      subst he
      clear hsz hem hs hl
      go_enter Tryz.func92, Tryz.ntmps92
      go_wp2
      go_ret
      exact ⟨ret_boolE (by rw [HR.out]), bel_alloc _ _⟩
    · have HR := Lib.hid (HFA.out (by omega))
      have he1 : s.toList.isEmpty = false := by rw [hem]; cases hq : o.d with | nil => rw [hq] at hl; exact absurd rfl hl | cons _ _ => rfl
      clear hsz hem hs hl
      go_enter Tryz.func92, Tryz.ntmps92
      go_wp2
      go_ret
      exact ⟨ret_boolE (by rw [HR.out]), bel_alloc _ _⟩
  · have h2' : decide (t < 32) = false := decide_eq_false h2
    have h3' : decide (32 ≤ t) = true := decide_eq_true (by omega)
    obtain ⟨L, hL⟩ : ∃ L : Int, (s.size : Int) = L := ⟨_, rfl⟩
    by_cases hl : L ≤ 253
    · have HR := Lib.hid (HTR.out (by omega))
      have hl' : decide (L ≤ 253) = true := decide_eq_true hl
      clear hsz hem hs
      go_enter Tryz.func92, Tryz.ntmps92
      go_wp2
      go_ret
      exact ⟨ret_boolE (by rw [HR.out]), bel_alloc _ _⟩
    · have HR := Lib.hid (HFA.out (by omega))
      have hl' : decide (L ≤ 253) = false := decide_eq_false hl
      clear hsz hem hs
      go_enter Tryz.func92, Tryz.ntmps92
      go_wp2
      go_ret
      exact ⟨ret_boolE (by rw [HR.out]), bel_alloc _ _⟩

/-- The first option of a type. -/
def findO (os : List M.Opt) (t : Int) : Option (List UInt8) := (os.find? fun o => decide (o.t = t)).map (·.d)
def findV (os : List M.Opt) (t : Int) : Value := match findO os t with
  | some d => .tuple #[.string (str d), .bool true]
  | none => .tuple #[.string ⟨#[]⟩, .bool false]

end Go.Proofs.YtjbcjcfmjagbkaaGreatDoor

namespace Go.Proofs.YtjbcjcfmjagbkaaGreatDoor
open Go.ChangeShapes Go.WideShapes Go.ChangeAt Go.RowKit
set_option linter.unusedVariables false

/-- A cell that is read while memory is made. -/
def CSt (w : World) (b i : Nat) (x : Value) (W : World) : Prop := W.cell? ⟨b, i, none⟩ = some x ∧ b < W.heap.size ∧ Below w.heap.size w W
theorem CSt.s {w W : World} {b i : Nat} {x : Value} (h : CSt w b i x W) : CSt w b i x W ∧ W.cell? ⟨b, i, none⟩ = some x := ⟨h, h.1⟩
theorem CSt.drew {w W : World} {b i : Nat} {x : Value} (h : CSt w b i x W) : CSt w b i x W.drew := ⟨h.1, h.2.1, h.2.2.drew⟩
theorem CSt.below {w W W' : World} {b i : Nat} {x : Value} (h : CSt w b i x W) (hb : Below W.heap.size W W') : CSt w b i x W' :=
  ⟨by rw [hb.cell (p := ⟨b, i, none⟩) h.2.1]; exact h.1, Nat.lt_of_lt_of_le h.2.1 hb.size, bel_trans h.2.2 hb⟩

theorem refByte_any (n : Nat) (hn : n < 256) (w : World) :
    Calls Tryz.prog 75 #[.int .u64 n, .int .i64 1] w fun e w' => e = .returned (.string (str [UInt8.ofNat n])) ∧ Below w.heap.size w w' := by
  have h := refBytes_any n 1 (by omega) (by omega) w
  have e : beBytes 1 n = [UInt8.ofNat n] := by
    show [UInt8.ofNat (n / 256 ^ 0 % 256)] = _
    rw [Nat.pow_zero, Nat.div_one, Nat.mod_eq_of_lt hn]
  rw [e] at h
  exact h

set_option maxHeartbeats 8000000 in
set_option maxRecDepth 100000 in
theorem refPutOpts_any (w : World) (v : Value) (os : List M.Opt) (h : OptsAt w v os) (hall : os.all M.optMay = true) (hl1 : os.length ≤ 1000000) :
    Calls Tryz.prog 41 #[v] w fun e w' => e = .returned (.string (str (M.putOpts os))) ∧ Below w.heap.size w w' := by
  obtain ⟨p, cap, rfl, hp⟩ := h.parts
  have HP := Lib.hid hp
  have HA := Lib.hid hall
  have HPO : Hid (M.putOpts os = M.pad4 (M.optsBytes os)) := Lib.hid (by unfold M.putOpts; rw [if_pos hall])
  clear hp h hall
  go_enter Tryz.func41, Tryz.ntmps41
  go_wp2
  go_loopw [3, 4] (fun u i wr => ∃ (k : Nat) (s : ByteArray), k ≤ os.length ∧ i = .int .i64 (k : Int) ∧ u = .string s ∧ s.size ≤ 255000000 ∧ Hid (s = str (M.optsBytes (os.take k))) ∧ Hid (Below w.heap.size w wr)) (fun _ i _ => os.length - (intOf i).toNat)
  case atStart => exact ⟨0, _, Nat.zero_le _, rfl, rfl, by decide, Lib.hid rfl, Lib.hid (Below.refl _ _)⟩
  case round =>
    obtain ⟨k, s, hk, rfl, rfl, hsz, hs, hb⟩ := hrel
    by_cases hkn : k < os.length
    · obtain ⟨b, o, rfl, hbl, c1, d1⟩ := HP.out k hkn
      rw [← hb.out.cell (p := ⟨b, o + k * 2, none⟩) hbl] at c1
      rw [← hb.out.cell (p := ⟨b, o + k * 2 + 1, none⟩) hbl] at d1
      have hts := take_snocO os k hkn
      have hallk : (os.take (k + 1)).all M.optMay = true := by
        have := HA.out
        rw [List.all_eq_true] at this ⊢
        exact fun x hx => this x (List.mem_of_mem_take hx)
      have hmk : M.optMay (os.getD k ⟨0, []⟩) = true := by
        rw [hts, List.all_append, Bool.and_eq_true] at hallk
        exact (List.all_eq_true.1 hallk.2) _ (List.mem_singleton.2 rfl)
      have hlen := M.optsBytes_len _ hallk
      rw [List.length_take, Nat.min_eq_left (show k + 1 ≤ os.length from hkn)] at hlen
      generalize os.getD k ⟨0, []⟩ = ok at *
      have hm : 0 ≤ ok.t ∧ ok.t ≤ 255 ∧ (ok.t < 32 ∧ ok.d.length = 0 ∨ 32 ≤ ok.t ∧ ok.d.length ≤ 253) := of_decide_eq_true hmk
      have hsn : M.optsBytes (os.take (k + 1)) = M.optsBytes (os.take k) ++ M.optBytes ok := by rw [hts, M.optsBytes_snoc]
      obtain ⟨T, hT⟩ : ∃ T : Nat, ok.t = (T : Int) := ⟨ok.t.toNat, by omega⟩
      obtain ⟨bt, hbt⟩ : ∃ b, str [UInt8.ofNat T] = b := ⟨_, rfl⟩
      have HBT := Lib.hid (fun w => refByte_any T (by omega) w)
      rw [hbt] at HBT
      have hbts : bt.size ≤ 1 := by rw [← hbt]; exact Nat.le_refl _
      rw [hT] at c1
      have hcat1 : ¬ 9223372036854775807 < s.size + bt.size := by omega
      have hT256 : T < 256 := by omega
      have HSN := Lib.hid hsn; have HM := Lib.hid hm; have HTT := Lib.hid hT; have HBB := Lib.hid hbt; have HLEN := Lib.hid hlen
      clear hts hallk hmk hlen hm hsn hT hbt
      go_upto_region 6 with (go_at_call 75; (with_reducible refine (HBT.out _).mono ?_); rintro e w1 ⟨rfl, hb1⟩)
      have hbw : b < wr.heap.size := Nat.lt_of_lt_of_le hbl hb.out.size
      rw [← hb1.cell (p := ⟨b, o + k * 2, none⟩) hbw] at c1
      rw [← hb1.cell (p := ⟨b, o + k * 2 + 1, none⟩) hbw] at d1
      have hbw1 : b < w1.heap.size := Nat.lt_of_lt_of_le hbw hb1.size
      have HB1 : Hid (Below w.heap.size w w1) := Lib.hid (bel_trans hb.out hb1)
      clear hb1 hbw hbl
      by_cases h32 : T < 32
      · have h32' : decide ((32 : Int) ≤ (T : Int)) = false := decide_eq_false (by omega)
        have HS2 : Hid (s ++ bt = str (M.optsBytes (os.take (k + 1)))) := Lib.hid (by
          rw [HSN.out, hs.out, ← HBB.out, str_append]
          unfold M.optBytes
          rw [HTT.out, if_pos (by omega)]; rfl)
        have hss : (s ++ bt).size ≤ 255000000 := by
          rw [HS2.out, str_size]; have := HLEN.out; omega
        go_wp2
        refine ⟨⟨k + 1, _, by omega, by go_num, rfl, hss, HS2, HB1⟩, ?_⟩
        simp [intOf]; omega
      · have h32' : decide ((32 : Int) ≤ (T : Int)) = true := decide_eq_true (by omega)
        obtain ⟨N2, hN2⟩ : ∃ N2 : Nat, N2 = 2 + ok.d.length := ⟨_, rfl⟩
        have hN256 : N2 < 256 := by have := HM.out; have := HTT.out; omega
        obtain ⟨ds, hds⟩ : ∃ ds, str ok.d = ds := ⟨_, rfl⟩
        obtain ⟨L, hL⟩ : ∃ L : Int, (ds.size : Int) = L := ⟨_, rfl⟩
        have hL2 : L + 2 = (N2 : Int) := by rw [← hL, ← hds, str_size]; omega
        have hL3 : 0 ≤ L ∧ L ≤ 253 := by omega
        obtain ⟨ba, hba⟩ : ∃ b, str [UInt8.ofNat N2] = b := ⟨_, rfl⟩
        have HBA := Lib.hid (fun w => refByte_any N2 hN256 w)
        rw [hba] at HBA
        rw [hds] at d1
        have hbas : ba.size ≤ 1 := by rw [← hba]; exact Nat.le_refl _
        have hdss : ds.size ≤ 253 := by omega
        have hcat2 : ¬ 9223372036854775807 < ba.size + ds.size := by omega
        have hbd : (ba ++ ds).size ≤ 254 := by rw [ByteArray.size_append]; omega
        have hsb : (s ++ bt).size ≤ 255000001 := by rw [ByteArray.size_append]; omega
        have HS2 : Hid (s ++ bt ++ (ba ++ ds) = str (M.optsBytes (os.take (k + 1)))) := Lib.hid (by
          rw [HSN.out, hs.out, ← HBB.out, ← hba, ← hds, str_append, str_append, str_append]
          unfold M.optBytes
          rw [HTT.out, if_neg (by omega), hN2]
          simp)
        have hcat3 : ¬ 9223372036854775807 < (s ++ bt).size + (ba ++ ds).size := by omega
        have hcat4 : ¬ 9223372036854775807 < s.size + bt.size + (ba.size + ds.size) := by omega
        have hss : (s ++ bt ++ (ba ++ ds)).size ≤ 255000000 := by
          rw [HS2.out, str_size]; have := HLEN.out; omega
        have HST : Hid (CSt w1 b (o + k * 2 + 1) (.string ds) w1) := Lib.hid ⟨d1, hbw1, Below.refl _ _⟩
        clear hN2 hds hba hsb hcat1
        go_upto_region 7 with fail
        clear c1
        have hw1 : IntKind.i64.wrap (N2 : Int) = (N2 : Int) := IntWalk.i64_in _ (by omega)
        have hw2 : IntKind.u64.wrap (N2 : Int) = (N2 : Int) := IntWalk.u64_in _ (by omega)
        go_region_held3 (fun W => CSt w1 b (o + k * 2 + 1) (.string ds) W ∧ W.cell? ⟨b, o + k * 2 + 1, none⟩ = some (.string ds))
          (first | exact HST.out.s | exact HST.out.drew.s | exact (CSt.below (And.left ‹CSt w1 b (o + k * 2 + 1) (.string ds) _ ∧ _›) hb2).s)
          (first
          | (go_at_call 75; (with_reducible refine (HBA.out _).mono ?_); rintro e w2 ⟨rfl, hb2⟩))
        all_goals (
          go_wp2
          refine ⟨⟨k + 1, _, by omega, by go_num, rfl, hss, HS2, Lib.hid (bel_trans HB1.out (by first | exact hb2 | exact bel_trans (bel_drewN _ 1) hb2 | exact bel_trans hb2 (bel_drewN _ 1)))⟩, ?_⟩
          simp [intOf]; omega)
    · obtain rfl : k = os.length := by omega
      have hs2 := hs.out
      rw [List.take_length] at hs2
      have HS0 := Lib.hid hs2
      have HBW := Lib.hid hb.out
      clear hs2 hs
      generalize M.optsBytes os = l at *
      have hpl := M.padLen_lt l.length
      go_wp2
      go_loopw [3] (fun u wx => ∃ (j : Nat) (s2 : ByteArray), j ≤ M.padLen l.length ∧ u = .string s2 ∧ s2.size ≤ 255000010 ∧ Hid (s2 = str (l ++ List.replicate j 0)) ∧ Hid (Below w.heap.size w wx)) (fun u _ => (4 - strLen u % 4) % 4)
      case atStart => exact ⟨0, s, Nat.zero_le _, rfl, by omega, Lib.hid (by rw [HS0.out]; simp), HBW⟩
      case round =>
        obtain ⟨j, s2, hj, rfl, hsz2, hs2, hbx⟩ := hrel
        have hl2 : s2.size = l.length + j := by rw [hs2.out, str_size]; simp
        obtain ⟨E, hE⟩ : ∃ E : Int, (s2.size : Int) = E := ⟨_, rfl⟩
        obtain ⟨r, hr⟩ : ∃ r : Int, E % 4 = r := ⟨_, rfl⟩
        have hE0 : 0 ≤ E := by omega
        have hr2 : E.tmod 4 = r := by rw [Int.tmod_eq_emod_of_nonneg hE0, hr]
        have HL2 := Lib.hid hl2
        by_cases hjp : j < M.padLen l.length
        · have hne := pad_len _ _ hjp
          have hr3 : decide (0 < r) = true := decide_eq_true (by omega)
          have HNE := Lib.hid hne
          have hc1 : ¬ 9223372036854775807 < s2.size + 1 := by omega
          have HN : Hid (s2 ++ ⟨#[0]⟩ = str (l ++ List.replicate (j + 1) 0)) := Lib.hid (by
            rw [hs2.out, ← rep_snoc]; exact str_append _ [0])
          have hss : (s2 ++ ⟨#[0]⟩).size ≤ 255000010 := by
            rw [HN.out, str_size]; simp; have := HS0.out; have e : s.size = l.length := by rw [this]; rfl
            omega
          clear hl2 hne
          go_wp2
          refine ⟨⟨j + 1, _, by omega, rfl, hss, HN, hbx⟩, ?_⟩
          have hpd : M.padLen l.length = (4 - l.length % 4) % 4 := rfl
          have e1 : strLen (.string (s2 ++ ⟨#[0]⟩)) = l.length + (j + 1) := by show (s2 ++ ⟨#[0]⟩).size = _; rw [HN.out, str_size]; simp
          rw [e1]
          show (4 - (l.length + (j + 1)) % 4) % 4 < (4 - s2.size % 4) % 4
          rw [HL2.out]
          omega
        · obtain rfl : j = M.padLen l.length := by omega
          have hz := M.padLen_mod l.length
          have hr3 : decide (0 < r) = false := decide_eq_false (by omega)
          have HR : Hid (M.putOpts os = l ++ List.replicate (M.padLen l.length) 0) := HPO
          clear hl2 hz
          go_wp2
          go_ret
          exact ⟨ret_str (by rw [hs2.out, HR.out]), hbx.out⟩
end Go.Proofs.YtjbcjcfmjagbkaaGreatDoor
