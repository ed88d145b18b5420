/-
  The document's own May of options; the first option of a type.
-/
import Derived.Test.YtdlpapchjjbplaaGreatDoorRefOpt2
namespace Go.Proofs.YtdlpapchjjbplaaGreatDoor
open Go.ChangeShapes Go.WideShapes Go.ChangeAt Go.RowKit
set_option linter.unusedVariables false

theorem optMay_true {o : M.Opt} (h : 0 ≤ o.t ∧ o.t ≤ 255 ∧ (o.t < 32 ∧ o.d.length = 0 ∨ 32 ≤ o.t ∧ o.d.length ≤ 253)) : M.optMay o = true := decide_eq_true h
theorem optMay_false {o : M.Opt} (h : ¬ (0 ≤ o.t ∧ o.t ≤ 255 ∧ (o.t < 32 ∧ o.d.length = 0 ∨ 32 ≤ o.t ∧ o.d.length ≤ 253))) : M.optMay o = false := decide_eq_false h

set_option maxHeartbeats 4000000 in
set_option maxRecDepth 100000 in
theorem refMayOpt_any (o : M.Opt) (hd : o.d.length ≤ 9223372036854775807) (w : World) :
    Calls Tryz.prog 37 #[Ov o] w fun e w' => e = .returned (.bool (M.optMay o)) ∧ Below w.heap.size w w' := by
  have HTR := Lib.hid (fun h => optMay_true (o := o) h)
  have HFA := Lib.hid (fun h => optMay_false (o := o) h)
  have hsz : (str o.d).size = o.d.length := rfl
  have hem : (str o.d).toList = o.d := str_toList o.d
  unfold Ov
  generalize hs : str o.d = s at *
  generalize o.t = t at *
  by_cases h0 : t < 0
  · have HR := Lib.hid (HFA.out (by omega))
    have h0' : decide ((0 : Int) ≤ t) = false := decide_eq_false (by omega)
    clear hsz hem hs
    go_enter Tryz.func37, Tryz.ntmps37
    go_wp2
    go_ret
    exact ⟨ret_boolE (by rw [HR.out]), bel_alloc _ _⟩
  have h0' : decide ((0 : Int) ≤ t) = true := decide_eq_true (by omega)
  by_cases h1 : 255 < t
  · have HR := Lib.hid (HFA.out (by omega))
    have h1' : decide (t ≤ 255) = false := decide_eq_false (by omega)
    clear hsz hem hs
    go_enter Tryz.func37, Tryz.ntmps37
    go_wp2
    go_ret
    exact ⟨ret_boolE (by rw [HR.out]), bel_alloc _ _⟩
  have h1' : decide (t ≤ 255) = true := decide_eq_true (by omega)
  by_cases h2 : t < 32
  · have h2' : decide (t < 32) = true := decide_eq_true h2
    have h3' : decide (32 ≤ t) = false := decide_eq_false (by omega)
    by_cases hl : o.d.length = 0
    · have HR := Lib.hid (HTR.out (by omega))
      have he : s = ⟨#[]⟩ := by rw [← hs]; exact str_empty hl
      subst he
      clear hsz hem hs hl
      go_enter Tryz.func37, Tryz.ntmps37
      go_wp2
      go_ret
      exact ⟨ret_boolE (by rw [HR.out]), bel_alloc _ _⟩
    · have HR := Lib.hid (HFA.out (by omega))
      have he1 : s.toList.isEmpty = false := by rw [hem]; cases hq : o.d with | nil => rw [hq] at hl; exact absurd rfl hl | cons _ _ => rfl
      clear hsz hem hs hl
      go_enter Tryz.func37, Tryz.ntmps37
      go_wp2
      go_ret
      exact ⟨ret_boolE (by rw [HR.out]), bel_alloc _ _⟩
  · have h2' : decide (t < 32) = false := decide_eq_false h2
    have h3' : decide (32 ≤ t) = true := decide_eq_true (by omega)
    obtain ⟨L, hL⟩ : ∃ L : Int, (s.size : Int) = L := ⟨_, rfl⟩
    by_cases hl : L ≤ 253
    · have HR := Lib.hid (HTR.out (by omega))
      have hl' : decide (L ≤ 253) = true := decide_eq_true hl
      clear hsz hem hs
      go_enter Tryz.func37, Tryz.ntmps37
      go_wp2
      go_ret
      exact ⟨ret_boolE (by rw [HR.out]), bel_alloc _ _⟩
    · have HR := Lib.hid (HFA.out (by omega))
      have hl' : decide (L ≤ 253) = false := decide_eq_false hl
      clear hsz hem hs
      go_enter Tryz.func37, Tryz.ntmps37
      go_wp2
      go_ret
      exact ⟨ret_boolE (by rw [HR.out]), bel_alloc _ _⟩

/-- The first option of a type. -/
def findO (os : List M.Opt) (t : Int) : Option (List UInt8) := (os.find? fun o => decide (o.t = t)).map (·.d)
def findV (os : List M.Opt) (t : Int) : Value := match findO os t with
  | some d => .tuple #[.string (str d), .bool true]
  | none => .tuple #[.string ⟨#[]⟩, .bool false]

set_option maxHeartbeats 2000000 in
set_option maxRecDepth 100000 in
theorem find_any (w : World) (v : Value) (os : List M.Opt) (t : Int) (h : OptsAt w v os) :
    Calls Tryz.prog 40 #[v, .int .i64 t] w fun e w' => e = .returned (findV os t) ∧ Below w.heap.size w w' := by
  have hlen := h.len
  obtain ⟨p, cap, rfl, hp⟩ := h.parts
  have HP := Lib.hid hp
  clear hp h
  go_enter Tryz.func40, Tryz.ntmps40
  go_wp2
  go_loopw [10] (fun i wr => ∃ k : Nat, k ≤ os.length ∧ i = .int .i64 (k : Int) ∧ Hid (Below w.heap.size w wr) ∧ Hid (findO (os.take k) t = none)) (fun i _ => os.length - (intOf i).toNat)
  case atStart => exact ⟨0, Nat.zero_le _, rfl, Lib.hid (Below.refl _ _), Lib.hid rfl⟩
  case round =>
    obtain ⟨k, hk, rfl, hb, hnone⟩ := hrel
    by_cases hkn : k < os.length
    · obtain ⟨b, o, rfl, hbl, c1, d1⟩ := HP.out k hkn
      rw [← hb.out.cell (p := ⟨b, o + k * 2, none⟩) hbl] at c1
      rw [← hb.out.cell (p := ⟨b, o + k * 2 + 1, none⟩) hbl] at d1
      have hts := take_snocO os k hkn
      generalize os.getD k ⟨0, []⟩ = ok at *
      have hgk : os = os.take k ++ ok :: os.drop (k + 1) := by
        conv => lhs; rw [← List.take_append_drop (k + 1) os, hts, List.append_assoc]
        rfl
      have hfp : os.find? (fun o => decide (o.t = t)) = (ok :: os.drop (k + 1)).find? (fun o => decide (o.t = t)) ∧ (os.take (k + 1)).find? (fun o => decide (o.t = t)) = [ok].find? (fun o => decide (o.t = t)) := by
        have hn := hnone.out
        unfold findO at hn
        rw [Option.map_eq_none_iff] at hn
        refine ⟨?_, by rw [hts, List.find?_append, hn]; rfl⟩
        conv => lhs; rw [hgk]
        rw [List.find?_append, hn]; rfl
      have HFI : Hid (ok.t = t → findO os t = some ok.d) := Lib.hid (fun e => by
        unfold findO
        rw [hfp.1, List.find?_cons_of_pos (by simpa using e)]; rfl)
      have HNX : Hid (ok.t ≠ t → findO (os.take (k + 1)) t = none) := Lib.hid (fun e => by
        unfold findO
        rw [hfp.2, List.find?_cons_of_neg (by simpa using e)]; rfl)
      clear hfp
      obtain ⟨kt, kd⟩ := ok
      dsimp only at HFI HNX c1 d1
      clear hts hgk
      have HB2 := Lib.hid (hb.out.alloc hb.out.size (.cells #[.int .i64 kt, .string (str kd)] 54))
      by_cases he : kt = t
      · subst he
        have HR : Hid (findV os kt = .tuple #[.string (str kd), .bool true]) := Lib.hid (by unfold findV; rw [HFI.out rfl])
        go_wp2
        go_ret2
        exact ⟨by rw [HR.out]; rfl, HB2.out⟩
      · have he' : (kt == t) = false := by rw [beq_eq_false_iff_ne]; exact he
        have HN2 := Lib.hid (HNX.out he)
        clear he
        go_wp2
        refine ⟨⟨k + 1, by omega, by go_num, HB2, HN2⟩, ?_⟩
        simp [intOf]; omega
    · obtain rfl : k = os.length := by omega
      have hn := hnone.out
      rw [List.take_length] at hn
      have HR : Hid (findV os t = .tuple #[.string ⟨#[]⟩, .bool false]) := Lib.hid (by unfold findV; rw [hn])
      clear hn
      go_wp2
      go_ret2
      exact ⟨by rw [HR.out]; rfl, hb.out⟩
end Go.Proofs.YtdlpapchjjbplaaGreatDoor
