/-
  The document's own reading of options; options compared; the first one of a type.
  Options compared; the first one of a type; the document's own May.
-/
import Derived.Test.YtcdhllajdpalaaaGreatDoorOpB
import Derived.Deep.QuietTactic
import Derived.BigQuiet
namespace Go.Proofs.YtcdhllajdpalaaaGreatDoor
open Go.ChangeShapes Go.WideShapes Go.ChangeAt Go.RowKit
set_option linter.unusedVariables false

theorem bAt_drop (l : List UInt8) (k i : Nat) : M.bAt (l.drop k) i = M.bAt l (k + i) := by
  unfold M.bAt; simp [List.getD_eq_getElem?_getD]
theorem index_at (l : List UInt8) (s : ByteArray) (hs : str l = s) (k : Nat) (hk : k < l.length) (i : Int) (hi : i = (k : Int)) (W : World) :
    (Instr.index 9 (.string s) (.int .i64 i)).run Tryz.prog W = .ok (.int .u8 (M.bAt l k)) W := by
  subst hs hi
  have h2 : k < (str l).size := hk
  rw [run_index_string W 9 (str l) .i64 _ Tryz.underlying9, dif_pos (by omega)]
  have := byte_at l (str l) rfl k h2
  simp only [Int.toNat_natCast]
  rw [this]

set_option maxHeartbeats 8000000 in
set_option maxRecDepth 100000 in
theorem refGetOpts_any (l : List UInt8) (hl : l.length ≤ 1073741824) (w : World) :
    Calls Tryz.prog 21 #[.string (str l)] w (GetOut w (M.getOpts l)) := by
  have HNIL := Lib.hid (OptsOwn.nil w)
  have HST := Lib.hid (GetAt.start l)
  obtain ⟨s, hs⟩ : ∃ s, str l = s := ⟨_, rfl⟩
  have hss : s.size = l.length := by rw [← hs]; rfl
  have HS := Lib.hid hs; have HSS := Lib.hid hss
  rw [hs]
  have hsz : s.size ≤ 1073741824 := by omega
  clear hs hss hl
  go_enter Tryz.func21, Tryz.ntmps21
  go_wp2
  go_loopw [4, 5, 6] (fun v t i wr => ∃ (k : Nat) (acc : List M.Opt) (wt : Bool), i = .int .i64 (k : Int) ∧ t = .bool wt ∧ k ≤ s.size ∧ Hid (OptsOwn w.heap.size v acc w wr) ∧ Hid (GetAt l acc wt (l.drop k))) (fun _ _ i _ => s.size - (intOf i).toNat)
  case atStart => exact ⟨0, [], false, rfl, rfl, Nat.zero_le _, HNIL, HST⟩
  case round =>
    obtain ⟨k, acc, wt, rfl, rfl, hk, hown, hat⟩ := hrel
    by_cases hks : k < s.size
    · have hkl : k < l.length := by have := HSS.out; omega
      have hne : l.drop k ≠ [] := fun e => by have := congrArg List.length e; rw [List.length_drop] at this; simp at this; omega
      have hrl : (l.drop k).length = s.size - k := by rw [List.length_drop, HSS.out]
      have hix := index_at l s HS.out k hkl k rfl
      have hb0 : M.bAt (l.drop k) 0 = M.bAt l k := by rw [bAt_drop]; rfl
      have hb1 : M.bAt (l.drop k) 1 = M.bAt l (k + 1) := bAt_drop l k 1
      have hl0 := M.bAt_lt l k
      have hl1 := M.bAt_lt l (k + 1)
      have hacc : acc.length ≤ 1073741824 := by have := hat.out.2.1; have := HSS.out; omega
      have hdd : ∀ n, (l.drop k).drop n = l.drop (k + n) := fun n => List.drop_drop
      have HN : Hid (M.firstN (l.drop k) = if M.bAt l k < 32 then 1 else if (l.drop k).length < 2 then 0 else if M.bAt l (k + 1) < 2 ∨ (l.drop k).length < M.bAt l (k + 1) then 0 else M.bAt l (k + 1)) := Lib.hid (by unfold M.firstN; rw [hb0, hb1])
      have HO : Hid (M.firstO (l.drop k) = if M.bAt l k < 32 then ⟨M.bAt l k, []⟩ else if M.firstN (l.drop k) = 0 then ⟨0, []⟩ else ⟨M.bAt l k, ((l.drop k).take (M.bAt l (k + 1))).drop 2⟩) := Lib.hid (by unfold M.firstO; rw [hb0, hb1])
      have HIX1 := Lib.hid (fun (h : k + 1 < l.length) => index_at l s HS.out (k + 1) h)
      have HRL := Lib.hid hrl; have HNE := Lib.hid hne; have HDD := Lib.hid hdd
      clear hb0 hb1 hrl hne hkl hdd
      generalize hn0 : M.bAt l k = n0 at *
      generalize hn1 : M.bAt l (k + 1) = n1 at *
      clear hn0 hn1
      by_cases h32 : n0 < 32
      · have HN2 : Hid (M.firstN (l.drop k) = 1) := Lib.hid (by rw [HN.out, if_pos h32])
        have HO2 : Hid (M.firstO (l.drop k) = ⟨n0, []⟩) := Lib.hid (by rw [HO.out, if_pos h32])
        have h0 : M.firstN (l.drop k) ≠ 0 := by rw [HN2.out]; omega
        by_cases h0' : n0 = 0
        · have HG : Hid (GetAt l acc wt (l.drop (k + 1))) := Lib.hid (by
            have h := hat.out.pad HNE.out h0 (by rw [HO2.out]; show (n0 : Int) = 0; omega)
            rwa [HN2.out, HDD.out] at h)
          subst h0'
          clear h0 h32
          go_wp2
          refine ⟨⟨k + 1, acc, wt, by go_num, rfl, by omega, hown, HG⟩, ?_⟩
          simp [intOf]; omega
        · have hz0 : ((n0 : Int) == 0) = false := by rw [beq_eq_false_iff_ne]; omega
          by_cases h1' : n0 = 1
          · cases wt
            · have HG : Hid (GetAt l (acc ++ [⟨1, []⟩]) true (l.drop (k + 1))) := Lib.hid (by
                have h := hat.out.next HNE.out h0 (by rw [HO2.out]; show (n0 : Int) ≠ 0; omega) (by simp)
                rw [HN2.out, HDD.out, HO2.out, h1'] at h
                exact h)
              subst h1'
              clear h0 h32 h0' hz0
              go_wp2_with (at_builtin; refine wp_opt rfl _ _ rfl _ _ acc rfl w wr _ ⟨1, []⟩ rfl hown.out _ rfl rfl hacc ?_; intro v2 w2 hb2)
              refine ⟨⟨k + 1, _, true, by go_num, rfl, by omega, Lib.hid hb2, HG⟩, ?_⟩
              simp [intOf]; omega
            · have HR : Hid (M.getOpts l = none) := Lib.hid (hat.out.twice HNE.out h0 (by rw [HO2.out]; show (n0 : Int) = 1; omega))
              subst h1'
              clear h0 h32 h0' hz0
              go_wp2
              go_ret2
              refine ⟨hown.out.2.1, ?_⟩
              rw [HR.out]
              rfl
          · have hz1 : ((n0 : Int) == 1) = false := by rw [beq_eq_false_iff_ne]; omega
            have HG : Hid (GetAt l (acc ++ [⟨n0, []⟩]) false (l.drop (k + 1))) := Lib.hid (by
              have h := hat.out.next HNE.out h0 (by rw [HO2.out]; show (n0 : Int) ≠ 0; omega) (by rw [HO2.out]; intro h; have := h.2; exact h1' (by show n0 = 1; have h3 : (n0 : Int) = 1 := this; omega))
              rw [HN2.out, HDD.out, HO2.out] at h
              rw [show decide (((⟨n0, []⟩ : M.Opt)).t = 1) = false from decide_eq_false (by show ¬ (n0 : Int) = 1; omega)] at h
              exact h)
            clear h0 h0' h1'
            cases wt
            all_goals
              go_wp2_with (at_builtin; refine wp_opt rfl _ _ rfl _ _ acc rfl w wr _ ⟨n0, []⟩ rfl hown.out _ rfl rfl hacc ?_; intro v2 w2 hb2)
              refine ⟨⟨k + 1, _, false, by go_num, rfl, by omega, Lib.hid hb2, HG⟩, ?_⟩
              simp [intOf]; omega
      · have hz0 : ((n0 : Int) == 0) = false := by rw [beq_eq_false_iff_ne]; omega
        have hz1 : ((n0 : Int) == 1) = false := by rw [beq_eq_false_iff_ne]; omega
        have hz2 : decide ((n0 : Int) < 32) = false := decide_eq_false (by omega)
        have HB : Hid (M.firstN (l.drop k) = 0 → M.getOpts l = none) := Lib.hid (fun h => hat.out.bad HNE.out h)
        by_cases hk1 : k + 1 < s.size
        · have hix1 := HIX1.out (by have := HSS.out; omega) ((k : Int) + 1) (by omega)
          have hx1 : ¬ s.size ≤ k + 1 := by omega
          by_cases h3 : n1 < 2
          · have HR : Hid (M.getOpts l = none) := Lib.hid (HB.out (by rw [HN.out, if_neg h32, if_neg (by rw [HRL.out]; omega), if_pos (.inl h3)]))
            cases wt
            all_goals
              go_wp2
              go_ret2
              refine ⟨hown.out.2.1, ?_⟩
              rw [HR.out]
              rfl
          · by_cases h4 : s.size < k + n1
            · have HR : Hid (M.getOpts l = none) := Lib.hid (HB.out (by rw [HN.out, if_neg h32, if_neg (by rw [HRL.out]; omega), if_pos (.inr (by rw [HRL.out]; omega))]))
              cases wt
              all_goals
                go_wp2
                go_ret2
                refine ⟨hown.out.2.1, ?_⟩
                rw [HR.out]
                rfl
            · have HN2 : Hid (M.firstN (l.drop k) = n1) := Lib.hid (by rw [HN.out, if_neg h32, if_neg (by rw [HRL.out]; omega), if_neg (by rw [HRL.out]; omega)])
              obtain ⟨dl, hdl⟩ : ∃ d, ((l.drop k).take n1).drop 2 = d := ⟨_, rfl⟩
              have HO2 : Hid (M.firstO (l.drop k) = ⟨n0, dl⟩) := Lib.hid (by rw [HO.out, if_neg h32, if_neg (by rw [HN2.out]; omega), hdl])
              have HG : Hid (GetAt l (acc ++ [⟨n0, dl⟩]) false (l.drop (k + n1))) := Lib.hid (by
                have h := hat.out.next HNE.out (by rw [HN2.out]; omega) (by rw [HO2.out]; show (n0 : Int) ≠ 0; omega) (by rw [HO2.out]; intro h; have h3 : (n0 : Int) = 1 := h.2; omega)
                rw [HN2.out, HDD.out, HO2.out] at h
                rw [show decide (((⟨n0, dl⟩ : M.Opt)).t = 1) = false from decide_eq_false (by show ¬ (n0 : Int) = 1; omega)] at h
                exact h)
              have hrun : ∀ W : World, (Instr.slice 9 (.string s) (some (.int .i64 ((k : Int) + 2))) (some (.int .i64 ((k : Int) + (n1 : Int)))) none).run Tryz.prog W = .ok (.string (str dl)) W := fun W => by
                rw [run_slice_string W 9 s .i64 .i64 _ _ Tryz.underlying9 (by omega) (by omega) (by omega)]
                have hx := str_extract l (k + 2) (k + n1)
                rw [HS.out] at hx
                rw [show ((k : Int) + 2).toNat = k + 2 by omega, show ((k : Int) + (n1 : Int)).toNat = k + n1 by omega, hx, ← hdl, List.take_drop, List.drop_drop]
              clear hdl
              cases wt
              all_goals
                go_wp2_with (at_builtin; refine wp_opt rfl _ _ rfl _ _ acc rfl w wr _ ⟨n0, dl⟩ rfl hown.out _ rfl rfl hacc ?_; intro v2 w2 hb2)
                refine ⟨⟨k + n1, _, false, by go_num, rfl, by omega, Lib.hid hb2, HG⟩, ?_⟩
                simp [intOf]; omega
        · have HR : Hid (M.getOpts l = none) := Lib.hid (HB.out (by rw [HN.out, if_neg h32, if_pos (by rw [HRL.out]; omega)]))
          have hx1 : s.size ≤ k + 1 := by omega
          cases wt
          all_goals
            go_wp2
            go_ret2
            refine ⟨hown.out.2.1, ?_⟩
            rw [HR.out]
            rfl
    · have he : l.drop k = [] := List.drop_eq_nil_of_le (by have := HSS.out; omega)
      have hat := hat.out
      rw [he] at hat
      cases wt
      · have HR := Lib.hid hat.end_yes
        clear hat he
        go_wp2
        go_ret2
        refine ⟨hown.out.2.1, ?_⟩
        rw [HR.out]
        exact ⟨_, rfl, hown.out⟩
      · have HR := Lib.hid hat.end_no
        clear hat he
        go_wp2
        go_ret2
        refine ⟨hown.out.2.1, ?_⟩
        rw [HR.out]
        rfl
end Go.Proofs.YtcdhllajdpalaaaGreatDoor

namespace Go.Proofs.YtcdhllajdpalaaaGreatDoor
open Go.ChangeShapes Go.WideShapes Go.ChangeAt Go.RowKit
set_option linter.unusedVariables false

theorem OptsAt.parts {w : World} {v : Value} {os : List M.Opt} (h : OptsAt w v os) : ∃ p cap, v = .slice p os.length cap ∧ ∀ i, i < os.length → ∃ b o, p = some ⟨b, o, none⟩ ∧ b < w.heap.size ∧
    w.cell? ⟨b, o + i * 2, none⟩ = some (.int .i64 (os.getD i ⟨0, []⟩).t) ∧ w.cell? ⟨b, o + i * 2 + 1, none⟩ = some (.string (str (os.getD i ⟨0, []⟩).d)) := by
  rcases h.at_ with ⟨rfl, a, cap, rfl⟩ | ⟨b, o, cap, rfl, hb, hc⟩
  · exact ⟨a, cap, rfl, fun i hi => absurd hi (Nat.not_lt_zero i)⟩
  · exact ⟨_, cap, rfl, fun i hi => ⟨b, o, rfl, hb, (hc i hi).1, (hc i hi).2⟩⟩

set_option maxHeartbeats 2000000 in
set_option maxRecDepth 100000 in
theorem opts_same (w : World) (v1 v2 : Value) (os : List M.Opt) (h1 : OptsAt w v1 os) (h2 : OptsAt w v2 os) :
    Calls Tryz.prog 22 #[v1, v2] w fun e w' => e = .returned (.bool true) ∧ ∃ n, w' = w.drewN n := by
  have hlen := h1.len
  obtain ⟨p1, cap1, rfl, hp1⟩ := h1.parts
  obtain ⟨p2, cap2, rfl, hp2⟩ := h2.parts
  have HP1 := Lib.hid hp1; have HP2 := Lib.hid hp2
  clear hp1 hp2 h1 h2
  generalize hn : os.length = n at *
  clear hn
  go_enter Tryz.func22, Tryz.ntmps22
  go_wp2
  go_loopw [13] (fun i wr => ∃ k : Nat, k ≤ n ∧ i = .int .i64 (k : Int) ∧ Hid (∃ m, wr = w.drewN m)) (fun i _ => n - (intOf i).toNat)
  case atStart => exact ⟨0, Nat.zero_le _, rfl, Lib.hid ⟨0, rfl⟩⟩
  case round =>
    obtain ⟨k, hk, rfl, hm⟩ := hrel
    by_cases hkn : k < n
    · obtain ⟨b1, o1, rfl, hb1, c1, d1⟩ := HP1.out k hkn
      obtain ⟨b2, o2, rfl, hb2, c2, d2⟩ := HP2.out k hkn
      have hcw : ∀ a, wr.cell? a = w.cell? a := by
        obtain ⟨m, rfl⟩ := hm.out
        exact fun a => rfl
      rw [← hcw] at c1 d1 c2 d2
      generalize (os.getD k ⟨0, []⟩).t = t at *
      generalize (os.getD k ⟨0, []⟩).d = d at *
      generalize str d = ds at *
      clear hcw
      go_upto_region 6 with fail
      go_quiet (fail)
      go_wp2
      refine ⟨⟨k + 1, by omega, by go_num, Lib.hid ?_⟩, ?_⟩
      · obtain ⟨m, rfl⟩ := hm.out
        exact ⟨_, World.drewN_drewN _ _ _⟩
      · simp [intOf]; omega
    · go_wp2
      go_ret
      exact ⟨rfl, hm.out⟩
end Go.Proofs.YtcdhllajdpalaaaGreatDoor
