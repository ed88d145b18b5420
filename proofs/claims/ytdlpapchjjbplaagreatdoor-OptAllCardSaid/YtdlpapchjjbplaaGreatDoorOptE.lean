/-
  opt.Get's walk.
-/
import Derived.Test.YtdlpapchjjbplaaGreatDoorOptD
namespace Go.Proofs.YtdlpapchjjbplaaGreatDoor
open Go.ChangeShapes Go.WideShapes Go.ChangeAt Go.RowKit
set_option linter.unusedVariables false

def strLen : Value → Nat
  | .string s => s.size
  | _ => 0

set_option maxHeartbeats 4000000 in
set_option maxRecDepth 100000 in
theorem optGet_any (l : List UInt8) (hl : l.length ≤ 1073741824) (w : World) :
    Calls Tryz.prog 33 #[.string (str l)] w (GetOut w (M.getOpts l)) := by
  have HNIL := Lib.hid (OptsOwn.nil w)
  have HST := Lib.hid (GetAt.start l)
  go_enter Tryz.func33, Tryz.ntmps33
  go_wp2
  go_loopw [0, 4, 5] (fun b v t wr => ∃ (rest : List UInt8) (acc : List M.Opt) (wt : Bool), b = .string (str rest) ∧ t = .bool wt ∧ Hid (OptsOwn w.heap.size v acc w wr) ∧ Hid (GetAt l acc wt rest)) (fun b _ _ _ => strLen b)
  case atStart => exact ⟨l, [], false, rfl, rfl, HNIL, HST⟩
  case round =>
    obtain ⟨rest, acc, wt, rfl, rfl, hown, hat⟩ := hrel
    by_cases hne : rest = []
    · subst hne
      have e : str [] = ⟨#[]⟩ := rfl
      rw [e]
      cases wt
      · have hr := Lib.hid hat.out.end_yes
        go_wp2
        go_ret2
        refine ⟨hown.out.2.1, ?_⟩
        rw [hr.out]
        exact ⟨_, rfl, hown.out⟩
      · have hr := Lib.hid hat.out.end_no
        go_wp2
        go_ret2
        refine ⟨hown.out.2.1, ?_⟩
        rw [hr.out]
        rfl
    · have HNE := Lib.hid hne
      have hemp : (str rest).toList.isEmpty = false := by rw [str_toList]; cases rest with | nil => exact absurd rfl hne | cons _ _ => rfl
      have hnl := M.firstN_le rest hne
      have HF := Lib.hid (fun w => first_any rest (by have := hat.out.2.2; omega) hne w)
      have hsz : M.firstN rest ≤ (str rest).size := hnl
      have hdrop := str_drop rest (M.firstN rest)
      have hrl : (str rest).size ≤ 1073741824 := by show rest.length ≤ _; have := hat.out.2.2; omega
      unfold Ov at HF
      have HBAD := Lib.hid (fun h0 : M.firstN rest = 0 => hat.out.bad hne h0)
      have HPAD := Lib.hid (fun h0 h1 => hat.out.pad (rest := rest) hne h0 h1)
      have HTW := Lib.hid (fun (hw : wt = true) h0 h1 => GetAt.twice (l := l) (acc := acc) (rest := rest) (by rw [← hw]; exact hat.out) hne h0 h1)
      have HNX := Lib.hid (fun h0 h1 h2 => hat.out.next (rest := rest) hne h0 h1 h2)
      have hacc : acc.length ≤ 1073741824 := by have := hat.out.2.1; omega
      have HOV := Lib.hid (M.firstO_le rest)
      generalize hn : M.firstN rest = n at *
      generalize hpo : M.firstO rest = p at *
      have HSD := Lib.hid (rfl : str (rest.drop n) = str (rest.drop n))
      obtain ⟨rs, hrs⟩ : ∃ rs, str (rest.drop n) = rs := ⟨_, rfl⟩
      obtain ⟨s, hs⟩ : ∃ s, str rest = s := ⟨_, rfl⟩
      rw [hs] at hemp hsz hdrop hrl HF ⊢
      rw [hrs] at hdrop
      have HRS := Lib.hid hrs; have HS := Lib.hid hs
      have HRSZ : Hid (rs.size = s.size - n) := Lib.hid (by rw [← hrs, ← hs]; show (rest.drop n).length = _; rw [List.length_drop]; rfl)
      obtain ⟨t, d⟩ := p
      obtain ⟨ds, hds⟩ : ∃ ds, str d = ds := ⟨_, rfl⟩
      dsimp only at HF HPAD HTW HNX
      rw [hds] at HF
      have HDS := Lib.hid hds
      clear hne hnl hn hpo hrs hs hds HSD hat
      by_cases h0 : n = 0
      · subst h0
        have hr := Lib.hid (HBAD.out rfl)
        clear hdrop
        go_wp2_with (go_at_call 71; refine (HF.out _).mono ?_; rintro e w1 ⟨rfl, hb1⟩)
        go_ret2
        refine ⟨(hown.out.2.1.trans (hb1.mono hown.out.2.2)).alloc (Nat.le_trans hown.out.2.2 hb1.size) _, ?_⟩
        rw [hr.out]
        rfl
      have hb0 : (((n : Nat) : Int) == 0) = false := by rw [beq_eq_false_iff_ne]; omega
      have hnp : 0 < n := by omega
      by_cases h1 : t = 0
      · subst h1
        have HG := Lib.hid (HPAD.out h0 rfl)
        go_wp2_with (go_at_call 71; refine (HF.out _).mono ?_; rintro e w1 ⟨rfl, hb1⟩)
        refine ⟨⟨rest.drop n, acc, wt, by rw [HRS.out], rfl, Lib.hid ((hown.out.kept hb1).kept (bel_alloc _ _)), HG⟩, ?_⟩
        show rs.size < s.size
        rw [HRSZ.out]; omega
      have hb1' : (t == 0) = false := by rw [beq_eq_false_iff_ne]; exact h1
      by_cases h2 : t = 1
      · subst h2
        cases wt
        · have HG := Lib.hid (HNX.out h0 (by decide) (by decide))
          have hdd : decide ((1 : Int) = 1) = true := by decide
          rw [hdd] at HG
          clear h0 h1 hdd
          go_wp2_with (first
            | (go_at_call 71; refine (HF.out _).mono ?_; rintro e w1 ⟨rfl, hb1⟩)
            | (at_builtin; refine wp_opt rfl _ _ rfl _ _ acc rfl w (w1.alloc (.cells #[.int .i64 1, .string ds] 54)) _ ⟨1, d⟩ (by unfold OvBox; rw [HDS.out]) ((hown.out.kept hb1).kept (bel_alloc _ _)) _ (by simp) rfl hacc ?_; intro v2 w2 hb2))
          refine ⟨⟨rest.drop n, _, true, by rw [HRS.out], rfl, Lib.hid hb2, HG⟩, ?_⟩
          show rs.size < s.size
          rw [HRSZ.out]; omega
        · have hr := Lib.hid (HTW.out rfl h0 rfl)
          clear h0 h1
          go_wp2_with (go_at_call 71; refine (HF.out _).mono ?_; rintro e w1 ⟨rfl, hb1⟩)
          go_ret2
          refine ⟨(hown.out.2.1.trans (hb1.mono hown.out.2.2)).alloc (Nat.le_trans hown.out.2.2 hb1.size) _, ?_⟩
          rw [hr.out]
          rfl
      · have hb2' : (t == 1) = false := by rw [beq_eq_false_iff_ne]; exact h2
        have HG := Lib.hid (HNX.out h0 h1 (fun h => h2 h.2))
        rw [decide_eq_false h2] at HG
        clear h0 h1 h2
        cases wt
        all_goals
          go_wp2_with (first
            | (go_at_call 71; refine (HF.out _).mono ?_; rintro e w1 ⟨rfl, hb1⟩)
            | (at_builtin; refine wp_opt rfl _ _ rfl _ _ acc rfl w (w1.alloc (.cells #[.int .i64 t, .string ds] 54)) _ ⟨t, d⟩ (by unfold OvBox; rw [HDS.out]) ((hown.out.kept hb1).kept (bel_alloc _ _)) _ (by simp) rfl hacc ?_; intro v2 w2 hb2))
          refine ⟨⟨rest.drop n, _, false, by rw [HRS.out], rfl, Lib.hid hb2, HG⟩, ?_⟩
          show rs.size < s.size
          rw [HRSZ.out]; omega
end Go.Proofs.YtdlpapchjjbplaaGreatDoor
