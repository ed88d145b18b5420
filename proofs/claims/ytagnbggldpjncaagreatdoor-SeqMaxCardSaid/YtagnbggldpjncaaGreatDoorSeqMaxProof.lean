/- The law SeqMax holds: for every input it answers true and leaves its arguments as they were. No condition beyond the listed variables, which the card ties to the program's text. -/
import Derived.Test.YtagnbggldpjncaaGreatDoorRows
import Derived.WalkKit
import Derived.ProofKit
import Derived.OpenShut
import Derived.Test.YtagnbggldpjncaaGreatDoorRowB
import Derived.Test.YtagnbggldpjncaaGreatDoorLawSeq3
import Derived.Test.YtagnbggldpjncaaGreatDoorCards
import Derived.Test.YtagnbggldpjncaaGreatDoorTie
import Derived.LaidMore
import Derived.Lay
import Derived.SevenTiedAt
import Derived.Stop.Joined
namespace Go.Proofs.YtagnbggldpjncaaGreatDoor.seqMax
open Go.ChangeShapes Go.WideShapes Go.ChangeAt Go.RowKit Go.WideElems
set_option linter.unusedVariables false

theorem own : ownKnob Tryz.prog.godebug = none := by kernel_rfl
theorem laidOut : laidOutB Tryz.prog = true := by kernel_rfl

set_option maxRecDepth 100000 in
theorem lifted (os : Os) (started : os.Started) (H : Type) (enc : TypeId × Value → H) :
    ReturnsInHanded {} Tryz.checked os 7 .any (fun w args => (Rows.seqMaxSpec.pre enc Tryz.prog Tryz.f7 Rows.seqMaxRow.domain false w args ∧ laidMetH Tryz.prog Rows.seqMaxRow.laid w) ∧ sizedMet enc Tryz.prog Tryz.f7 (OpenSpec.ofChange Rows.seqMaxSpec) false w args) (Rows.seqMaxSpec.post enc Tryz.prog Tryz.f7 false true false false) := by
  refine returnsInHanded_of_change_and (C := Tryz.checked) (X := fun w _ => laidMetH Tryz.prog Rows.seqMaxRow.laid w) (fun _ _ _ hh h => h.of_heap hh) own started (by kernel_rfl) Tryz.func7
    (ChangeSpec.witness_shaped (enc := enc) (C := Tryz.checked) (os := os) (X := fun w _ => laidMetH Tryz.prog Rows.seqMaxRow.laid w) false (World.laidAll Tryz.prog os Rows.seqMaxRow.laid) #[.int .u64 0, .slice none 0 0] 8 (World.laidAll_os _ _ _)
      (World.shaped_of_ZipB (by kernel_rfl) (by kernel_rfl)) (by kernel_rfl) (by kernel_rfl) (by kernel_rfl)
      (by rw [MakeChecks.laidMetH_plain _ _ _ (by kernel_rfl)]; exact laidMet_laidAll _ (by kernel_rfl) (by kernel_rfl))) ?_
  intro W base args ds gs before hval0 hW hcnd hshape hlaid hsized
  have hval : ∀ (j : Nat) t v, Tryz.f7.params[j]? = some t → args[j]? = some v → Value.okWide Tryz.prog W .any base t v := hval0
  have hW' := hW
  obtain ⟨p, q, hA0, hV, rfl, hfz, hnd⟩ := hW
  have hA : DataW.TrodAll enc Tryz.prog W 0 (fun _ => true) true Tryz.f7.params.toList args.toList ds p := hA0
  have hlt := hA.lt
  rw [Tryz.params7] at hA hval
  obtain ⟨v0, vs0, d0, ds0, q0, g0, hargs, rfl, rfl, h0, r0⟩ := trodAll_cons hA
  obtain ⟨v1, vs1, d1, ds1, q1, g1, rfl, rfl, rfl, h1, r1⟩ := trodAll_cons r0
  obtain ⟨rfl, rfl, rfl⟩ := trodAll_nil r1
  obtain rfl : args = #[v0, v1] := by cases args; simp_all
  obtain ⟨rfl, rfl⟩ := trodVars_none hV
  obtain ⟨a0, rfl, rfl, rfl, w0⟩ := open_int Tryz.underlying22 (hval 0 22 v0 rfl rfl) h0
  obtain ⟨p1, n1, c1, rfl⟩ := okWide_slice Tryz.underlying35 (hval 1 35 v1 rfl rfl)
  obtain ⟨f1, hf1⟩ := h1
  have o1 := open_ints Tryz.underlying35 Tryz.underlying22 (by kernel_rfl) hf1
  clear hA0 hval0
  have fin : Calls Tryz.prog 7 #[.int .u64 a0, .slice p1 n1 c1] W fun e w' => e = .returned (.bool true) ∧ Below W.heap.size W w' := by
    have b0 := bounds_u64 w0
    obtain ⟨s, rfl⟩ := Int.eq_ofNat_of_zero_le b0.1
    rcases o1 with ⟨hcs, hx⟩ | ⟨a, len', cap', zs, hcs, _, hl, hm, hz, hx, hcell, hwz⟩
    · simp [Value.cells] at hcs
      obtain ⟨rfl, rfl, rfl⟩ := hcs
      exact seqMaxLaw_none s (by omega) none 0 (by omega) W
    · simp [Value.cells] at hcs
      obtain ⟨rfl, rfl, rfl⟩ := hcs
      simp only [if_true] at hz
      have hm' : c1 ≤ 9223372036854775807 := hm
      by_cases hn : n1 = 0
      · subst hn
        exact seqMaxLaw_none s (by omega) (some a) c1 hm' W
      · obtain ⟨xs, rfl⟩ : ∃ xs : List Nat, zs = xs.map (fun (x : Nat) => (x : Int)) := ⟨zs.map Int.toNat, by
          rw [List.map_map]
          conv => lhs; rw [← List.map_id zs]
          apply List.map_congr_left
          intro z hz0
          have := (bounds_u64 (hwz z hz0)).1
          simp; omega⟩
        rw [List.length_map] at hz hcell
        have hab : a.block < W.heap.size := by
          have h0 := hcell 0 (by omega)
          exact seqMax_block h0
        refine seqMaxLaw_some s (by omega) a xs n1 c1 (by omega) (by omega) hl hm' (fun x hx0 => ?_) W hab (fun i hi => ?_)
        · have := (bounds_u64 (hwz (x : Int) (List.mem_map.2 ⟨x, hx0, rfl⟩))).2
          omega
        · rw [hcell i hi]
          simp [List.getD_eq_getElem?_getD, hi]
  refine fin.mono fun e W' ⟨he, hg⟩ => ?_
  subst he
  exact ⟨_, rfl, post_law laidOut (by kernel_rfl) hW' rfl rfl rfl (fun _ _ _ => trodAll_cons_mk (shut_bool Tryz.underlying4 _) trodAll_mk0) hg⟩

theorem over : Rows.seqMaxRow.holds Tryz.pinned (OpenSpec.ofChange Rows.seqMaxSpec) :=
  OpenClaim.holds_of_wide 7 Tryz.f7 rfl rfl rfl rfl rfl rfl rfl ⟨rfl, rfl, rfl, rfl, rfl⟩ rfl rfl rfl rfl rfl (by kernel_rfl) Tryz.func7 (by kernel_rfl)
    (of_decide_eq_true (by kernel_rfl)) (by unfold Func.isWrapper; first | (rw [if_pos (by decide +kernel)]; kernel_rfl) | (rw [if_neg (by decide +kernel)]; exact ⟨rfl, rfl⟩))
    (fun os started H enc _ => lifted os started H enc)

theorem card_holds : Rows.SeqMaxCardSaid :=
  Claim7.holds_tied_plain_at .later [] [.data, .data, .data, .data, .pinned] true (true, "f1a82a4da44c2ba3121d129ec2c6c2d122701cf099ea85615d6c9ce2db9e88e2") false
    over (fun _ h => by cases h) (by kernel_rfl) (fun _ h => by cases h) seqMax_row_tie rfl ⟨rfl, rfl⟩ (by kernel_rfl) rfl
    (fun f fn hf hfn => by
      obtain rfl : f = 7 := Option.some.inj ((show Tryz.prog.funcNamed "muleteer/muleteerlaw1.SeqMax" = some 7 by kernel_rfl).symm.trans hf) |>.symm
      obtain rfl : fn = Tryz.f7 := (Option.some.inj (Tryz.func7.symm.trans hfn)).symm
      exact ⟨by kernel_rfl, fun j t ht => by
        rw [Tryz.params7] at ht
        have hm : t ∈ [22, 35] := by simpa using Array.mem_of_getElem? ht
        have hall : ([22, 35].all fun u => !Tryz.prog.wantsStandIn u) = true := by kernel_rfl
        exact (show Tryz.prog.wantsStandIn t = false by simpa using List.all_eq_true.1 hall t hm)⟩)
    (by kernel_rfl)
end Go.Proofs.YtagnbggldpjncaaGreatDoor.seqMax
