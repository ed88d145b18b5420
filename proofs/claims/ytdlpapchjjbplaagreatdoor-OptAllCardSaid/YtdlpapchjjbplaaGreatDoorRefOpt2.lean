/-
  Options compared; the first one of a type; the document's own May.
-/
import Derived.Test.YtdlpapchjjbplaaGreatDoorRefOpt
import Derived.Deep.QuietTactic
import Derived.BigQuiet
namespace Go.Proofs.YtdlpapchjjbplaaGreatDoor
open Go.ChangeShapes Go.WideShapes Go.ChangeAt Go.RowKit
set_option linter.unusedVariables false

theorem OptsAt.parts {w : World} {v : Value} {os : List M.Opt} (h : OptsAt w v os) : ∃ p cap, v = .slice p os.length cap ∧ ∀ i, i < os.length → ∃ b o, p = some ⟨b, o, none⟩ ∧ b < w.heap.size ∧
    w.cell? ⟨b, o + i * 2, none⟩ = some (.int .i64 (os.getD i ⟨0, []⟩).t) ∧ w.cell? ⟨b, o + i * 2 + 1, none⟩ = some (.string (str (os.getD i ⟨0, []⟩).d)) := by
  rcases h.at_ with ⟨rfl, a, cap, rfl⟩ | ⟨b, o, cap, rfl, hb, hc⟩
  · exact ⟨a, cap, rfl, fun i hi => absurd hi (Nat.not_lt_zero i)⟩
  · exact ⟨_, cap, rfl, fun i hi => ⟨b, o, rfl, hb, (hc i hi).1, (hc i hi).2⟩⟩

set_option maxHeartbeats 2000000 in
set_option maxRecDepth 100000 in
theorem opts_same (w : World) (v1 v2 : Value) (os : List M.Opt) (h1 : OptsAt w v1 os) (h2 : OptsAt w v2 os) :
    Calls Tryz.prog 35 #[v1, v2] w fun e w' => e = .returned (.bool true) ∧ ∃ n, w' = w.drewN n := by
  have hlen := h1.len
  obtain ⟨p1, cap1, rfl, hp1⟩ := h1.parts
  obtain ⟨p2, cap2, rfl, hp2⟩ := h2.parts
  have HP1 := Lib.hid hp1; have HP2 := Lib.hid hp2
  clear hp1 hp2 h1 h2
  generalize hn : os.length = n at *
  clear hn
  go_enter Tryz.func35, Tryz.ntmps35
  go_wp2
  go_loopw [13] (fun i wr => ∃ k : Nat, k ≤ n ∧ i = .int .i64 (k : Int) ∧ Hid (∃ m, wr = w.drewN m)) (fun i _ => n - (intOf i).toNat)
  case atStart => exact ⟨0, Nat.zero_le _, rfl, Lib.hid ⟨0, rfl⟩⟩
  case round =>
    obtain ⟨k, hk, rfl, hm⟩ := hrel
    by_cases hkn : k < n
    · obtain ⟨b1, o1, rfl, hb1, c1, d1⟩ := HP1.out k hkn
      obtain ⟨b2, o2, rfl, hb2, c2, d2⟩ := HP2.out k hkn
      have hcw : ∀ a, wr.cell? a = w.cell? a := by
        obtain ⟨m, rfl⟩ := hm.out
        exact fun a => rfl
      rw [← hcw] at c1 d1 c2 d2
      generalize (os.getD k ⟨0, []⟩).t = t at *
      generalize (os.getD k ⟨0, []⟩).d = d at *
      generalize str d = ds at *
      clear hcw
      go_upto_region 6 with fail
      go_quiet (fail)
      go_wp2
      refine ⟨⟨k + 1, by omega, by go_num, Lib.hid ?_⟩, ?_⟩
      · obtain ⟨m, rfl⟩ := hm.out
        exact ⟨_, World.drewN_drewN _ _ _⟩
      · simp [intOf]; omega
    · go_wp2
      go_ret
      exact ⟨rfl, hm.out⟩
end Go.Proofs.YtdlpapchjjbplaaGreatDoor
