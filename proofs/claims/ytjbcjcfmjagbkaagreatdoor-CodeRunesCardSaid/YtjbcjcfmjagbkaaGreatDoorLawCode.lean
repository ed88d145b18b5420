/-
  The law CodeReason, walked.
-/
import Derived.Test.YtjbcjcfmjagbkaaGreatDoorCodeR
import Derived.Test.YtjbcjcfmjagbkaaGreatDoorLawSum
namespace Go.Proofs.YtjbcjcfmjagbkaaGreatDoor
open Go.ChangeShapes Go.WideShapes Go.ChangeAt Go.RowKit
set_option linter.unusedVariables false

/-- Behind one rune. -/
theorem rune_step {l : List UInt8} {pos R W : Nat} (hp : pos < l.length) (hd : Lib.decodeL (l.drop pos) = (R, W)) :
    1 ≤ W ∧ pos + W ≤ l.length ∧ M.runes (l.drop pos) = R :: M.runes (l.drop (pos + W)) := by
  have hne : l.drop pos ≠ [] := by
    intro hh
    have := congrArg List.length hh
    rw [List.length_drop, List.length_nil] at this; omega
  have hw := M.decode_wide _ hne
  have hs := M.runes_step _ hne
  rw [hd] at hw hs
  dsimp only at hw hs
  rw [List.length_drop] at hw
  rw [List.drop_drop] at hs
  exact ⟨hw.1, by omega, hs⟩
theorem runes_seen (l : List UInt8) (m : Nat) : ∀ r ∈ M.runes (M.reason l m), 32 ≤ r ∧ r ≠ 127 := by
  rw [M.runes_reason]
  intro r hr
  obtain ⟨x, _, rfl⟩ := List.mem_map.1 hr
  exact M.shown_seen x

set_option maxHeartbeats 4000000 in
set_option maxRecDepth 100000 in
theorem codeReason_walk (s : ByteArray) (most : Int) (hs : s.size ≤ maxLen) (b1 : -9223372036854775808 ≤ most) (b2 : most ≤ 9223372036854775807) (w : World) :
    Calls Tryz.prog 12 #[.string s, .int .i64 most] w fun e w' => e = .returned (.bool true) ∧ Below w.heap.size w w' := by
  obtain ⟨l, hl, hll⟩ : ∃ l, s.data.toList.take 100 = l ∧ l.length ≤ 100 := ⟨_, rfl, by simp; omega⟩
  have HT := Lib.hid (fun w => textN_any s 100 100 l rfl (by omega) hs hl w)
  obtain ⟨a1, a2⟩ := tmod_lim most 40 (by omega)
  obtain ⟨k1, hk1⟩ : ∃ k, most.tmod 40 = k := ⟨_, rfl⟩
  rw [hk1] at a1 a2
  have a5 : 0 ≤ (k1 + 40).tmod 40 := Int.tmod_nonneg _ (by omega)
  obtain ⟨a3, a4⟩ := tmod_lim (k1 + 40) 40 (by omega)
  obtain ⟨m, hm⟩ : ∃ m : Nat, (k1 + 40).tmod 40 = (m : Int) := ⟨((k1 + 40).tmod 40).toNat, by omega⟩
  have hm40 : m < 40 := by omega
  have HRE := Lib.hid (fun w => codeReason_any l (m : Int) (by omega) (by omega) (by omega) w)
  rw [Int.toNat_natCast] at HRE
  have HRU := Lib.hid (fun w => codeRunes_any l (by omega) w)
  -- the reason's runes
  obtain ⟨q, hq⟩ : ∃ q, M.reason l m = q := ⟨_, rfl⟩
  have hq2 : M.runes q = ((M.runes l).take m).map M.shown := by rw [← hq]; exact M.runes_reason l m
  have hseen : ∀ r ∈ M.runes q, 32 ≤ r ∧ r ≠ 127 := by rw [← hq]; exact runes_seen l m
  have hqn : (M.runes q).length = min m (M.runes l).length := by rw [hq2, List.length_map, List.length_take]
  have hqb : q.length ≤ 400 := by
    rw [← hq]
    have h1 := M.encs_len (((M.runes l).take m).map M.shown)
    have h2 := M.runes_len l
    rw [List.length_map, List.length_take] at h1
    unfold M.reason; omega
  have hkinds := M.kinds_all (M.runes l)
  have hrl := M.runes_len l
  obtain ⟨N, hN⟩ : ∃ N, (M.runes l).length = N := ⟨_, rfl⟩
  rw [hN] at hqn hkinds hrl
  rw [hq] at HRE
  obtain ⟨sl, hsl⟩ : ∃ b, str l = b := ⟨_, rfl⟩
  obtain ⟨sq, hsq⟩ : ∃ b, str q = b := ⟨_, rfl⟩
  have hlz : sl.size = l.length := by rw [← hsl]; rfl
  have hqz : sq.size = q.length := by rw [← hsq]; rfl
  have HDL := Lib.hid (show ∀ pos, Utf8.decode sl pos = Lib.decodeL (l.drop pos) from fun pos => by rw [← hsl]; exact (Lib.decodeL_drop (str l) pos).symm)
  have HDQ := Lib.hid (show ∀ pos, Utf8.decode sq pos = Lib.decodeL (q.drop pos) from fun pos => by rw [← hsq]; exact (Lib.decodeL_drop (str q) pos).symm)
  rw [hsl] at HT HRE HRU
  rw [hsq] at HRE
  have HLZ := Lib.hid hlz; have HQZ := Lib.hid hqz; have HN := Lib.hid hN; have HQN := Lib.hid hqn; have HSEEN := Lib.hid hseen; have HKI := Lib.hid hkinds
  generalize M.lets (M.runes l) = kA at *
  generalize M.digs (M.runes l) = kB at *
  generalize M.othr (M.runes l) = kC at *
  clear hl hsl hsq hlz hqz hN hqn hseen hq hq2 hkinds
  have hkb : kA + kB + kC = N := HKI.out
  have hk3 : kA ≤ 100 ∧ kB ≤ 100 ∧ kC ≤ 100 := by omega
  clear hkb
  go_enter Tryz.func12, Tryz.ntmps12
  go_upto_region 7 with (first
    | (go_at_call 17; refine (begun_any _).mono ?_; rintro e w0 ⟨rfl, hb0⟩)
    | (go_at_call 18; (with_reducible refine (HT.out _).mono ?_); rintro e w1 ⟨rfl, rfl⟩)
    | (go_at_call 34; (with_reducible refine (HRE.out _).mono ?_); rintro e w2 ⟨rfl, hb2⟩))
  have hbA := bel_trans hb0 hb2
  clear hb0 hb2 hk1 hm a1 a2 a3 a4 a5 HT HRE
  obtain ⟨H1, hH1⟩ : ∃ H, w2.heap.size = H := ⟨_, rfl⟩
  have hbB : Below w.heap.size w (w2.iter sq 0) := bel_trans hbA (bel_alloc w2 (.stringIter sq 0))
  have hit0 := World.iter_heap w2 sq 0
  have hg1 : w.heap.size ≤ H1 := by rw [← hH1]; exact hbA.size
  rw [hH1] at hit0 ⊢
  have HBB := Lib.hid hbB
  have HIT0 := Lib.hid hit0
  clear hbA hbB hH1 hit0
  generalize w2.iter sq 0 = w3 at *
  go_loopw [6] (fun a wr => ∃ (pos n : Nat), a = .int .i64 n ∧ wr.heap[H1]? = some (.stringIter sq pos) ∧ Hid (Below w.heap.size w wr) ∧ Hid (n + (M.runes (q.drop pos)).length = (M.runes q).length) ∧ Hid (∀ r ∈ M.runes (q.drop pos), 32 ≤ r ∧ r ≠ 127) ∧ pos ≤ q.length ∧ n ≤ pos) (fun _ wr => sq.size - wr.iterPos H1)
  case atStart => exact ⟨0, 0, rfl, HIT0.out, HBB, Lib.hid (by simp), Lib.hid (by simpa using HSEEN.out), Nat.zero_le _, Nat.le_refl _⟩
  case round =>
    obtain ⟨pos, n, rfl, hit, hbw, hcnt, hsee, hpl, hnp⟩ := hrel
    by_cases hp : pos < sq.size
    · have hnx : ∀ ty, (Instr.next (.pointer (some ⟨H1, 0, none⟩)) true ty).run Tryz.prog wr = _ := fun ty => Lib.run_next_any_at wr H1 sq pos ty hit hp
      obtain ⟨R, W, hRW⟩ : ∃ R W, Utf8.decode sq pos = (R, W) := ⟨_, _, rfl⟩
      have hR := decode_le sq pos
      rw [hRW] at hnx hR
      dsimp only at hnx hR
      have hd2 : Lib.decodeL (q.drop pos) = (R, W) := by rw [← HDQ.out]; exact hRW
      obtain ⟨w1, w2, hst⟩ := rune_step (by rw [← HQZ.out]; exact hp) hd2
      have hsee2 := hsee.out
      have hcnt2 := hcnt.out
      rw [hst] at hsee2 hcnt2
      have hR2 := hsee2 R (by simp)
      have HS2 : Hid (∀ r ∈ M.runes (q.drop (pos + W)), 32 ≤ r ∧ r ≠ 127) := Lib.hid (fun r hr => hsee2 r (by simp [hr]))
      have HC2 : Hid ((n + 1) + (M.runes (q.drop (pos + W))).length = (M.runes q).length) := Lib.hid (by rw [List.length_cons] at hcnt2; omega)
      have hit2 := Lib.iterAt_heap wr H1 sq pos (pos + W) hit
      have hbw2 := Lib.hid (Lib.below_iterAt hbw.out (k := H1) hg1 sq (pos + W))
      have HMS := Lib.hid (show sq.size - (pos + W) < sq.size - pos by omega)
      have HW1 := Lib.hid w1; have HW2 := Lib.hid w2
      have d1 : decide ((R : Int) < 32) = false := decide_eq_false (by omega)
      have d2 : ((R : Int) == 127) = false := by rw [beq_eq_false_iff_ne]; omega
      clear hd2 hRW hsee hcnt hsee2 hcnt2 hst w1 w2 hR2
      generalize wr.iterAt H1 sq (pos + W) = w5 at *
      go_wp2
      refine ⟨⟨pos + W, n + 1, ?_, hit2, hbw2, HC2, HS2, HW2.out, by have := HW1.out; omega⟩, ?_⟩
      · go_num
      · simp only [World.iterPos, hit2, hit]; exact HMS.out
    · have hnx : ∀ ty, (Instr.next (.pointer (some ⟨H1, 0, none⟩)) true ty).run Tryz.prog wr = _ := fun ty => Lib.run_next_end_at wr H1 sq pos ty hit hp
      have hnil : q.drop pos = [] := List.drop_eq_nil_of_le (by rw [← HQZ.out]; omega)
      have hc2 := hcnt.out
      rw [hnil, M.runes_nil, List.length_nil, HQN.out] at hc2
      have hc3 : n = min m N := by omega
      have HC3 := Lib.hid hc3
      clear hcnt hsee hnil hc2 hc3
      go_upto_region 14 with fail
      obtain ⟨wo, rfl⟩ : ∃ wo : World, wo = wr := ⟨_, rfl⟩
      have hbA := hbw.out
      obtain ⟨H2, hH2⟩ : ∃ H, wo.heap.size = H := ⟨_, rfl⟩
      have hbB : Below w.heap.size w (wo.iter sl 0) := bel_trans hbA (bel_alloc wo (.stringIter sl 0))
      have hit0 := World.iter_heap wo sl 0
      have hg2 : w.heap.size ≤ H2 := by rw [← hH2]; exact hbA.size
      rw [hH2] at hit0 ⊢
      have HBC := Lib.hid hbB
      have HIT1 := Lib.hid hit0
      clear hbA hbB hH2 hit0 hnx hit hp
      generalize wo.iter sl 0 = w6 at *
      clear hbw
      go_loopw [9] (fun a wr => ∃ (pos k : Nat), a = .int .i64 k ∧ wr.heap[H2]? = some (.stringIter sl pos) ∧ Hid (Below w.heap.size w wr) ∧ Hid (k + (M.runes (l.drop pos)).length = N) ∧ pos ≤ l.length ∧ k ≤ pos) (fun _ wr => sl.size - wr.iterPos H2)
      case atStart => exact ⟨0, 0, rfl, HIT1.out, HBC, Lib.hid (by simpa using HN.out), Nat.zero_le _, Nat.le_refl _⟩
      case round =>
        obtain ⟨pos, k, rfl, hit, hbw, hcnt, hpl, hkp⟩ := hrel
        by_cases hp : pos < sl.size
        · have hnx : ∀ ty, (Instr.next (.pointer (some ⟨H2, 0, none⟩)) true ty).run Tryz.prog wr = _ := fun ty => Lib.run_next_any_at wr H2 sl pos ty hit hp
          obtain ⟨R, W, hRW⟩ : ∃ R W, Utf8.decode sl pos = (R, W) := ⟨_, _, rfl⟩
          rw [hRW] at hnx
          dsimp only at hnx
          have hd2 : Lib.decodeL (l.drop pos) = (R, W) := by rw [← HDL.out]; exact hRW
          obtain ⟨w1, w2, hst⟩ := rune_step (by rw [← HLZ.out]; exact hp) hd2
          have hcnt2 := hcnt.out
          rw [hst, List.length_cons] at hcnt2
          have HC2 : Hid ((k + 1) + (M.runes (l.drop (pos + W))).length = N) := Lib.hid (by omega)
          have hit2 := Lib.iterAt_heap wr H2 sl pos (pos + W) hit
          have hbw2 := Lib.hid (Lib.below_iterAt hbw.out (k := H2) hg2 sl (pos + W))
          have HMS := Lib.hid (show sl.size - (pos + W) < sl.size - pos by omega)
          have HW1 := Lib.hid w1; have HW2 := Lib.hid w2
          clear hd2 hRW hcnt hcnt2 hst w1 w2
          generalize wr.iterAt H2 sl (pos + W) = w5 at *
          go_wp2
          refine ⟨⟨pos + W, k + 1, ?_, hit2, hbw2, HC2, HW2.out, by have := HW1.out; omega⟩, ?_⟩
          · go_num
          · simp only [World.iterPos, hit2, hit]; exact HMS.out
        · have hnx : ∀ ty, (Instr.next (.pointer (some ⟨H2, 0, none⟩)) true ty).run Tryz.prog wr = _ := fun ty => Lib.run_next_end_at wr H2 sl pos ty hit hp
          have hnil : l.drop pos = [] := List.drop_eq_nil_of_le (by rw [← HLZ.out]; omega)
          have hc2 := hcnt.out
          rw [hnil, M.runes_nil, List.length_nil, Nat.add_zero] at hc2
          have hkN : k = N := hc2
          have d3 : ((n : Int) == min (m : Int) (k : Int)) = true := by rw [beq_iff_eq, HC3.out, ← hkN]; omega
          have d4 : (((kA : Int) + (kB : Int) + (kC : Int)) == (k : Int)) = true := by rw [beq_iff_eq]; have := HKI.out; omega
          have d5 : (((k : Int)) == ((kA : Int) + (kB : Int) + (kC : Int))) = true := by rw [beq_iff_eq]; have := HKI.out; omega
          clear hcnt hnil hc2 hkN
          go_wp2_with (go_at_call 36; (with_reducible refine (HRU.out _).mono ?_); rintro e w7 ⟨rfl, hb7⟩)
          go_ret
          exact ⟨rfl, bel_trans hbw.out hb7⟩
end Go.Proofs.YtjbcjcfmjagbkaaGreatDoor
