/-
  What opt.first answers.
-/
import Derived.Test.YtdlpapchjjbplaaGreatDoorOptB
import Derived.Test.YtdlpapchjjbplaaGreatDoorHeadL
namespace Go.Proofs.YtdlpapchjjbplaaGreatDoor
open Go.ChangeShapes Go.WideShapes Go.ChangeAt Go.RowKit
set_option linter.unusedVariables false

theorem str_extract (l : List UInt8) (a b : Nat) : (str l).extract a b = str ((l.take b).drop a) := by
  apply ByteArray.ext
  apply Array.toList_inj.1
  rw [Lib.extract_data]
  show List.take (b - a) (List.drop a l) = List.drop a (List.take b l)
  rw [List.drop_take]

def ovCells (o : M.Opt) : Array Value := #[.int .i64 o.t, .string (str o.d)]
theorem infoOv : (Tryz.prog.info? 54).map (·.size) = some 2 := by kernel_rfl
theorem load_ov {o : M.Opt} {C : Nat} {w : World} (a : OvBlk o C w) : (loadVar 54 ⟨C, 0, none⟩).run Tryz.prog w = .ok (Ov o) w :=
  run_loadVar_row (P := Tryz.prog) w C 54 54 (ovCells o) (0, 0) _ a Tryz.underlying54 rfl infoOv

theorem isLongN_any (n : Nat) (w : World) :
    Calls Tryz.prog 72 #[.int .i64 n] w fun e w' => e = .returned (.bool (decide (32 ≤ n))) ∧ w = w' := by
  have h := isLong_any n w
  rwa [show decide ((32 : Int) ≤ (n : Int)) = decide (32 ≤ n) from by rw [decide_eq_decide]; omega] at h

theorem first_end {o : M.Opt} {C n : Nat} {tmps : Array Value} {w w' : World} (ho : OvBlk o C w') (hp : tmps.getD 2 undef = .pointer (some ⟨C, 0, none⟩)) (hq : tmps.getD 3 undef = .int .i64 n) (hb : Below w.heap.size w w') :
    (results Tryz.f71 tmps).run Tryz.prog w' = .ok (.tuple #[Ov o, .int .i64 n]) w' := by
  rw [results_pair (fn := Tryz.f71) Tryz.results71 tmps w' C (ovCells o) hp (load_ov ho), hq]; rfl

theorem byte_at (l : List UInt8) (s : ByteArray) (hs : str l = s) (i : Nat) (h : i < s.size) : ((s[i]'h).toNat : Int) = (M.bAt l i : Int) := by
  subst hs
  have h' : i < l.length := h
  have e : ((str l)[i]'h).toNat = M.bAt l i := by
    show (l[i]'h').toNat = _
    unfold M.bAt
    rw [List.getD_eq_getElem?_getD, List.getElem?_eq_getElem h']; rfl
  rw [e]

set_option maxHeartbeats 1000000 in
set_option maxRecDepth 100000 in
theorem first_any (l : List UInt8) (hl : l.length ≤ 9223372036854775807) (h0 : l ≠ []) (w : World) :
    Calls Tryz.prog 71 #[.string (str l)] w fun e w' => e = .returned (.tuple #[Ov (M.firstO l), .int .i64 (M.firstN l)]) ∧ Below w.heap.size w w' := by
  have hss : (str l).size = l.length := rfl
  have hpos : 0 < l.length := Nat.pos_of_ne_zero fun e => h0 (List.eq_nil_of_length_eq_zero e)
  have HN : Hid (M.firstN l = if M.bAt l 0 < 32 then 1 else if l.length < 2 then 0 else if M.bAt l 1 < 2 ∨ l.length < M.bAt l 1 then 0 else M.bAt l 1) := Lib.hid rfl
  have HO : Hid (M.firstO l = if M.bAt l 0 < 32 then ⟨M.bAt l 0, []⟩ else if M.firstN l = 0 then ⟨0, []⟩ else ⟨M.bAt l 0, (l.take (M.bAt l 1)).drop 2⟩) := Lib.hid rfl
  have b0 := M.bAt_lt l 0
  have b1 := M.bAt_lt l 1
  obtain ⟨s, hs⟩ : ∃ s, str l = s := ⟨_, rfl⟩
  have HS := Lib.hid hs
  rw [hs] at hss ⊢
  have hposs : 0 < s.size := by omega
  have e0' := byte_at l s hs 0 hposs
  have HSS := Lib.hid hss
  have hsl : s.size ≤ 9223372036854775807 := by omega
  clear hs h0 hss
  generalize hn0 : M.bAt l 0 = n0 at *
  generalize hn1 : M.bAt l 1 = n1 at *
  have HN1 := Lib.hid hn1
  have HL := Lib.hid (fun w => isLongN_any n0 w)
  have hzb : OvBlk ⟨0, []⟩ w.heap.size (w.alloc (OvBox ⟨0, []⟩)) := OvBlk.new _ w
  clear hn0 hn1 hpos hl
  by_cases h32 : n0 < 32
  · rw [decide_eq_false (by omega)] at HL
    rw [if_pos h32] at HN HO
    clear hzb
    go_enter Tryz.func71, Tryz.ntmps71
    go_wp2_with (go_at_call 72; refine (HL.out _).mono ?_; rintro e w1 ⟨rfl, rfl⟩)
    rw [HO.out, HN.out]
    refine bodyPost_ret (first_end (o := ⟨n0, []⟩) (C := w.heap.size) (n := 1) (OvBlk.new ⟨n0, []⟩ w) rfl rfl (bel_alloc _ _)) rfl ⟨rfl, bel_alloc _ _⟩
  rw [decide_eq_true (by omega)] at HL
  rw [if_neg h32] at HN HO
  by_cases h2 : s.size < 2
  · rw [if_pos (by have := HSS.out; omega)] at HN
    rw [if_pos HN.out] at HO
    have hd := decide_eq_true h2
    clear hzb
    go_enter Tryz.func71, Tryz.ntmps71
    go_wp2_with (go_at_call 72; refine (HL.out _).mono ?_; rintro e w1 ⟨rfl, rfl⟩)
    rw [HO.out, HN.out]
    refine bodyPost_ret (first_end (o := ⟨0, []⟩) (C := w.heap.size) (n := 0) (OvBlk.new ⟨0, []⟩ w) rfl rfl (bel_alloc _ _)) rfl ⟨rfl, bel_alloc _ _⟩
  rw [if_neg (by have := HSS.out; omega)] at HN
  have hd := decide_eq_false h2
  have h1s : 1 < s.size := by omega
  have e1' := byte_at l s HS.out 1 h1s
  rw [HN1.out] at e1'
  by_cases h3 : n1 < 2
  · rw [if_pos (.inl h3)] at HN
    rw [if_pos HN.out] at HO
    have hd1 := decide_eq_true (p := (n1 : Int) < 2) (by omega)
    clear hzb h2 h32
    go_enter Tryz.func71, Tryz.ntmps71
    go_wp2_with (go_at_call 72; refine (HL.out _).mono ?_; rintro e w1 ⟨rfl, rfl⟩)
    rw [HO.out, HN.out]
    refine bodyPost_ret (first_end (o := ⟨0, []⟩) (C := w.heap.size) (n := 0) (OvBlk.new ⟨0, []⟩ w) rfl rfl (bel_alloc _ _)) rfl ⟨rfl, bel_alloc _ _⟩
  have hd1 := decide_eq_false (p := (n1 : Int) < 2) (by omega)
  by_cases h4 : s.size < n1
  · rw [if_pos (.inr (by have := HSS.out; omega))] at HN
    rw [if_pos HN.out] at HO
    have hd2 := decide_eq_true h4
    clear hzb h2 h32
    go_enter Tryz.func71, Tryz.ntmps71
    go_wp2_with (go_at_call 72; refine (HL.out _).mono ?_; rintro e w1 ⟨rfl, rfl⟩)
    rw [HO.out, HN.out]
    refine bodyPost_ret (first_end (o := ⟨0, []⟩) (C := w.heap.size) (n := 0) (OvBlk.new ⟨0, []⟩ w) rfl rfl (bel_alloc _ _)) rfl ⟨rfl, bel_alloc _ _⟩
  rw [if_neg (by have := HSS.out; omega)] at HN
  rw [if_neg (by have := HN.out; omega)] at HO
  have hd2 := decide_eq_false h4
  have hex := str_extract l 2 n1
  rw [HS.out] at hex
  obtain ⟨d, hdd⟩ : ∃ d, str ((l.take n1).drop 2) = d := ⟨_, rfl⟩
  rw [hdd] at hex
  have HDD := Lib.hid hdd
  have hn2 : 2 ≤ n1 := by omega
  have hn3 : n1 ≤ s.size := by omega
  have hrun : ∀ w : World, (Instr.slice 9 (.string s) (some (.int .i64 2)) (some (.int .i64 (n1 : Int))) none).run Tryz.prog w = .ok (.string d) w := fun w => by
    rw [run_slice_string w 9 s .i64 .i64 2 n1 Tryz.underlying9 (by decide) (by omega) (by omega)]
    exact congrArg (fun z => Result.ok (Value.string z) w) hex
  clear hzb h2 hdd h3 h4 h32 hex
  go_enter Tryz.func71, Tryz.ntmps71
  go_wp2_with (go_at_call 72; refine (HL.out _).mono ?_; rintro e w1 ⟨rfl, rfl⟩)
  rw [HO.out, HN.out]
  have hob : OvBlk ⟨n0, (l.take n1).drop 2⟩ w.heap.size (w.alloc (.cells #[.int .i64 n0, .string d] 54)) := by
    rw [← HDD.out]; exact OvBlk.new _ w
  refine bodyPost_ret (first_end (o := ⟨n0, (l.take n1).drop 2⟩) (C := w.heap.size) (n := n1) hob rfl rfl (bel_alloc _ _)) rfl ⟨rfl, bel_alloc _ _⟩
end Go.Proofs.YtdlpapchjjbplaaGreatDoor
