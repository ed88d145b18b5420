/-
  What opt.first answers.
  What opt.Get answers: bytes as options.
  opt.Get's walk.
-/
import Derived.Test.YtnhlachoimlhhaaGreatDoorOpA
import Derived.Test.YtnhlachoimlhhaaGreatDoorHdC
namespace Go.Proofs.YtnhlachoimlhhaaGreatDoor
open Go.ChangeShapes Go.WideShapes Go.ChangeAt Go.RowKit
set_option linter.unusedVariables false

theorem str_extract (l : List UInt8) (a b : Nat) : (str l).extract a b = str ((l.take b).drop a) := by
  apply ByteArray.ext
  apply Array.toList_inj.1
  rw [Lib.extract_data]
  show List.take (b - a) (List.drop a l) = List.drop a (List.take b l)
  rw [List.drop_take]

def ovCells (o : M.Opt) : Array Value := #[.int .i64 o.t, .string (str o.d)]
theorem infoOv : (Tryz.prog.info? 106).map (·.size) = some 2 := by kernel_rfl
theorem load_ov {o : M.Opt} {C : Nat} {w : World} (a : OvBlk o C w) : (loadVar 106 ⟨C, 0, none⟩).run Tryz.prog w = .ok (Ov o) w :=
  run_loadVar_row (P := Tryz.prog) w C 106 106 (ovCells o) (0, 0) _ a Tryz.underlying106 rfl infoOv

theorem isLongN_any (n : Nat) (w : World) :
    Calls Tryz.prog 291 #[.int .i64 n] w fun e w' => e = .returned (.bool (decide (32 ≤ n))) ∧ w = w' := by
  have h := isLong_any n w
  rwa [show decide ((32 : Int) ≤ (n : Int)) = decide (32 ≤ n) from by rw [decide_eq_decide]; omega] at h

theorem first_end {o : M.Opt} {C n : Nat} {tmps : Array Value} {w w' : World} (ho : OvBlk o C w') (hp : tmps.getD 2 undef = .pointer (some ⟨C, 0, none⟩)) (hq : tmps.getD 3 undef = .int .i64 n) (hb : Below w.heap.size w w') :
    (results Tryz.f272 tmps).run Tryz.prog w' = .ok (.tuple #[Ov o, .int .i64 n]) w' := by
  rw [results_pair (fn := Tryz.f272) Tryz.results272 tmps w' C (ovCells o) hp (load_ov ho), hq]; rfl

theorem byte_at (l : List UInt8) (s : ByteArray) (hs : str l = s) (i : Nat) (h : i < s.size) : ((s[i]'h).toNat : Int) = (M.bAt l i : Int) := by
  subst hs
  have h' : i < l.length := h
  have e : ((str l)[i]'h).toNat = M.bAt l i := by
    show (l[i]'h').toNat = _
    unfold M.bAt
    rw [List.getD_eq_getElem?_getD, List.getElem?_eq_getElem h']; rfl
  rw [e]

set_option maxHeartbeats 1000000 in
set_option maxRecDepth 100000 in
theorem first_any (l : List UInt8) (hl : l.length ≤ 9223372036854775807) (h0 : l ≠ []) (w : World) :
    Calls Tryz.prog 272 #[.string (str l)] w fun e w' => e = .returned (.tuple #[Ov (M.firstO l), .int .i64 (M.firstN l)]) ∧ Below w.heap.size w w' := by
  have hss : (str l).size = l.length := rfl
  have hpos : 0 < l.length := Nat.pos_of_ne_zero fun e => h0 (List.eq_nil_of_length_eq_zero e)
  have HN : Hid (M.firstN l = if M.bAt l 0 < 32 then 1 else if l.length < 2 then 0 else if M.bAt l 1 < 2 ∨ l.length < M.bAt l 1 then 0 else M.bAt l 1) := Lib.hid rfl
  have HO : Hid (M.firstO l = if M.bAt l 0 < 32 then ⟨M.bAt l 0, []⟩ else if M.firstN l = 0 then ⟨0, []⟩ else ⟨M.bAt l 0, (l.take (M.bAt l 1)).drop 2⟩) := Lib.hid rfl
  have b0 := M.bAt_lt l 0
  have b1 := M.bAt_lt l 1
  obtain ⟨s, hs⟩ : ∃ s, str l = s := ⟨_, rfl⟩
  have HS := Lib.hid hs
  rw [hs] at hss ⊢
  have hposs : 0 < s.size := by omega
  have e0' := byte_at l s hs 0 hposs
  have HSS := Lib.hid hss
  have hsl : s.size ≤ 9223372036854775807 := by omega
  clear hs h0 hss
  generalize hn0 : M.bAt l 0 = n0 at *
  generalize hn1 : M.bAt l 1 = n1 at *
  have HN1 := Lib.hid hn1
  have HL := Lib.hid (fun w => isLongN_any n0 w)
  have hzb : OvBlk ⟨0, []⟩ w.heap.size (w.alloc (OvBox ⟨0, []⟩)) := OvBlk.new _ w
  clear hn0 hn1 hpos hl
  by_cases h32 : n0 < 32
  · rw [decide_eq_false (by omega)] at HL
    rw [if_pos h32] at HN HO
    clear hzb
    go_enter Tryz.func272, Tryz.ntmps272
    go_wp2_with (go_at_call 291; refine (HL.out _).mono ?_; rintro e w1 ⟨rfl, rfl⟩)
    rw [HO.out, HN.out]
    refine bodyPost_ret (first_end (o := ⟨n0, []⟩) (C := w.heap.size) (n := 1) (OvBlk.new ⟨n0, []⟩ w) rfl rfl (bel_alloc _ _)) rfl ⟨rfl, bel_alloc _ _⟩
  rw [decide_eq_true (by omega)] at HL
  rw [if_neg h32] at HN HO
  by_cases h2 : s.size < 2
  · rw [if_pos (by have := HSS.out; omega)] at HN
    rw [if_pos HN.out] at HO
    have hd := decide_eq_true h2
    clear hzb
    go_enter Tryz.func272, Tryz.ntmps272
    go_wp2_with (go_at_call 291; refine (HL.out _).mono ?_; rintro e w1 ⟨rfl, rfl⟩)
    rw [HO.out, HN.out]
    refine bodyPost_ret (first_end (o := ⟨0, []⟩) (C := w.heap.size) (n := 0) (OvBlk.new ⟨0, []⟩ w) rfl rfl (bel_alloc _ _)) rfl ⟨rfl, bel_alloc _ _⟩
  rw [if_neg (by have := HSS.out; omega)] at HN
  have hd := decide_eq_false h2
  have h1s : 1 < s.size := by omega
  have e1' := byte_at l s HS.out 1 h1s
  rw [HN1.out] at e1'
  by_cases h3 : n1 < 2
  · rw [if_pos (.inl h3)] at HN
    rw [if_pos HN.out] at HO
    have hd1 := decide_eq_true (p := (n1 : Int) < 2) (by omega)
    clear hzb h2 h32
    go_enter Tryz.func272, Tryz.ntmps272
    go_wp2_with (go_at_call 291; refine (HL.out _).mono ?_; rintro e w1 ⟨rfl, rfl⟩)
    rw [HO.out, HN.out]
    refine bodyPost_ret (first_end (o := ⟨0, []⟩) (C := w.heap.size) (n := 0) (OvBlk.new ⟨0, []⟩ w) rfl rfl (bel_alloc _ _)) rfl ⟨rfl, bel_alloc _ _⟩
  have hd1 := decide_eq_false (p := (n1 : Int) < 2) (by omega)
  by_cases h4 : s.size < n1
  · rw [if_pos (.inr (by have := HSS.out; omega))] at HN
    rw [if_pos HN.out] at HO
    have hd2 := decide_eq_true h4
    clear hzb h2 h32
    go_enter Tryz.func272, Tryz.ntmps272
    go_wp2_with (go_at_call 291; refine (HL.out _).mono ?_; rintro e w1 ⟨rfl, rfl⟩)
    rw [HO.out, HN.out]
    refine bodyPost_ret (first_end (o := ⟨0, []⟩) (C := w.heap.size) (n := 0) (OvBlk.new ⟨0, []⟩ w) rfl rfl (bel_alloc _ _)) rfl ⟨rfl, bel_alloc _ _⟩
  rw [if_neg (by have := HSS.out; omega)] at HN
  rw [if_neg (by have := HN.out; omega)] at HO
  have hd2 := decide_eq_false h4
  have hex := str_extract l 2 n1
  rw [HS.out] at hex
  obtain ⟨d, hdd⟩ : ∃ d, str ((l.take n1).drop 2) = d := ⟨_, rfl⟩
  rw [hdd] at hex
  have HDD := Lib.hid hdd
  have hn2 : 2 ≤ n1 := by omega
  have hn3 : n1 ≤ s.size := by omega
  have hrun : ∀ w : World, (Instr.slice 9 (.string s) (some (.int .i64 2)) (some (.int .i64 (n1 : Int))) none).run Tryz.prog w = .ok (.string d) w := fun w => by
    rw [run_slice_string w 9 s .i64 .i64 2 n1 Tryz.underlying9 (by decide) (by omega) (by omega)]
    exact congrArg (fun z => Result.ok (Value.string z) w) hex
  clear hzb h2 hdd h3 h4 h32 hex
  go_enter Tryz.func272, Tryz.ntmps272
  go_wp2_with (go_at_call 291; refine (HL.out _).mono ?_; rintro e w1 ⟨rfl, rfl⟩)
  rw [HO.out, HN.out]
  have hob : OvBlk ⟨n0, (l.take n1).drop 2⟩ w.heap.size (w.alloc (.cells #[.int .i64 n0, .string d] 106)) := by
    rw [← HDD.out]; exact OvBlk.new _ w
  refine bodyPost_ret (first_end (o := ⟨n0, (l.take n1).drop 2⟩) (C := w.heap.size) (n := n1) hob rfl rfl (bel_alloc _ _)) rfl ⟨rfl, bel_alloc _ _⟩
end Go.Proofs.YtnhlachoimlhhaaGreatDoor

namespace Go.Proofs.YtnhlachoimlhhaaGreatDoor
open Go.ChangeShapes Go.WideShapes Go.ChangeAt Go.RowKit
set_option linter.unusedVariables false

/-- The cells that a list of options takes. -/
def ovList (os : List M.Opt) : List Value := os.flatMap fun o => [.int .i64 o.t, .string (str o.d)]
theorem ovList_snoc (os : List M.Opt) (o : M.Opt) : ovList (os ++ [o]) = ovList os ++ [.int .i64 o.t, .string (str o.d)] := by simp [ovList]
theorem ovList_len (os : List M.Opt) : (ovList os).length = os.length * 2 := by
  induction os with
  | nil => rfl
  | cons o os ih => simp only [ovList, List.flatMap_cons, List.length_append, List.length_cons, List.length_nil] at *; omega
theorem ovList_get (os : List M.Opt) (i : Nat) (h : i < os.length) : (ovList os)[i * 2]? = some (.int .i64 (os.getD i ⟨0, []⟩).t) ∧ (ovList os)[i * 2 + 1]? = some (.string (str (os.getD i ⟨0, []⟩).d)) := by
  induction os generalizing i with
  | nil => simp at h
  | cons o os ih =>
    cases i with
    | zero => exact ⟨rfl, rfl⟩
    | succ i =>
      have := ih i (by simpa using h)
      have e : ovList (o :: os) = [.int .i64 o.t, .string (str o.d)] ++ ovList os := rfl
      rw [e, List.getElem?_append_right (by simp; omega), List.getElem?_append_right (by simp; omega)]
      have e1 : (i + 1) * 2 - [Value.int .i64 o.t, .string (str o.d)].length = i * 2 := by simp; omega
      have e2 : (i + 1) * 2 + 1 - [Value.int .i64 o.t, .string (str o.d)].length = i * 2 + 1 := by simp; omega
      rw [e1, e2]
      simpa using this

/-- A row of options that the call owns from block B on; below B nothing has turned since W0. -/
def OptsOwn (B : Nat) (v : Value) (os : List M.Opt) (W0 w : World) : Prop := w.ownsRow B 106 2 v os.length (ovList os) ∧ Below B W0 w ∧ B ≤ w.heap.size
theorem OptsOwn.nil (w : World) : OptsOwn w.heap.size (.slice none 0 0) [] w w := ⟨World.ownsRow_nil _ _ _ _, Below.refl _ _, Nat.le_refl _⟩
theorem OptsOwn.lt {B : Nat} {v : Value} {os : List M.Opt} {W0 w : World} (h : OptsOwn B v os W0 w) : ∀ k, v.ownBlock = some k → B ≤ k ∧ k < w.heap.size := (World.ownsRowF_of h.1).lt
theorem OptsOwn.kept {B : Nat} {v : Value} {os : List M.Opt} {W0 w w' : World} (h : OptsOwn B v os W0 w) (hb : Below w.heap.size w w') : OptsOwn B v os W0 w' := by
  refine ⟨h.1.kept (row := none) ⟨hb.os, hb.tape, hb.output, hb.size, fun k hk _ => hb.block k hk⟩ ?_, h.2.1.trans (hb.mono h.2.2), Nat.le_trans h.2.2 hb.size⟩
  cases v.ownBlock <;> simp
theorem OptsOwn.at {B : Nat} {v : Value} {os : List M.Opt} {W0 w : World} (h : OptsOwn B v os W0 w) (hl : os.length ≤ 1073741824) (hd : ∀ o ∈ os, o.d.length ≤ maxLen) : OptsAt w v os := by
  refine ⟨?_, hl, hd⟩
  rcases h.1.2 with ⟨rfl, h0⟩ | ⟨g, cap, cur, rfl, _, hg, _, _, _, ht⟩
  · exact .inl ⟨List.eq_nil_of_length_eq_zero h0, none, 0, rfl⟩
  · have hlt : g < w.heap.size := by
      rcases Nat.lt_or_ge g w.heap.size with hlt | hge
      · exact hlt
      · rw [Array.getElem?_eq_none hge] at hg; cases hg
    refine .inr ⟨g, 0, cap, rfl, hlt, fun i hi => ?_⟩
    have key : ∀ j u, j < os.length * 2 → (ovList os)[j]? = some u → w.cell? ⟨g, 0 + j, none⟩ = some u := by
      intro j u hj hu
      rw [cell_of_row w g (0 + j) cur _ _ hg, Nat.zero_add, ← Array.getElem?_toList]
      rw [← ht, List.getElem?_take_of_lt hj] at hu
      exact hu
    obtain ⟨a, b⟩ := ovList_get os i hi
    exact ⟨key (i * 2) _ (by omega) a, by rw [Nat.add_assoc]; exact key (i * 2 + 1) _ (by omega) b⟩

theorem infoOv2 : (Tryz.prog.info? 106).map (fun i => (i.zero, i.size, i.bytes)) = some (some (.agg #[.int .i64 0, .string ⟨#[]⟩]), 2, 24) := by kernel_rfl

theorem ovBox_cells (o : M.Opt) (w : World) : ∀ j u, [Value.int .i64 o.t, .string (str o.d)][j]? = some u → (w.alloc (OvBox o)).cell? ((⟨w.heap.size, 0, none⟩ : Addr).add j) = some u := fun j u hu => by
  have hadd : (⟨w.heap.size, 0, none⟩ : Addr).add j = ⟨w.heap.size, j, none⟩ := by unfold Addr.add; split <;> simp_all
  rw [hadd, cell_of_row _ _ _ _ _ _ (OvBlk.new o w)]
  simpa using hu

theorem wp_opt {ops : Array Oper} {rest : List Oper} {o : Oper} {a : Act} {Q : Exit → Act → World → Prop} (hgd : o.guard = none) (s x : Operand)
    (ho : o.op = .call { callee := .builtin .append, args := #[s, x], argTypes := #[28, 28] })
    (B : Nat) (v : Value) (os : List M.Opt) (hs : a.eval s = v) (W0 w0 w1 : World) (p : M.Opt) (hw : w1 = w0.alloc (OvBox p)) (hb : OptsOwn B v os W0 w0) (H : Nat) (hH : w0.heap.size = H)
    (hx : a.eval x = .slice (some ⟨H, 0, none⟩) 1 1) (hlen : os.length ≤ 1073741824)
    (h : ∀ v' w', OptsOwn B v' (os ++ [p]) W0 w' → wpList Tryz.prog ops Q rest (a.put o.dst v') w') : wpList Tryz.prog ops Q (o :: rest) a w1 := by
  obtain ⟨i0, hi, hz0, hz1, hz2⟩ := info_parts infoOv2
  subst hH hw
  have hb' := hb.kept (bel_alloc w0 (OvBox p))
  refine wpList_append_own _ hgd s x 28 ho B 106 i0 (.agg #[.int .i64 0, .string ⟨#[]⟩]) 2 24 Tryz.underlying28 hi hz0 hz1 hz2 rfl (by decide) v os.length (ovList os) hs hb'.1 ⟨w0.heap.size, 0, none⟩ 1 1 [.int .i64 p.t, .string (str p.d)] hx rfl (ovBox_cells p w0) (by intro u hu; simp at hu; rcases hu with rfl | rfl <;> rfl) (by unfold maxLen; omega) (by omega) hb'.2.2 ?_
  intro v' w' ho' hg _
  refine h v' w' ⟨?_, hb'.2.1.grown hg hb'.2.2 (fun k hk => (hb'.lt k hk).1), Nat.le_trans hb'.2.2 hg.size⟩
  rw [List.length_append, ovList_snoc]
  exact ho'

/-- What opt.Get answers of bytes: r: what is read of them. -/
def GetOut (W0 : World) (r : Option (List M.Opt)) (e : Ending) (w' : World) : Prop :=
  Below W0.heap.size W0 w' ∧ (match r with
    | none => e = .returned (.tuple #[.slice none 0 0, .int .i64 7])
    | some os => ∃ v, e = .returned (.tuple #[v, .int .i64 0]) ∧ OptsOwn W0.heap.size v os W0 w')

/-- How far the loop has come: acc is read, rest is to be read. -/
def GetAt (l : List UInt8) (acc : List M.Opt) (wt : Bool) (rest : List UInt8) : Prop :=
  M.getOpts l = (M.getF rest.length wt rest).map (acc ++ ·) ∧ acc.length + rest.length ≤ l.length ∧ rest.length ≤ l.length
theorem GetAt.start (l : List UInt8) : GetAt l [] false l := ⟨by unfold M.getOpts; cases M.getF l.length false l <;> simp, by simp, Nat.le_refl _⟩
theorem GetAt.end_yes {l : List UInt8} {acc : List M.Opt} (h : GetAt l acc false []) : M.getOpts l = some acc := by rw [h.1]; simp [M.getF]
theorem GetAt.end_no {l : List UInt8} {acc : List M.Opt} (h : GetAt l acc true []) : M.getOpts l = none := by rw [h.1]; simp [M.getF]
theorem getF_cons {wt : Bool} {rest : List UInt8} (hne : rest ≠ []) : M.getF rest.length wt rest = if M.firstN rest = 0 then none else
    if (M.firstO rest).t = 0 then M.getF (rest.drop (M.firstN rest)).length wt (rest.drop (M.firstN rest)) else
    if wt = true ∧ (M.firstO rest).t = 1 then none else
    (M.getF (rest.drop (M.firstN rest)).length (decide ((M.firstO rest).t = 1)) (rest.drop (M.firstN rest))).map (M.firstO rest :: ·) := by
  obtain ⟨n, hn⟩ : ∃ n, rest.length = n + 1 := by
    cases rest with
    | nil => exact absurd rfl hne
    | cons _ _ => exact ⟨_, rfl⟩
  rw [hn]
  conv => lhs; unfold M.getF
  rw [if_neg hne]
  by_cases h0 : M.firstN rest = 0
  · rw [if_pos h0, if_pos h0]
  rw [if_neg h0, if_neg h0]
  have e : ∀ w, M.getF n w (rest.drop (M.firstN rest)) = M.getF (rest.drop (M.firstN rest)).length w (rest.drop (M.firstN rest)) := fun w => M.getF_more _ w _ _ (by rw [List.length_drop]; omega) (Nat.le_refl _)
  rw [e, e]
theorem GetAt.bad {l : List UInt8} {acc : List M.Opt} {wt : Bool} {rest : List UInt8} (h : GetAt l acc wt rest) (hne : rest ≠ []) (h0 : M.firstN rest = 0) : M.getOpts l = none := by
  rw [h.1, getF_cons hne, if_pos h0]; rfl
theorem GetAt.pad {l : List UInt8} {acc : List M.Opt} {wt : Bool} {rest : List UInt8} (h : GetAt l acc wt rest) (hne : rest ≠ []) (h0 : M.firstN rest ≠ 0) (h1 : (M.firstO rest).t = 0) : GetAt l acc wt (rest.drop (M.firstN rest)) := by
  refine ⟨?_, ?_, ?_⟩
  · rw [h.1, getF_cons hne, if_neg h0, if_pos h1]
  · have := h.2.1; rw [List.length_drop]; omega
  · have := h.2.2; rw [List.length_drop]; omega
theorem GetAt.twice {l : List UInt8} {acc : List M.Opt} {rest : List UInt8} (h : GetAt l acc true rest) (hne : rest ≠ []) (h0 : M.firstN rest ≠ 0) (h1 : (M.firstO rest).t = 1) : M.getOpts l = none := by
  rw [h.1, getF_cons hne, if_neg h0, if_neg (by omega), if_pos ⟨rfl, h1⟩]; rfl
theorem GetAt.next {l : List UInt8} {acc : List M.Opt} {wt : Bool} {rest : List UInt8} (h : GetAt l acc wt rest) (hne : rest ≠ []) (h0 : M.firstN rest ≠ 0) (h1 : (M.firstO rest).t ≠ 0) (h2 : ¬ (wt = true ∧ (M.firstO rest).t = 1)) :
    GetAt l (acc ++ [M.firstO rest]) (decide ((M.firstO rest).t = 1)) (rest.drop (M.firstN rest)) := by
  have hl := M.firstN_le rest hne
  refine ⟨?_, ?_, ?_⟩
  · rw [h.1, getF_cons hne, if_neg h0, if_neg h1, if_neg h2, Option.map_map]
    congr 1
    funext x; simp
  · have := h.2.1; rw [List.length_drop]; simp; omega
  · have := h.2.2; rw [List.length_drop]; omega
end Go.Proofs.YtnhlachoimlhhaaGreatDoor

namespace Go.Proofs.YtnhlachoimlhhaaGreatDoor
open Go.ChangeShapes Go.WideShapes Go.ChangeAt Go.RowKit
set_option linter.unusedVariables false

def strLen : Value → Nat
  | .string s => s.size
  | _ => 0

set_option maxHeartbeats 4000000 in
set_option maxRecDepth 100000 in
theorem optGet_any (l : List UInt8) (hl : l.length ≤ 1073741824) (w : World) :
    Calls Tryz.prog 237 #[.string (str l)] w (GetOut w (M.getOpts l)) := by
  have HNIL := Lib.hid (OptsOwn.nil w)
  have HST := Lib.hid (GetAt.start l)
  go_enter Tryz.func237, Tryz.ntmps237
  go_wp2
  go_loopw [0, 4, 5] (fun b v t wr => ∃ (rest : List UInt8) (acc : List M.Opt) (wt : Bool), b = .string (str rest) ∧ t = .bool wt ∧ Hid (OptsOwn w.heap.size v acc w wr) ∧ Hid (GetAt l acc wt rest)) (fun b _ _ _ => strLen b)
  case atStart => exact ⟨l, [], false, rfl, rfl, HNIL, HST⟩
  case round =>
    obtain ⟨rest, acc, wt, rfl, rfl, hown, hat⟩ := hrel
    by_cases hne : rest = []
    · subst hne
      have e : str [] = ⟨#[]⟩ := rfl
      rw [e]
      cases wt
      · have hr := Lib.hid hat.out.end_yes
        go_wp2
        go_ret2
        refine ⟨hown.out.2.1, ?_⟩
        rw [hr.out]
        exact ⟨_, rfl, hown.out⟩
      · have hr := Lib.hid hat.out.end_no
        go_wp2
        go_ret2
        refine ⟨hown.out.2.1, ?_⟩
        rw [hr.out]
        rfl
    · have HNE := Lib.hid hne
      have hemp : (str rest).toList.isEmpty = false := by rw [str_toList]; cases rest with | nil => exact absurd rfl hne | cons _ _ => rfl
      have hnl := M.firstN_le rest hne
      have HF := Lib.hid (fun w => first_any rest (by have := hat.out.2.2; omega) hne w)
      have hsz : M.firstN rest ≤ (str rest).size := hnl
      have hdrop := str_drop rest (M.firstN rest)
      have hrl : (str rest).size ≤ 1073741824 := by show rest.length ≤ _; have := hat.out.2.2; omega
      unfold Ov at HF
      have HBAD := Lib.hid (fun h0 : M.firstN rest = 0 => hat.out.bad hne h0)
      have HPAD := Lib.hid (fun h0 h1 => hat.out.pad (rest := rest) hne h0 h1)
      have HTW := Lib.hid (fun (hw : wt = true) h0 h1 => GetAt.twice (l := l) (acc := acc) (rest := rest) (by rw [← hw]; exact hat.out) hne h0 h1)
      have HNX := Lib.hid (fun h0 h1 h2 => hat.out.next (rest := rest) hne h0 h1 h2)
      have hacc : acc.length ≤ 1073741824 := by have := hat.out.2.1; omega
      have HOV := Lib.hid (M.firstO_le rest)
      generalize hn : M.firstN rest = n at *
      generalize hpo : M.firstO rest = p at *
      have HSD := Lib.hid (rfl : str (rest.drop n) = str (rest.drop n))
      obtain ⟨rs, hrs⟩ : ∃ rs, str (rest.drop n) = rs := ⟨_, rfl⟩
      obtain ⟨s, hs⟩ : ∃ s, str rest = s := ⟨_, rfl⟩
      rw [hs] at hemp hsz hdrop hrl HF ⊢
      rw [hrs] at hdrop
      have HRS := Lib.hid hrs; have HS := Lib.hid hs
      have HRSZ : Hid (rs.size = s.size - n) := Lib.hid (by rw [← hrs, ← hs]; show (rest.drop n).length = _; rw [List.length_drop]; rfl)
      obtain ⟨t, d⟩ := p
      obtain ⟨ds, hds⟩ : ∃ ds, str d = ds := ⟨_, rfl⟩
      dsimp only at HF HPAD HTW HNX
      rw [hds] at HF
      have HDS := Lib.hid hds
      clear hne hnl hn hpo hrs hs hds HSD hat
      by_cases h0 : n = 0
      · subst h0
        have hr := Lib.hid (HBAD.out rfl)
        clear hdrop
        go_wp2_with (go_at_call 272; refine (HF.out _).mono ?_; rintro e w1 ⟨rfl, hb1⟩)
        go_ret2
        refine ⟨(hown.out.2.1.trans (hb1.mono hown.out.2.2)).alloc (Nat.le_trans hown.out.2.2 hb1.size) _, ?_⟩
        rw [hr.out]
        rfl
      have hb0 : (((n : Nat) : Int) == 0) = false := by rw [beq_eq_false_iff_ne]; omega
      have hnp : 0 < n := by omega
      by_cases h1 : t = 0
      · subst h1
        have HG := Lib.hid (HPAD.out h0 rfl)
        go_wp2_with (go_at_call 272; refine (HF.out _).mono ?_; rintro e w1 ⟨rfl, hb1⟩)
        refine ⟨⟨rest.drop n, acc, wt, by rw [HRS.out], rfl, Lib.hid ((hown.out.kept hb1).kept (bel_alloc _ _)), HG⟩, ?_⟩
        show rs.size < s.size
        rw [HRSZ.out]; omega
      have hb1' : (t == 0) = false := by rw [beq_eq_false_iff_ne]; exact h1
      by_cases h2 : t = 1
      · subst h2
        cases wt
        · have HG := Lib.hid (HNX.out h0 (by decide) (by decide))
          have hdd : decide ((1 : Int) = 1) = true := by decide
          rw [hdd] at HG
          clear h0 h1 hdd
          go_wp2_with (first
            | (go_at_call 272; refine (HF.out _).mono ?_; rintro e w1 ⟨rfl, hb1⟩)
            | (at_builtin; refine wp_opt rfl _ _ rfl _ _ acc rfl w (w1.alloc (.cells #[.int .i64 1, .string ds] 106)) _ ⟨1, d⟩ (by unfold OvBox; rw [HDS.out]) ((hown.out.kept hb1).kept (bel_alloc _ _)) _ (by simp) rfl hacc ?_; intro v2 w2 hb2))
          refine ⟨⟨rest.drop n, _, true, by rw [HRS.out], rfl, Lib.hid hb2, HG⟩, ?_⟩
          show rs.size < s.size
          rw [HRSZ.out]; omega
        · have hr := Lib.hid (HTW.out rfl h0 rfl)
          clear h0 h1
          go_wp2_with (go_at_call 272; refine (HF.out _).mono ?_; rintro e w1 ⟨rfl, hb1⟩)
          go_ret2
          refine ⟨(hown.out.2.1.trans (hb1.mono hown.out.2.2)).alloc (Nat.le_trans hown.out.2.2 hb1.size) _, ?_⟩
          rw [hr.out]
          rfl
      · have hb2' : (t == 1) = false := by rw [beq_eq_false_iff_ne]; exact h2
        have HG := Lib.hid (HNX.out h0 h1 (fun h => h2 h.2))
        rw [decide_eq_false h2] at HG
        clear h0 h1 h2
        cases wt
        all_goals
          go_wp2_with (first
            | (go_at_call 272; refine (HF.out _).mono ?_; rintro e w1 ⟨rfl, hb1⟩)
            | (at_builtin; refine wp_opt rfl _ _ rfl _ _ acc rfl w (w1.alloc (.cells #[.int .i64 t, .string ds] 106)) _ ⟨t, d⟩ (by unfold OvBox; rw [HDS.out]) ((hown.out.kept hb1).kept (bel_alloc _ _)) _ (by simp) rfl hacc ?_; intro v2 w2 hb2))
          refine ⟨⟨rest.drop n, _, false, by rw [HRS.out], rfl, Lib.hid hb2, HG⟩, ?_⟩
          show rs.size < s.size
          rw [HRSZ.out]; omega
end Go.Proofs.YtnhlachoimlhhaaGreatDoor
