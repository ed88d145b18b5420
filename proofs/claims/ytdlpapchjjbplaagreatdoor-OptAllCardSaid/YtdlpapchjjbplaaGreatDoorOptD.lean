/-
  What opt.Get answers: bytes as options.
-/
import Derived.Test.YtdlpapchjjbplaaGreatDoorOptC
namespace Go.Proofs.YtdlpapchjjbplaaGreatDoor
open Go.ChangeShapes Go.WideShapes Go.ChangeAt Go.RowKit
set_option linter.unusedVariables false

/-- The cells that a list of options takes. -/
def ovList (os : List M.Opt) : List Value := os.flatMap fun o => [.int .i64 o.t, .string (str o.d)]
theorem ovList_snoc (os : List M.Opt) (o : M.Opt) : ovList (os ++ [o]) = ovList os ++ [.int .i64 o.t, .string (str o.d)] := by simp [ovList]
theorem ovList_len (os : List M.Opt) : (ovList os).length = os.length * 2 := by
  induction os with
  | nil => rfl
  | cons o os ih => simp only [ovList, List.flatMap_cons, List.length_append, List.length_cons, List.length_nil] at *; omega
theorem ovList_get (os : List M.Opt) (i : Nat) (h : i < os.length) : (ovList os)[i * 2]? = some (.int .i64 (os.getD i ⟨0, []⟩).t) ∧ (ovList os)[i * 2 + 1]? = some (.string (str (os.getD i ⟨0, []⟩).d)) := by
  induction os generalizing i with
  | nil => simp at h
  | cons o os ih =>
    cases i with
    | zero => exact ⟨rfl, rfl⟩
    | succ i =>
      have := ih i (by simpa using h)
      have e : ovList (o :: os) = [.int .i64 o.t, .string (str o.d)] ++ ovList os := rfl
      rw [e, List.getElem?_append_right (by simp; omega), List.getElem?_append_right (by simp; omega)]
      have e1 : (i + 1) * 2 - [Value.int .i64 o.t, .string (str o.d)].length = i * 2 := by simp; omega
      have e2 : (i + 1) * 2 + 1 - [Value.int .i64 o.t, .string (str o.d)].length = i * 2 + 1 := by simp; omega
      rw [e1, e2]
      simpa using this

/-- A row of options that the call owns from block B on; below B nothing has turned since W0. -/
def OptsOwn (B : Nat) (v : Value) (os : List M.Opt) (W0 w : World) : Prop := w.ownsRow B 54 2 v os.length (ovList os) ∧ Below B W0 w ∧ B ≤ w.heap.size
theorem OptsOwn.nil (w : World) : OptsOwn w.heap.size (.slice none 0 0) [] w w := ⟨World.ownsRow_nil _ _ _ _, Below.refl _ _, Nat.le_refl _⟩
theorem OptsOwn.lt {B : Nat} {v : Value} {os : List M.Opt} {W0 w : World} (h : OptsOwn B v os W0 w) : ∀ k, v.ownBlock = some k → B ≤ k ∧ k < w.heap.size := (World.ownsRowF_of h.1).lt
theorem OptsOwn.kept {B : Nat} {v : Value} {os : List M.Opt} {W0 w w' : World} (h : OptsOwn B v os W0 w) (hb : Below w.heap.size w w') : OptsOwn B v os W0 w' := by
  refine ⟨h.1.kept (row := none) ⟨hb.os, hb.tape, hb.output, hb.size, fun k hk _ => hb.block k hk⟩ ?_, h.2.1.trans (hb.mono h.2.2), Nat.le_trans h.2.2 hb.size⟩
  cases v.ownBlock <;> simp
theorem OptsOwn.at {B : Nat} {v : Value} {os : List M.Opt} {W0 w : World} (h : OptsOwn B v os W0 w) (hl : os.length ≤ 1073741824) (hd : ∀ o ∈ os, o.d.length ≤ maxLen) : OptsAt w v os := by
  refine ⟨?_, hl, hd⟩
  rcases h.1.2 with ⟨rfl, h0⟩ | ⟨g, cap, cur, rfl, _, hg, _, _, _, ht⟩
  · exact .inl ⟨List.eq_nil_of_length_eq_zero h0, none, 0, rfl⟩
  · have hlt : g < w.heap.size := by
      rcases Nat.lt_or_ge g w.heap.size with hlt | hge
      · exact hlt
      · rw [Array.getElem?_eq_none hge] at hg; cases hg
    refine .inr ⟨g, 0, cap, rfl, hlt, fun i hi => ?_⟩
    have key : ∀ j u, j < os.length * 2 → (ovList os)[j]? = some u → w.cell? ⟨g, 0 + j, none⟩ = some u := by
      intro j u hj hu
      rw [cell_of_row w g (0 + j) cur _ _ hg, Nat.zero_add, ← Array.getElem?_toList]
      rw [← ht, List.getElem?_take_of_lt hj] at hu
      exact hu
    obtain ⟨a, b⟩ := ovList_get os i hi
    exact ⟨key (i * 2) _ (by omega) a, by rw [Nat.add_assoc]; exact key (i * 2 + 1) _ (by omega) b⟩

theorem infoOv2 : (Tryz.prog.info? 54).map (fun i => (i.zero, i.size, i.bytes)) = some (some (.agg #[.int .i64 0, .string ⟨#[]⟩]), 2, 24) := by kernel_rfl

theorem ovBox_cells (o : M.Opt) (w : World) : ∀ j u, [Value.int .i64 o.t, .string (str o.d)][j]? = some u → (w.alloc (OvBox o)).cell? ((⟨w.heap.size, 0, none⟩ : Addr).add j) = some u := fun j u hu => by
  have hadd : (⟨w.heap.size, 0, none⟩ : Addr).add j = ⟨w.heap.size, j, none⟩ := by unfold Addr.add; split <;> simp_all
  rw [hadd, cell_of_row _ _ _ _ _ _ (OvBlk.new o w)]
  simpa using hu

theorem wp_opt {ops : Array Oper} {rest : List Oper} {o : Oper} {a : Act} {Q : Exit → Act → World → Prop} (hgd : o.guard = none) (s x : Operand)
    (ho : o.op = .call { callee := .builtin .append, args := #[s, x], argTypes := #[48, 48] })
    (B : Nat) (v : Value) (os : List M.Opt) (hs : a.eval s = v) (W0 w0 w1 : World) (p : M.Opt) (hw : w1 = w0.alloc (OvBox p)) (hb : OptsOwn B v os W0 w0) (H : Nat) (hH : w0.heap.size = H)
    (hx : a.eval x = .slice (some ⟨H, 0, none⟩) 1 1) (hlen : os.length ≤ 1073741824)
    (h : ∀ v' w', OptsOwn B v' (os ++ [p]) W0 w' → wpList Tryz.prog ops Q rest (a.put o.dst v') w') : wpList Tryz.prog ops Q (o :: rest) a w1 := by
  obtain ⟨i0, hi, hz0, hz1, hz2⟩ := info_parts infoOv2
  subst hH hw
  have hb' := hb.kept (bel_alloc w0 (OvBox p))
  refine wpList_append_own _ hgd s x 48 ho B 54 i0 (.agg #[.int .i64 0, .string ⟨#[]⟩]) 2 24 Tryz.underlying48 hi hz0 hz1 hz2 rfl (by decide) v os.length (ovList os) hs hb'.1 ⟨w0.heap.size, 0, none⟩ 1 1 [.int .i64 p.t, .string (str p.d)] hx rfl (ovBox_cells p w0) (by intro u hu; simp at hu; rcases hu with rfl | rfl <;> rfl) (by unfold maxLen; omega) (by omega) hb'.2.2 ?_
  intro v' w' ho' hg _
  refine h v' w' ⟨?_, hb'.2.1.grown hg hb'.2.2 (fun k hk => (hb'.lt k hk).1), Nat.le_trans hb'.2.2 hg.size⟩
  rw [List.length_append, ovList_snoc]
  exact ho'

/-- What opt.Get answers of bytes: r: what is read of them. -/
def GetOut (W0 : World) (r : Option (List M.Opt)) (e : Ending) (w' : World) : Prop :=
  Below W0.heap.size W0 w' ∧ (match r with
    | none => e = .returned (.tuple #[.slice none 0 0, .int .i64 7])
    | some os => ∃ v, e = .returned (.tuple #[v, .int .i64 0]) ∧ OptsOwn W0.heap.size v os W0 w')

/-- How far the loop has come: acc is read, rest is to be read. -/
def GetAt (l : List UInt8) (acc : List M.Opt) (wt : Bool) (rest : List UInt8) : Prop :=
  M.getOpts l = (M.getF rest.length wt rest).map (acc ++ ·) ∧ acc.length + rest.length ≤ l.length ∧ rest.length ≤ l.length
theorem GetAt.start (l : List UInt8) : GetAt l [] false l := ⟨by unfold M.getOpts; cases M.getF l.length false l <;> simp, by simp, Nat.le_refl _⟩
theorem GetAt.end_yes {l : List UInt8} {acc : List M.Opt} (h : GetAt l acc false []) : M.getOpts l = some acc := by rw [h.1]; simp [M.getF]
theorem GetAt.end_no {l : List UInt8} {acc : List M.Opt} (h : GetAt l acc true []) : M.getOpts l = none := by rw [h.1]; simp [M.getF]
theorem getF_cons {wt : Bool} {rest : List UInt8} (hne : rest ≠ []) : M.getF rest.length wt rest = if M.firstN rest = 0 then none else
    if (M.firstO rest).t = 0 then M.getF (rest.drop (M.firstN rest)).length wt (rest.drop (M.firstN rest)) else
    if wt = true ∧ (M.firstO rest).t = 1 then none else
    (M.getF (rest.drop (M.firstN rest)).length (decide ((M.firstO rest).t = 1)) (rest.drop (M.firstN rest))).map (M.firstO rest :: ·) := by
  obtain ⟨n, hn⟩ : ∃ n, rest.length = n + 1 := by
    cases rest with
    | nil => exact absurd rfl hne
    | cons _ _ => exact ⟨_, rfl⟩
  rw [hn]
  conv => lhs; unfold M.getF
  rw [if_neg hne]
  by_cases h0 : M.firstN rest = 0
  · rw [if_pos h0, if_pos h0]
  rw [if_neg h0, if_neg h0]
  have e : ∀ w, M.getF n w (rest.drop (M.firstN rest)) = M.getF (rest.drop (M.firstN rest)).length w (rest.drop (M.firstN rest)) := fun w => M.getF_more _ w _ _ (by rw [List.length_drop]; omega) (Nat.le_refl _)
  rw [e, e]
theorem GetAt.bad {l : List UInt8} {acc : List M.Opt} {wt : Bool} {rest : List UInt8} (h : GetAt l acc wt rest) (hne : rest ≠ []) (h0 : M.firstN rest = 0) : M.getOpts l = none := by
  rw [h.1, getF_cons hne, if_pos h0]; rfl
theorem GetAt.pad {l : List UInt8} {acc : List M.Opt} {wt : Bool} {rest : List UInt8} (h : GetAt l acc wt rest) (hne : rest ≠ []) (h0 : M.firstN rest ≠ 0) (h1 : (M.firstO rest).t = 0) : GetAt l acc wt (rest.drop (M.firstN rest)) := by
  refine ⟨?_, ?_, ?_⟩
  · rw [h.1, getF_cons hne, if_neg h0, if_pos h1]
  · have := h.2.1; rw [List.length_drop]; omega
  · have := h.2.2; rw [List.length_drop]; omega
theorem GetAt.twice {l : List UInt8} {acc : List M.Opt} {rest : List UInt8} (h : GetAt l acc true rest) (hne : rest ≠ []) (h0 : M.firstN rest ≠ 0) (h1 : (M.firstO rest).t = 1) : M.getOpts l = none := by
  rw [h.1, getF_cons hne, if_neg h0, if_neg (by omega), if_pos ⟨rfl, h1⟩]; rfl
theorem GetAt.next {l : List UInt8} {acc : List M.Opt} {wt : Bool} {rest : List UInt8} (h : GetAt l acc wt rest) (hne : rest ≠ []) (h0 : M.firstN rest ≠ 0) (h1 : (M.firstO rest).t ≠ 0) (h2 : ¬ (wt = true ∧ (M.firstO rest).t = 1)) :
    GetAt l (acc ++ [M.firstO rest]) (decide ((M.firstO rest).t = 1)) (rest.drop (M.firstN rest)) := by
  have hl := M.firstN_le rest hne
  refine ⟨?_, ?_, ?_⟩
  · rw [h.1, getF_cons hne, if_neg h0, if_neg h1, if_neg h2, Option.map_map]
    congr 1
    funext x; simp
  · have := h.2.1; rw [List.length_drop]; simp; omega
  · have := h.2.2; rw [List.length_drop]; omega
end Go.Proofs.YtdlpapchjjbplaaGreatDoor
