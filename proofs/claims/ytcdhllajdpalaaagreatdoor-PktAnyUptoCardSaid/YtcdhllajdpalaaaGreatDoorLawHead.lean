/-
  The law HeadSizes, walked.
-/
import Derived.Test.YtcdhllajdpalaaaGreatDoorLawSum
import Derived.Test.YtcdhllajdpalaaaGreatDoorRefHead
import Derived.Test.YtcdhllajdpalaaaGreatDoorRefOpM
import Derived.Test.YtcdhllajdpalaaaGreatDoorPkB
import Derived.Deep.QuietTactic
import Derived.BigQuiet
namespace Go.Proofs.YtcdhllajdpalaaaGreatDoor
open Go.ChangeShapes Go.WideShapes Go.ChangeAt Go.RowKit
set_option linter.unusedVariables false

theorem sizeN_zero {t : Int} (h2 : t ≠ 2) (h3 : t ≠ 3) (h4 : t ≠ 4) : sizeN t false = 0 := by
  unfold sizeN
  rcases type_cases t with h' | h' | h' | h' | h' | h' | h' | h' | h' | h' | h' | h'
  · rw [if_pos (.inl h')]
  · rw [if_pos (.inr h')]
  all_goals (subst h'; first | decide | exact absurd rfl h2 | exact absurd rfl h3 | exact absurd rfl h4)
theorem sizeN_pos {t : Int} (x : Bool) (h0 : 0 ≤ t) (h9 : t ≤ 9) (hx : x = true ∨ t = 2 ∨ t = 3 ∨ t = 4) : sizeN t x ≠ 0 := by
  rcases type_cases t with h' | h' | h' | h' | h' | h' | h' | h' | h' | h' | h' | h'
  · omega
  · omega
  all_goals (subst h'; cases x <;> first | decide | (simp at hx))

/-- A head of which only the type and the numbers are asked. -/
def hdS (T : Int) (x : Bool) (s a : Nat) : Hd := ⟨258, 772, 70, 0, 0, 0, T, x, s, a, 0, 0, 0, 0, 0⟩
theorem hdS_may (T : Int) (x : Bool) (s a : Nat) (h0 : 0 ≤ T) (h9 : T ≤ 9) (hx : x = true ∨ T = 2 ∨ T = 3 ∨ T = 4) (hs : s < mostN x) (ha : a < mostN x) (hk : hasAckB T = true ∨ a = 0) : (hdS T x s a).mayB = true := by
  rw [mayB_iff]
  have hz := sizeN_pos x h0 h9 hx
  have hl := sizeN_le T x
  refine ⟨hz, ⟨by show (0 : Int) ≤ 258; decide, by show (258 : Int) ≤ 65535; decide⟩, ⟨by show (0 : Int) ≤ 772; decide, by show (772 : Int) ≤ 65535; decide⟩, ⟨by show ((sizeN T x : Nat) : Int) / 4 ≤ 70; omega, by show (70 : Int) ≤ 255; decide⟩, ⟨by show (0 : Int) ≤ 0; decide, by show (0 : Int) ≤ 15; decide⟩, ⟨by show (0 : Int) ≤ 0; decide, by show (0 : Int) ≤ 15; decide⟩, ⟨by show (0 : Int) ≤ 0; decide, by show (0 : Int) ≤ 65535; decide⟩, ⟨hk, hs, ha⟩, .inr rfl, ?_⟩
  cases hc : codeB T with
  | true => exact .inl ⟨hc, by show (0 : Int) ≤ 0; decide, by show (0 : Int) ≤ 255; decide⟩
  | false => exact .inr ⟨hc, rfl, rfl, rfl, rfl⟩
theorem hdS_ok (T : Int) (x : Bool) (s a : Nat) (hs : s < mostN x) (ha : a < mostN x) : (hdS T x s a).ok := by
  have : mostN x ≤ 281474976710656 := by unfold mostN; split <;> omega
  exact ⟨by show s < _; omega, by show a < _; omega, by show (0 : Nat) < _; decide, by show (0 : Nat) < _; decide, by show (0 : Nat) < _; decide, by show (0 : Nat) < _; decide⟩
theorem hdS_bytes (T : Int) (x : Bool) (s a : Nat) : (hdS T x s a).bytes = 1 :: 2 :: 3 :: 4 :: 70 :: 0 :: 0 :: 0 :: UInt8.ofNat (typeN T.toNat x % 256) :: (beBytes (seqPad x + numLen x) s ++ ((hdS T x s a).ackBytes ++ (hdS T x s a).extraBytes)) := by
  have e1 : (hdS T x s a).nine = [1, 2, 3, 4, 70, 0, 0, 0, UInt8.ofNat (typeN T.toNat x % 256)] := by
    simp [Hd.nine, hdS]
  rw [bytes_nine, e1]
  rfl
/-- What stands where. -/
theorem hdS_at (T : Int) (x : Bool) (s a : Nat) (h0 : 0 ≤ T) (h9 : T ≤ 9) : let l := (hdS T x s a).bytes
    M.bAt l 0 = 1 ∧ M.bAt l 1 = 2 ∧ M.bAt l 2 = 3 ∧ M.bAt l 3 = 4 ∧ M.bAt l 4 = 70 ∧ M.bAt l 8 = typeN T.toNat x := by
  intro l
  have ht := typeN_le T.toNat x (by omega)
  have e : l = _ := hdS_bytes T x s a
  rw [e]
  refine ⟨rfl, rfl, rfl, rfl, rfl, ?_⟩
  show (UInt8.ofNat (typeN T.toNat x % 256)).toNat = _
  rw [ofNat_byte]; omega
theorem hdS_long (T : Int) (s a : Nat) (hs : s < 281474976710656) : let l := (hdS T true s a).bytes
    M.bAt l 9 = 0 ∧ beNum ((l.take 16).drop 10) = s ∧ 16 ≤ l.length ∧ ((l.take 16).drop 10).length = 6 := by
  intro l
  have e : l = _ := hdS_bytes T true s a
  have hl : 16 ≤ l.length := by rw [e]; simp [beBytes_length, seqPad, numLen] <;> omega
  have e2 : (l.take 16).drop 10 = ((beBytes (1 + 6) s ++ ((hdS T true s a).ackBytes ++ (hdS T true s a).extraBytes)).drop 1).take 6 := by
    rw [e, List.drop_take]; rfl
  refine ⟨?_, ?_, hl, by rw [List.length_drop, List.length_take]; omega⟩
  · rw [e]
    show (UInt8.ofNat (s / 256 ^ 6 % 256)).toNat = 0
    rw [ofNat_byte]; omega
  · rw [e2]
    exact num_part 1 6 s _ (by omega)
theorem hdS_short (T : Int) (s a : Nat) (hs : s < 16777216) : let l := (hdS T false s a).bytes
    beNum ((l.take 12).drop 9) = s ∧ 12 ≤ l.length ∧ ((l.take 12).drop 9).length = 3 := by
  intro l
  have e : l = _ := hdS_bytes T false s a
  have hl : 12 ≤ l.length := by rw [e]; simp [beBytes_length, seqPad, numLen] <;> omega
  have e2 : (l.take 12).drop 9 = ((beBytes (0 + 3) s ++ ((hdS T false s a).ackBytes ++ (hdS T false s a).extraBytes)).drop 0).take 3 := by
    rw [e, List.drop_take]; rfl
  refine ⟨?_, hl, by rw [List.length_drop, List.length_take]; omega⟩
  rw [e2]
  exact num_part 0 3 s _ (by omega)
theorem slice2h (l : List UInt8) (t u : Nat) (h1 : t ≤ u) (h2 : u ≤ l.length) (W : World) :
    (Instr.slice 9 (.string (str l)) (some (.int .i64 (t : Int))) (some (.int .i64 (u : Int))) none).run Tryz.prog W = .ok (.string (str ((l.take u).drop t))) W := by
  rw [← str_extract, run_slice_string W 9 (str l) .i64 .i64 _ _ Tryz.underlying9 (by omega) (by omega) (by rw [str_size]; omega)]
  rfl
theorem refNumber_q (l : List UInt8) (h8 : l.length ≤ 8) (n : Nat) (hn : beNum l = n) (w : World) :
    Calls Tryz.prog 44 #[.string (str l)] w fun e w' => e = .returned (.int .u64 n) ∧ w' = w := by
  subst hn
  exact (refNumber_any l h8 w).mono fun e w' h => ⟨h.1, h.2.symm⟩
theorem index_lit (l : List UInt8) (k : Nat) (hk : k < l.length) (v : Nat) (hv : M.bAt l k = v) (i c : Int) (hi : i = (k : Int)) (hc : c = (v : Int)) (W : World) :
    (Instr.index 9 (.string (str l)) (.int .i64 i)).run Tryz.prog W = .ok (.int .u8 c) W := by
  rw [hc, ← hv]
  exact index_at l (str l) rfl k hk i hi W
/-- The text of a head, as it is asked for. -/
structure HText (bs : ByteArray) (T : Int) (x : Bool) (S : Nat) (V : Int) : Prop where
  size : (bs.size : Int) = (sizeN T x : Nat)
  i0 : ∀ W, (Instr.index 9 (.string bs) (.int .i64 0)).run Tryz.prog W = .ok (.int .u8 1) W
  i1 : ∀ W, (Instr.index 9 (.string bs) (.int .i64 1)).run Tryz.prog W = .ok (.int .u8 2) W
  i2 : ∀ W, (Instr.index 9 (.string bs) (.int .i64 2)).run Tryz.prog W = .ok (.int .u8 3) W
  i3 : ∀ W, (Instr.index 9 (.string bs) (.int .i64 3)).run Tryz.prog W = .ok (.int .u8 4) W
  i4 : ∀ W, (Instr.index 9 (.string bs) (.int .i64 4)).run Tryz.prog W = .ok (.int .u8 70) W
  i8 : ∀ W, (Instr.index 9 (.string bs) (.int .i64 8)).run Tryz.prog W = .ok (.int .u8 V) W
  v0 : 0 ≤ V ∧ V ≤ 19
  v1 : V / 2 = T ∧ V.tdiv 2 = T
  v2 : V % 2 = (if x = true then 1 else 0) ∧ V.tmod 2 = (if x = true then 1 else 0)
  long : x = true → (∀ W, (Instr.index 9 (.string bs) (.int .i64 9)).run Tryz.prog W = .ok (.int .u8 0) W) ∧ ∃ nb, (∀ W, (Instr.slice 9 (.string bs) (some (.int .i64 10)) (some (.int .i64 16)) none).run Tryz.prog W = .ok (.string nb) W) ∧
    ∀ w, Calls Tryz.prog 44 #[.string nb] w fun e w' => e = .returned (.int .u64 S) ∧ w' = w
  short : x = false → ∃ nb, (∀ W, (Instr.slice 9 (.string bs) (some (.int .i64 9)) (some (.int .i64 12)) none).run Tryz.prog W = .ok (.string nb) W) ∧
    ∀ w, Calls Tryz.prog 44 #[.string nb] w fun e w' => e = .returned (.int .u64 S) ∧ w' = w
theorem hdS_text (T : Int) (x : Bool) (S A0 : Nat) (h0 : 0 ≤ T) (h9 : T ≤ 9) (hx : x = true ∨ T = 2 ∨ T = 3 ∨ T = 4) (hS : S < mostN x) (hA : A0 < mostN x) (hk : hasAckB T = true ∨ A0 = 0) :
    ∃ bs V, HText bs T x S V ∧ ∀ w, Calls Tryz.prog 15 #[(hdS T x S A0).val] w fun e w' => e = .returned (.string bs) ∧ Below w.heap.size w w' := by
  have hmay := hdS_may T x S A0 h0 h9 hx hS hA hk
  obtain ⟨q1, q2, q3, q4, q5, q6⟩ := hdS_ok T x S A0 hS hA
  have hlen : (hdS T x S A0).bytes.length = sizeN T x := bytes_len hmay
  obtain ⟨j0, j1, j2, j3, j4, j8⟩ := hdS_at T x S A0 h0 h9
  have h12 : 12 ≤ (hdS T x S A0).bytes.length := by rw [hdS_bytes]; cases x <;> (simp [beBytes_length, seqPad, numLen]; try omega)
  have hty : (typeN T.toNat x : Int) = T * 2 + if x = true then 1 else 0 := by unfold typeN; cases x <;> simp <;> omega
  refine ⟨_, (typeN T.toNat x : Int), ⟨?_, index_lit _ 0 (by omega) _ j0 _ _ rfl rfl, index_lit _ 1 (by omega) _ j1 _ _ rfl rfl, index_lit _ 2 (by omega) _ j2 _ _ rfl rfl, index_lit _ 3 (by omega) _ j3 _ _ rfl rfl, index_lit _ 4 (by omega) _ j4 _ _ rfl rfl, index_lit _ 8 (by omega) _ j8 _ _ rfl rfl, ?_, ?_, ?_, fun hx => ?_, fun hx => ?_⟩, fun w => put_yes (hdS T x S A0) w hmay q1 q2 q3 q4 q5 q6⟩
  · rw [str_size, hlen]
  · rw [hty]; cases x <;> simp <;> omega
  · have : (typeN T.toNat x : Int) / 2 = T := by rw [hty]; cases x <;> simp <;> omega
    exact ⟨this, by rw [Int.tdiv_eq_ediv_of_nonneg (by omega), this]⟩
  · have : (typeN T.toNat x : Int) % 2 = (if x = true then 1 else 0) := by rw [hty]; cases x <;> simp <;> omega
    exact ⟨this, by rw [Int.tmod_eq_emod_of_nonneg (by omega), this]⟩
  · subst hx
    obtain ⟨e0, e1, e2, e3⟩ := hdS_long T S A0 hS
    exact ⟨index_lit _ 9 (by omega) _ e0 _ _ rfl rfl, _, fun W => slice2h _ 10 16 (by omega) e2 W, fun w => refNumber_q _ (by omega) S e1 w⟩
  · subst hx
    obtain ⟨e1, e2, e3⟩ := hdS_short T S A0 hS
    exact ⟨_, fun W => slice2h _ 9 12 (by omega) e2 W, fun w => refNumber_q _ (by omega) S e1 w⟩

end Go.Proofs.YtcdhllajdpalaaaGreatDoor
