/-
  Signs: which runes are; strings.IndexRune at the marks for a rune beyond ASCII.
-/
import Derived.Test.YtjbcjcfmjagbkaaGreatDoorCodeB
import Derived.Test.YtjbcjcfmjagbkaaGreatDoorHdB
import Derived.Test.YtjbcjcfmjagbkaaGreatDoorShelf
import Derived.Laws.Runes
import Derived.Laws.BitsAllLaws
import Derived.Deep.QuietTactic
import Derived.BigQuiet
import Derived.WalkMore
namespace Go.Proofs.YtjbcjcfmjagbkaaGreatDoor
open Go.ChangeShapes Go.WideShapes Go.ChangeAt Go.RowKit
set_option linter.unusedVariables false

def marksL : List UInt8 := [45, 95, 43, 46, 42, 47, 63, 64]
def marksS : ByteArray := ⟨#[45, 95, 43, 46, 42, 47, 63, 64]⟩
theorem marks_no (c : UInt8) (h : 128 ≤ c.toNat) : c ∉ marksL := by
  intro hm
  have : ∀ b ∈ marksL, b.toNat < 128 := by decide
  have := this c hm
  omega
theorem marks_at (i : Nat) (hi : i < 8) : ∃ b : Nat, b < 128 ∧ ∀ W, (Instr.index 9 (.string marksS) (.int .i64 i)).run Tryz.prog W = .ok (.int .u8 b) W := by
  have h2 : i < marksS.size := hi
  refine ⟨(marksS[i]'h2).toNat, ?_, fun W => ?_⟩
  · have hall : ∀ b ∈ marksL, b.toNat < 128 := by decide
    exact hall _ (show marksL[i]'hi ∈ marksL from List.getElem_mem _)
  · rw [run_index_string W 9 marksS .i64 _ Tryz.underlying9, dif_pos (by omega)]
    rfl
theorem indexByte_out (c : UInt8) : ∀ l : List UInt8, c ∉ l → Lib.indexByte l c = -1
  | [], _ => rfl
  | b :: l, h => by
    have h1 : (b == c) = false := by rw [beq_eq_false_iff_ne]; exact fun e => h (by simp [e])
    have h2 := indexByte_out c l (fun hm => h (by simp [hm]))
    unfold Lib.indexByte
    rw [h1, h2]
    rfl

set_option maxHeartbeats 4000000 in
set_option maxRecDepth 100000 in
theorem indexRune_marks (r : Nat) (h0 : 128 ≤ r) (hok : M.okRune r) (h1 : r ≠ 65533) (w : World) :
    Calls Tryz.prog 138 #[.string marksS, .int .i32 r] w fun e w' => e = .returned (.int .i64 (-1)) ∧ Below w.heap.size w w' := by
  have hv : Utf8.valid (r : Int) = true := by
    rw [validRune_eq]
    unfold M.okRune at hok
    simp [validRune]
    omega
  obtain ⟨z1, z2, z3⟩ := encode_facts (r : Int) hv (by omega)
  obtain ⟨rs, hrs⟩ : ∃ rs, Utf8.encode (r : Int) = rs := ⟨_, rfl⟩
  rw [hrs] at z1 z2 z3
  have hlt : rs.size - 1 < rs.size := by omega
  have z4 := z3 hlt
  obtain ⟨k, hk⟩ : ∃ k, k = rs.size - 1 := ⟨_, rfl⟩
  have hk1 : 1 ≤ k ∧ k ≤ 3 := by omega
  have hix : ∀ W, (Instr.index 9 (.string rs) (.int .i64 k)).run Tryz.prog W = .ok (.int .u8 ((rs[rs.size - 1]'hlt).toNat : Int)) W := fun W => by
    rw [run_index_string W 9 rs .i64 _ Tryz.underlying9, dif_pos (by omega)]
    subst hk
    rfl
  obtain ⟨c, hc⟩ : ∃ c, rs[rs.size - 1]'hlt = c := ⟨_, rfl⟩
  rw [hc] at hix z4
  have hsz : (rs.size : Int) = (k : Int) + 1 := by omega
  have hcv : ∀ W, (convert 21 9 (.int .i32 r)).run Tryz.prog W = .ok (.string rs) W := fun W => by
    rw [run_convert_int_string W _ _ _ _ (by rw [Tryz.underlying21]; rfl) Tryz.underlying9, hrs]
  have hms : (marksS.size : Int) = 8 := rfl
  obtain ⟨mb, hmb, hmi⟩ := marks_at k (by omega)
  have hne : ((mb : Int) != (c.toNat : Int)) = true := by rw [bne_iff_ne]; omega
  obtain ⟨ms, hmse⟩ : ∃ ms, ms = marksS := ⟨_, rfl⟩
  obtain ⟨tl, htl⟩ : ∃ tl, marksS.extract (k + 1) marksS.size = tl := ⟨_, rfl⟩
  have hsl : ∀ W, (Instr.slice 9 (.string marksS) (some (.int .i64 ((k : Int) + 1))) none none).run Tryz.prog W = .ok (.string tl) W := fun W => by
    have e : ((k : Int) + 1) = ((k + 1 : Nat) : Int) := by omega
    rw [e, ← htl]
    go_simp
    omega
  have hib : Lib.indexByte tl.data.toList c = -1 := by
    refine indexByte_out c _ (fun hm => ?_)
    rw [← htl] at hm
    have := mem_extract hm
    exact marks_no c z4 this
  have HIB : Hid (∀ W, Calls Tryz.prog 144 #[.string tl, .int .u8 (c.toNat : Int)] W fun e w' => e = .returned (.int .i64 (-1)) ∧ w' = W) := Lib.hid (fun W => by
    have h := Tryz.strings_IndexByte tl (c.toNat : Int) W
    rw [show ((c.toNat : Int)).toNat.toUInt8 = c by simp, hib] at h
    exact h)
  have HVR : Hid (∀ W, Calls Tryz.prog 145 #[.int .i32 r] W fun e w' => e = .returned (.bool true) ∧ w' = W) := Lib.hid (fun W => by
    have h := Tryz.utf8_ValidRune (r : Int) W
    have e : Lib.validRune (r : Int) = true := by unfold M.okRune at hok; simp [Lib.validRune]; omega
    rw [e] at h
    exact h)
  rw [← hmse] at hmi hsl hms ⊢
  have d0 : decide ((r : Int) < 128) = false := decide_eq_false (by omega)
  have d1 : ((r : Int) == 65533) = false := by rw [beq_eq_false_iff_ne]; omega
  have hwk : IntKind.i64.wrap ((k : Int) + 1) = (k : Int) + 1 := IntWalk.i64_in _ (by omega)
  have d2 : decide ((k : Int) < 8) = true := decide_eq_true (by omega)
  clear hib htl hmse hmb hc hk z1 z2 z3 hv hok h1 hrs z4
  go_enter Tryz.func138, Tryz.ntmps138
  go_wp2_with (go_at_call 145; refine (HVR.out _).mono ?_; rintro e w1 ⟨rfl, rfl⟩)
  go_step3
  go_wp2
  refine wp_loop_rounds 1 ?_
  rw [rounds_succ]
  go_wp2
  go_step3
  go_wp2
  go_quiet (fail)
  go_wp2
  have hb2 := bel_drewN w1 nq
  obtain ⟨w2, hw2⟩ : ∃ w2, w1.drewN nq = w2 := ⟨_, rfl⟩
  rw [hw2] at hb2 ⊢
  clear hw2
  go_quiet ((go_at_call 144; exact Calls.quiet_of_same (HIB.out _)))
  go_wp2
  simp only [Exit.inBlock, Exit.then, Exit.noGoto_ret]
  go_ret
  exact ⟨rfl, bel_trans hb2 (bel_drewN _ _)⟩

set_option maxHeartbeats 4000000 in
set_option maxRecDepth 100000 in
theorem indexRune_error (w : World) :
    Calls Tryz.prog 138 #[.string marksS, .int .i32 65533] w fun e w' => e = .returned (.int .i64 (-1)) ∧ Below w.heap.size w w' := by
  have hdec : ∀ pos, pos < marksS.size → ∃ b : Nat, Utf8.decode marksS pos = (b, 1) ∧ b < 128 := fun pos h => by
    have hall : ∀ b ∈ marksL, b.toNat < 128 := by decide
    have hb : (marksS[pos]'h).toNat < 128 := hall _ (show marksL[pos]'h ∈ marksL from List.getElem_mem _)
    exact ⟨_, decode_ascii marksS pos h hb, hb⟩
  obtain ⟨ms, hms⟩ : ∃ ms, ms = marksS := ⟨_, rfl⟩
  rw [← hms] at hdec ⊢
  have HD := Lib.hid hdec
  clear hdec hms
  go_enter Tryz.func138, Tryz.ntmps138
  go_wp2
  go_loopw [] (fun wr => ∃ (pos : Nat), wr.heap[w.heap.size]? = some (.stringIter ms pos) ∧ Hid (Below w.heap.size w wr)) (fun wr => ms.size - wr.iterPos w.heap.size)
  case atStart =>
    exact ⟨0, World.iter_heap w ms 0, Lib.hid ((Below.refl _ w).alloc (Nat.le_refl _) _)⟩
  case round =>
    obtain ⟨pos, hit, hbw⟩ := hrel
    by_cases hp : pos < ms.size
    · have hnx : ∀ ty, (Instr.next (.pointer (some ⟨w.heap.size, 0, none⟩)) true ty).run Tryz.prog wr = _ := fun ty => Lib.run_next_any_at wr w.heap.size ms pos ty hit hp
      obtain ⟨b, hd, hb⟩ := HD.out pos hp
      rw [hd] at hnx
      dsimp only at hnx
      have hit2 := Lib.iterAt_heap wr w.heap.size ms pos (pos + 1) hit
      have hbw2 := Lib.hid (Lib.below_iterAt hbw.out (k := w.heap.size) (Nat.le_refl _) ms (pos + 1))
      have hne : ((b : Int) == 65533) = false := by rw [beq_eq_false_iff_ne]; omega
      have HMS := Lib.hid (show ms.size - (pos + 1) < ms.size - pos by omega)
      clear hd hb
      generalize wr.iterAt w.heap.size ms (pos + 1) = w5 at *
      go_wp2
      refine ⟨⟨pos + 1, hit2, hbw2⟩, ?_⟩
      simp only [World.iterPos, hit2, hit]; exact HMS.out
    · have hnx : ∀ ty, (Instr.next (.pointer (some ⟨w.heap.size, 0, none⟩)) true ty).run Tryz.prog wr = _ := fun ty => Lib.run_next_end_at wr w.heap.size ms pos ty hit hp
      go_wp2
      try simp only [Exit.inBlock, Exit.then, Exit.noGoto_ret]
      go_ret
      exact ⟨rfl, hbw.out⟩

/-- Is a rune a sign of a code? -/
def M.isSgn (r : Nat) : Bool := M.isLet r || M.isDig r || decide (r = 45 ∨ r = 95 ∨ r = 43 ∨ r = 46 ∨ r = 42 ∨ r = 47 ∨ r = 63 ∨ r = 64)
theorem marks_low : ∀ r : Fin 128, decide (0 ≤ Lib.indexByte marksS.data.toList (((r.val : Nat) : Int)).toNat.toUInt8) = decide (r.val = 45 ∨ r.val = 95 ∨ r.val = 43 ∨ r.val = 46 ∨ r.val = 42 ∨ r.val = 47 ∨ r.val = 63 ∨ r.val = 64) := by decide +kernel
theorem containsRune_marks (r : Nat) (hok : M.okRune r) (w : World) :
    Calls Tryz.prog 128 #[.string marksS, .int .i32 r] w fun e w' => e = .returned (.bool (decide (r = 45 ∨ r = 95 ∨ r = 43 ∨ r = 46 ∨ r = 42 ∨ r = 47 ∨ r = 63 ∨ r = 64))) ∧ Below w.heap.size w w' := by
  by_cases h : r < 128
  · refine (Tryz.strings_ContainsRune_ascii marksS (r : Int) w (by omega) (by omega)).mono ?_
    rintro e w' ⟨rfl, rfl⟩
    refine ⟨?_, Below.refl _ _⟩
    have := marks_low ⟨r, h⟩
    rw [← this]
  · have hn : decide (r = 45 ∨ r = 95 ∨ r = 43 ∨ r = 46 ∨ r = 42 ∨ r = 47 ∨ r = 63 ∨ r = 64) = false := decide_eq_false (by omega)
    rw [hn]
    have HI : Hid (∀ w : World, Calls Tryz.prog 138 #[.string marksS, .int .i32 r] w fun e w' => e = .returned (.int .i64 (-1)) ∧ Below w.heap.size w w') := Lib.hid (fun w => by
      by_cases h2 : r = 65533
      · subst h2; exact indexRune_error w
      · exact indexRune_marks r (by omega) hok h2 w)
    generalize marksS = ms at *
    go_enter Tryz.func128, Tryz.ntmps128
    go_wp2_with (go_at_call 138; refine (HI.out _).mono ?_; rintro e w1 ⟨rfl, hb⟩)
    go_ret
    exact ⟨rfl, hb⟩
theorem isSign_any (r : Nat) (hr : r ≤ 2147483647) (hok : M.okRune r) (w : World) :
    Calls Tryz.prog 111 #[.int .i32 r] w fun e w' => e = .returned (.bool (M.isSgn r)) ∧ Below w.heap.size w w' := by
  have HB : Hid (M.isSgn r = (M.isLet r || M.isDig r || decide (r = 45 ∨ r = 95 ∨ r = 43 ∨ r = 46 ∨ r = 42 ∨ r = 47 ∨ r = 63 ∨ r = 64))) := Lib.hid rfl
  have HIL := Lib.hid (fun w => isLetter_any r hr w)
  have HID := Lib.hid (fun w => isDigit_any r hr w)
  have HCR := Lib.hid (fun w => containsRune_marks r hok w)
  unfold marksS at HCR
  generalize decide (r = 45 ∨ r = 95 ∨ r = 43 ∨ r = 46 ∨ r = 42 ∨ r = 47 ∨ r = 63 ∨ r = 64) = m at *
  cases hl : M.isLet r <;> rw [hl] at HIL HB
  · cases hd : M.isDig r <;> rw [hd] at HID HB
    · go_enter Tryz.func111, Tryz.ntmps111
      go_wp2_with (first
        | (go_at_call 86; refine (HIL.out _).mono ?_; rintro e w1 ⟨rfl, rfl⟩)
        | (go_at_call 87; refine (HID.out _).mono ?_; rintro e w1 ⟨rfl, rfl⟩)
        | (go_at_call 128; refine (HCR.out _).mono ?_; rintro e w1 ⟨rfl, hb⟩))
      go_ret
      exact ⟨M.ret_bool (by rw [HB.out]; simp), hb⟩
    · go_enter Tryz.func111, Tryz.ntmps111
      go_wp2_with (first
        | (go_at_call 86; refine (HIL.out _).mono ?_; rintro e w1 ⟨rfl, rfl⟩)
        | (go_at_call 87; refine (HID.out _).mono ?_; rintro e w1 ⟨rfl, rfl⟩))
      go_ret
      exact ⟨M.ret_bool (by rw [HB.out]; simp), Below.refl _ _⟩
  · go_enter Tryz.func111, Tryz.ntmps111
    go_wp2_with (go_at_call 86; refine (HIL.out _).mono ?_; rintro e w1 ⟨rfl, rfl⟩)
    go_ret
    exact ⟨M.ret_bool (by rw [HB.out]; simp), Below.refl _ _⟩
end Go.Proofs.YtjbcjcfmjagbkaaGreatDoor
namespace Go.Proofs.YtjbcjcfmjagbkaaGreatDoor
open Go.ChangeShapes Go.WideShapes Go.ChangeAt Go.RowKit
set_option linter.unusedVariables false
namespace M
/-- A code by its signs, so far c. -/
def sgnF : Nat → List Nat → Option Nat
  | c, [] => some c
  | c, r :: rs => if isSgn r = true then sgnF (c * 256 + r) rs else none
/-- Blanks behind. -/
def padC : Nat → Nat → Nat
  | 0, c => c
  | k + 1, c => padC k (c * 256 + 32)
/-- A code by its signs; none: it is none. -/
def ofSgn (l : List UInt8) : Option Nat := if l = [] ∨ 4 < l.length then none else match sgnF 0 (runes l) with
  | none => none
  | some c => some (padC (4 - l.length) c)
theorem isSgn_low {r : Nat} (h : isSgn r = true) : r < 128 := by
  unfold isSgn isLet isDig at h
  simp at h
  omega
end M
theorem or_u32 (c r : Nat) (hc : c < 16777216) (hr : r < 256) : bits .or .u32 ((c : Int) * 256) (r : Int) = ((c * 256 + r : Nat) : Int) := by
  rw [show ((c : Int) * 256) = ((c * 256 : Nat) : Int) by simp, u32_or_nat _ _ (by omega) (by omega), nat_join 8 _ _ (by omega) (by omega)]
theorem sgn_step {l : List UInt8} {pos R W c : Nat} (hp : pos < l.length) (hd : Lib.decodeL (l.drop pos) = (R, W)) :
    1 ≤ W ∧ pos + W ≤ l.length ∧ M.sgnF c (M.runes (l.drop pos)) = if M.isSgn R = true then M.sgnF (c * 256 + R) (M.runes (l.drop (pos + W))) else none := by
  have hne : l.drop pos ≠ [] := by
    intro hh
    have := congrArg List.length hh
    rw [List.length_drop, List.length_nil] at this; omega
  have hw := M.decode_wide _ hne
  have hs := M.runes_step _ hne
  rw [hd] at hw hs
  dsimp only at hw hs
  rw [List.length_drop] at hw
  rw [List.drop_drop] at hs
  refine ⟨hw.1, by omega, ?_⟩
  rw [hs]; rfl

set_option maxHeartbeats 4000000 in
set_option maxRecDepth 100000 in
theorem ofSigns_any (l : List UInt8) (hl : l.length ≤ 9223372036854775807) (w : World) :
    Calls Tryz.prog 77 #[.string (str l)] w fun e w' => e = .returned (codeRes (M.ofSgn l)) ∧ Below w.heap.size w w' := by
  have HO : Hid (M.ofSgn l = if l = [] ∨ 4 < l.length then none else match M.sgnF 0 (M.runes l) with | none => none | some c => some (M.padC (4 - l.length) c)) := Lib.hid rfl
  by_cases h0 : l = []
  · subst h0
    rw [if_pos (.inl rfl)] at HO
    have he : str [] = ⟨#[]⟩ := rfl
    rw [he]
    go_enter Tryz.func77, Tryz.ntmps77
    go_wp2
    go_ret2
    exact ⟨ret_nocode HO.out, Below.refl _ _⟩
  · have hne : (str l).toList.isEmpty = false := by
      rw [Lib.toList_data]
      cases l with
      | nil => exact absurd rfl h0
      | cons _ _ => rfl
    obtain ⟨s, hs⟩ : ∃ s, str l = s := ⟨_, rfl⟩
    have hsz : s.size = l.length := by rw [← hs]; rfl
    have hdec : ∀ pos, Utf8.decode s pos = Lib.decodeL (l.drop pos) := fun pos => by rw [← hs]; exact (Lib.decodeL_drop (str l) pos).symm
    rw [hs] at hne ⊢
    have HD := Lib.hid hdec; have HSZ := Lib.hid hsz
    obtain ⟨Z, hZ⟩ : ∃ Z : Int, (s.size : Int) = Z := ⟨_, rfl⟩
    have hZl : Z = l.length := by rw [← hZ, hsz]
    by_cases h1 : 4 < l.length
    · rw [if_pos (.inr h1)] at HO
      have d1 : decide ((4 : Int) < Z) = true := decide_eq_true (by omega)
      clear hs hdec hsz hZl h0
      go_enter Tryz.func77, Tryz.ntmps77
      go_wp2
      go_ret2
      exact ⟨ret_nocode HO.out, Below.refl _ _⟩
    · rw [if_neg (by simp [h0, h1])] at HO
      have d1 : decide ((4 : Int) < Z) = false := decide_eq_false (by omega)
      have hlm : l.length ≤ 4 := by omega
      obtain ⟨k, hk⟩ : ∃ k : Nat, k = 4 - l.length := ⟨_, rfl⟩
      have hkZ : (4 : Int) - Z = (k : Int) := by omega
      rw [← hk] at HO
      have HK := Lib.hid (show k + l.length = 4 by omega)
      clear hs hdec hsz hZl h0 h1 hk
      go_enter Tryz.func77, Tryz.ntmps77
      go_wp2
      go_loopw [4] (fun a wr => ∃ (pos c : Nat), a = .int .u32 c ∧ wr.heap[w.heap.size]? = some (.stringIter s pos) ∧ Hid (Below w.heap.size w wr) ∧ Hid (M.sgnF c (M.runes (l.drop pos)) = M.sgnF 0 (M.runes l)) ∧ Hid (c < 256 ^ pos) ∧ pos ≤ l.length) (fun _ wr => s.size - wr.iterPos w.heap.size)
      case atStart =>
        exact ⟨0, 0, rfl, World.iter_heap w s 0, Lib.hid ((Below.refl _ w).alloc (Nat.le_refl _) _), Lib.hid (by simp), Lib.hid (by simp), Nat.zero_le _⟩
      case round =>
        obtain ⟨pos, c, rfl, hit, hbw, hnum, hlt, hpl⟩ := hrel
        by_cases hp : pos < s.size
        · have hnx : ∀ ty, (Instr.next (.pointer (some ⟨w.heap.size, 0, none⟩)) true ty).run Tryz.prog wr = _ := fun ty => Lib.run_next_any_at wr w.heap.size s pos ty hit hp
          obtain ⟨R, W, hRW⟩ : ∃ R W, Utf8.decode s pos = (R, W) := ⟨_, _, rfl⟩
          have hR := decode_le s pos
          rw [hRW] at hnx hR
          dsimp only at hnx hR
          have hd2 : Lib.decodeL (l.drop pos) = (R, W) := by rw [← HD.out]; exact hRW
          have hokr : M.okRune R := by have := M.decode_ok (l.drop pos); rw [hd2] at this; exact this
          obtain ⟨w1, w2, hst⟩ := sgn_step (c := c) (by rw [← HSZ.out]; exact hp) hd2
          rw [hnum.out] at hst
          have hc3 : c < 16777216 := by
            have h1 := hlt.out
            have h2 : 256 ^ pos ≤ 256 ^ 3 := Nat.pow_le_pow_right (by omega) (by have := HSZ.out; omega)
            have h3 : (256 : Nat) ^ 3 = 16777216 := by decide
            omega
          have hit2 := Lib.iterAt_heap wr w.heap.size s pos (pos + W) hit
          have hbw2 := Lib.hid (Lib.below_iterAt hbw.out (k := w.heap.size) (Nat.le_refl _) s (pos + W))
          have hgs : w.heap.size < (wr.iterAt w.heap.size s (pos + W)).heap.size := (Array.getElem?_eq_some_iff.1 hit2).1
          have HSG := Lib.hid (fun w => isSign_any R hR hokr w)
          have HMS := Lib.hid (show s.size - (pos + W) < s.size - pos by omega)
          have HW1 := Lib.hid w1; have HW2 := Lib.hid w2; have HLT := Lib.hid hlt.out
          clear hd2 hRW hnum w1 w2 hokr hlt
          generalize wr.iterAt w.heap.size s (pos + W) = w5 at *
          cases hsg : M.isSgn R with
          | false =>
            rw [hsg] at HSG hst
            rw [if_neg (by decide)] at hst
            have HST := Lib.hid hst
            clear hst
            go_wp2_with (go_at_call 111; refine (HSG.out _).mono ?_; rintro e w6 ⟨rfl, hb6⟩)
            go_ret2
            exact ⟨ret_nocode (by rw [HO.out, HST.out]), bel_trans hbw2.out hb6⟩
          | true =>
            have hrl := M.isSgn_low hsg
            rw [hsg] at HSG hst
            rw [if_pos rfl] at hst
            have HST := Lib.hid hst.symm
            have hw1 : IntKind.u32.wrap ((c : Int) * 256) = (c : Int) * 256 := by rw [IntKind.wrap_u32]; omega
            have hw2 : IntKind.u32.wrap (R : Int) = (R : Int) := by rw [IntKind.wrap_u32]; omega
            have hor := or_u32 c R hc3 (by omega)
            have hgr := Lib.hid (pow_grow HLT.out (show R < 256 by omega) HW1.out)
            clear hst hsg
            go_wp2_with (go_at_call 111; refine (HSG.out _).mono ?_; rintro e w6 ⟨rfl, hb6⟩)
            have hit6 : w6.heap[w.heap.size]? = some (.stringIter s (pos + W)) := by rw [hb6.block _ hgs]; exact hit2
            refine ⟨⟨pos + W, c * 256 + R, ?_, hit6, Lib.hid (bel_trans hbw2.out hb6), HST, hgr, HW2.out⟩, ?_⟩
            · first | rfl | go_num
            · simp only [World.iterPos, hit6, hit]; exact HMS.out
        · have hnx : ∀ ty, (Instr.next (.pointer (some ⟨w.heap.size, 0, none⟩)) true ty).run Tryz.prog wr = _ := fun ty => Lib.run_next_end_at wr w.heap.size s pos ty hit hp
          have hpe : pos = l.length := by have := HSZ.out; omega
          subst hpe
          have hn2 := hnum.out
          rw [List.drop_eq_nil_of_le (Nat.le_refl _)] at hn2
          have HN2 : Hid (M.sgnF 0 (M.runes l) = some c) := Lib.hid hn2.symm
          rw [HN2.out] at HO
          have HO2 : Hid (M.ofSgn l = some (M.padC k c)) := Lib.hid HO.out
          have hclt := hlt
          clear hnum hn2 hlt HN2 HO
          go_wp2
          go_loop [4, 30] (fun a i => ∃ j d : Nat, j ≤ k ∧ i = .int .i64 j ∧ a = .int .u32 d ∧ Hid (M.padC (k - j) d = M.padC k c) ∧ Hid (d < 256 ^ (l.length + j))) (fun _ i => k - (intOf i).toNat)
          case atStart => exact ⟨0, c, Nat.zero_le _, rfl, rfl, Lib.hid rfl, hclt⟩
          case round =>
            obtain ⟨j, d, hj, rfl, rfl, hpad, hdl⟩ := hrel
            have hd4 : d < 4294967296 := by
              have h1 := hdl.out
              have h2 : 256 ^ (l.length + j) ≤ 256 ^ 4 := Nat.pow_le_pow_right (by omega) (by have := HK.out; omega)
              have h3 : (256 : Nat) ^ 4 = 4294967296 := by decide
              omega
            by_cases hjk : j < k
            · have hd3 : d < 16777216 := by
                have h1 := hdl.out
                have h2 : 256 ^ (l.length + j) ≤ 256 ^ 3 := Nat.pow_le_pow_right (by omega) (by have := HK.out; omega)
                have h3 : (256 : Nat) ^ 3 = 16777216 := by decide
                omega
              have hw1 : IntKind.u32.wrap ((d : Int) * 256) = (d : Int) * 256 := by rw [IntKind.wrap_u32]; omega
              have hor : bits .or .u32 ((d : Int) * 256) 32 = ((d * 256 + 32 : Nat) : Int) := or_u32 d 32 hd3 (by omega)
              have hgr := Lib.hid (pow_grow hdl.out (show 32 < 256 by omega) (Nat.le_refl 1))
              obtain ⟨m, hm⟩ : ∃ m, k - j = m + 1 := ⟨k - j - 1, by omega⟩
              have hp2 := hpad.out
              rw [hm] at hp2
              have HP2 : Hid (M.padC (k - (j + 1)) (d * 256 + 32) = M.padC k c) := Lib.hid (by rw [show k - (j + 1) = m by omega]; exact hp2)
              clear hp2 hpad hm
              go_wp2
              go_round
              case rel => exact ⟨j + 1, d * 256 + 32, by omega, by go_num, by first | rfl | go_num, HP2, hgr⟩
              case measure => simp [intOf]; omega
            · obtain rfl : j = k := by omega
              have hp2 := hpad.out
              rw [Nat.sub_self] at hp2
              have HP2 : Hid (d = M.padC j c) := Lib.hid hp2
              clear hpad hp2
              go_wp2
              go_ret2
              exact ⟨ret_code (by rw [HO2.out, ← HP2.out]) rfl, hbw.out⟩
end Go.Proofs.YtjbcjcfmjagbkaaGreatDoor
