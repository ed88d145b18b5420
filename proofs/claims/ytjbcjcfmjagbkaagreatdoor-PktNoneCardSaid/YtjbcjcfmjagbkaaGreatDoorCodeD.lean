/-
  The code that a text names.
-/
import Derived.Test.YtjbcjcfmjagbkaaGreatDoorCodeC
import Derived.Test.YtjbcjcfmjagbkaaGreatDoorRefOpM
namespace Go.Proofs.YtjbcjcfmjagbkaaGreatDoor
open Go.ChangeShapes Go.WideShapes Go.ChangeAt Go.RowKit
set_option linter.unusedVariables false
def sSC : List UInt8 := [83, 67, 58]
def sSN : List UInt8 := [83, 67, 61]
namespace M
/-- A code by its number's text. -/
def numC : List UInt8 → Option Nat
  | [] => ofDig 10 10 []
  | c :: r => if c.toNat = 120 ∨ c.toNat = 88 then ofDig 16 8 r else if c.toNat = 48 ∧ r ≠ [] then none else ofDig 10 10 (c :: r)
/-- The code that a text names. -/
def serv (l : List UInt8) : Option Nat := if Lib.hasPrefix l sSC = true then ofSgn (Lib.trimPrefix l sSC) else if Lib.hasPrefix l sSN = true then numC (Lib.trimPrefix l sSN) else none
end M
theorem cutPre (l p : List UInt8) (w : World) :
    Calls Tryz.prog 76 #[.string (str l), .string (str p)] w fun e w' => e = .returned (.tuple #[.string (str (Lib.trimPrefix l p)), .bool (Lib.hasPrefix l p)]) ∧ w' = w := Tryz.strings_CutPrefix (str l) (str p) w
theorem slice_from (l : List UInt8) (u : Nat) (h2 : u ≤ l.length) (W : World) :
    (Instr.slice 9 (.string (str l)) (some (.int .i64 (u : Int))) none none).run Tryz.prog W = .ok (.string (str (l.drop u))) W := by
  have e := str_extract l u l.length
  rw [List.take_length] at e
  rw [← e]
  go_simp
  rw [if_pos (by rw [str_size]; omega), str_size, e]

theorem dig16 (l : List UInt8) (hl : l.length ≤ 9223372036854775807) (w : World) :
    Calls Tryz.prog 78 #[.string (str l), .int .u64 16, .int .i64 8] w fun e w' => e = .returned (codeRes (M.ofDig 16 8 l)) ∧ Below w.heap.size w w' := ofDigits_any l 16 8 hl (by decide) (by decide) (by decide) w
theorem dig10 (l : List UInt8) (hl : l.length ≤ 9223372036854775807) (w : World) :
    Calls Tryz.prog 78 #[.string (str l), .int .u64 10, .int .i64 10] w fun e w' => e = .returned (codeRes (M.ofDig 10 10 l)) ∧ Below w.heap.size w w' := ofDigits_any l 10 10 hl (by decide) (by decide) (by decide) w
theorem codeRes_two (o : Option Nat) : ∃ (c : Nat) (b : Bool), codeRes o = .tuple #[.int .u32 (c : Int), .bool b] := by
  cases o with
  | none => exact ⟨0, false, rfl⟩
  | some n => exact ⟨n, true, rfl⟩

set_option maxHeartbeats 4000000 in
set_option maxRecDepth 100000 in
theorem service_any (l : List UInt8) (hl : l.length ≤ 9223372036854775807) (w : World) :
    Calls Tryz.prog 29 #[.string (str l)] w fun e w' => e = .returned (codeRes (M.serv l)) ∧ Below w.heap.size w w' := by
  have HO : Hid (M.serv l = if Lib.hasPrefix l sSC = true then M.ofSgn (Lib.trimPrefix l sSC) else if Lib.hasPrefix l sSN = true then M.numC (Lib.trimPrefix l sSN) else none) := Lib.hid rfl
  have HC1 : Hid (∀ w, Calls Tryz.prog 76 #[.string (str l), .string ⟨#[83, 67, 58]⟩] w fun e w' => e = .returned (.tuple #[.string (str (Lib.trimPrefix l sSC)), .bool (Lib.hasPrefix l sSC)]) ∧ w' = w) := Lib.hid (fun w => cutPre l sSC w)
  have HC2 : Hid (∀ w, Calls Tryz.prog 76 #[.string (str l), .string ⟨#[83, 67, 61]⟩] w fun e w' => e = .returned (.tuple #[.string (str (Lib.trimPrefix l sSN)), .bool (Lib.hasPrefix l sSN)]) ∧ w' = w) := Lib.hid (fun w => cutPre l sSN w)
  have hl1 : (Lib.trimPrefix l sSC).length ≤ 9223372036854775807 := by have := Lib.trimPrefix_le l sSC; omega
  have hl2 : (Lib.trimPrefix l sSN).length ≤ 9223372036854775807 := by have := Lib.trimPrefix_le l sSN; omega
  generalize Lib.trimPrefix l sSC = t1 at *
  generalize Lib.trimPrefix l sSN = t2 at *
  generalize str l = s at *
  cases h1 : Lib.hasPrefix l sSC with
  | true =>
    rw [h1, if_pos rfl] at HO; rw [h1] at HC1
    have HS := Lib.hid (fun w => ofSigns_any t1 hl1 w)
    clear h1 HC2 hl1 hl2
    obtain ⟨c, b, hcb⟩ := codeRes_two (M.ofSgn t1)
    rw [hcb] at HS
    rw [HO.out, hcb]
    clear hcb HO
    generalize str t1 = s1 at *
    go_enter Tryz.func29, Tryz.ntmps29
    go_wp2_with first
      | (go_at_call 76; with_reducible refine (HC1.out _).mono ?_; rintro e w1 ⟨rfl, rfl⟩)
      | (go_at_call 77; refine (HS.out _).mono ?_; rintro e w1 ⟨rfl, hb1⟩)
    go_ret2
    exact ⟨rfl, hb1⟩
  | false =>
    rw [h1, if_neg (by decide)] at HO; rw [h1] at HC1
    cases h2 : Lib.hasPrefix l sSN with
    | false =>
      rw [h2, if_neg (by decide)] at HO; rw [h2] at HC2
      clear h1 h2 hl1 hl2
      generalize str t1 = s1 at *
      generalize str t2 = s2 at *
      go_enter Tryz.func29, Tryz.ntmps29
      go_wp2_with first
        | (go_at_call 76; with_reducible refine (HC1.out _).mono ?_; rintro e w1 ⟨rfl, rfl⟩)
        | (go_at_call 76; with_reducible refine (HC2.out _).mono ?_; rintro e w2 ⟨rfl, rfl⟩)
      go_ret2
      exact ⟨ret_nocode HO.out, Below.refl _ _⟩
    | true =>
      rw [h2, if_pos rfl] at HO; rw [h2] at HC2
      clear h1 h2 hl1
      generalize str t1 = s1 at *
      cases t2 with
      | nil =>
        have HD := Lib.hid (fun w => dig10 [] (by decide) w)
        obtain ⟨c, b, hcb⟩ := codeRes_two (M.ofDig 10 10 [])
        rw [hcb] at HD
        rw [HO.out, show M.numC [] = M.ofDig 10 10 [] from rfl, hcb]
        clear hcb HO
        rw [show str [] = ⟨#[]⟩ from rfl] at HC2 HD
        go_enter Tryz.func29, Tryz.ntmps29
        go_wp2_with first
          | (go_at_call 76; with_reducible refine (HC1.out _).mono ?_; rintro e w1 ⟨rfl, rfl⟩)
          | (go_at_call 76; with_reducible refine (HC2.out _).mono ?_; rintro e w2 ⟨rfl, rfl⟩)
          | (go_at_call 78; refine (HD.out _).mono ?_; rintro e w3 ⟨rfl, hb1⟩)
        go_ret2
        exact ⟨rfl, hb1⟩
      | cons c0 r =>
        have hne : (str (c0 :: r)).toList.isEmpty = false := by rw [Lib.toList_data]; rfl
        have HI := fun W => index_at (c0 :: r) (str (c0 :: r)) rfl 0 (Nat.succ_pos _) 0 rfl W
        have hq : M.bAt (c0 :: r) 0 = c0.toNat := rfl
        rw [hq] at HI
        have hex : (str (c0 :: r)).extract 1 (str (c0 :: r)).size = str r := by
          rw [str_size, str_extract, List.take_length]; rfl
        have h1s : 1 ≤ (str (c0 :: r)).size := by rw [str_size]; exact Nat.succ_pos _
        have hsz : ((str (c0 :: r)).size : Int) = (r.length : Int) + 1 := by rw [str_size]; rfl
        rw [show M.numC (c0 :: r) = if c0.toNat = 120 ∨ c0.toNat = 88 then M.ofDig 16 8 r else if c0.toNat = 48 ∧ r ≠ [] then none else M.ofDig 10 10 (c0 :: r) from rfl] at HO
        have hlr : r.length ≤ 9223372036854775807 := by simp at hl2; omega
        have HD1 := Lib.hid (fun w => dig16 r hlr w)
        have HD2 := Lib.hid (fun w => dig10 (c0 :: r) hl2 w)
        rw [← hex] at HD1
        clear hq hl2 hlr hex
        generalize M.ofDig 10 10 (c0 :: r) = o2 at *
        generalize M.ofDig 16 8 r = o1 at *
        generalize str (c0 :: r) = s2 at *
        obtain ⟨Z, hZ⟩ : ∃ Z : Int, (s2.size : Int) = Z := ⟨_, rfl⟩
        generalize c0.toNat = k at *
        by_cases g1 : k = 120
        · subst g1
          rw [if_pos (.inl rfl)] at HO
          obtain ⟨c, b, hcb⟩ := codeRes_two o1
          rw [hcb] at HD1
          rw [HO.out, hcb]
          clear hcb HO HD2 hsz hZ
          go_enter Tryz.func29, Tryz.ntmps29
          go_wp2_with first
            | (go_at_call 76; with_reducible refine (HC1.out _).mono ?_; rintro e w1 ⟨rfl, rfl⟩)
            | (go_at_call 76; with_reducible refine (HC2.out _).mono ?_; rintro e w2 ⟨rfl, rfl⟩)
            | (go_at_call 78; with_reducible refine (HD1.out _).mono ?_; rintro e w3 ⟨rfl, hb1⟩)
          go_ret2
          exact ⟨rfl, hb1⟩
        · have d1 : ((k : Int) == 120) = false := beq_eq_false_iff_ne.2 (by omega)
          by_cases g2 : k = 88
          · subst g2
            rw [if_pos (.inr rfl)] at HO
            obtain ⟨c, b, hcb⟩ := codeRes_two o1
            rw [hcb] at HD1
            rw [HO.out, hcb]
            clear hcb HO HD2 hsz hZ
            go_enter Tryz.func29, Tryz.ntmps29
            go_wp2_with first
              | (go_at_call 76; with_reducible refine (HC1.out _).mono ?_; rintro e w1 ⟨rfl, rfl⟩)
              | (go_at_call 76; with_reducible refine (HC2.out _).mono ?_; rintro e w2 ⟨rfl, rfl⟩)
              | (go_at_call 78; with_reducible refine (HD1.out _).mono ?_; rintro e w3 ⟨rfl, hb1⟩)
            go_ret2
            exact ⟨rfl, hb1⟩
          · have d2 : ((k : Int) == 88) = false := beq_eq_false_iff_ne.2 (by omega)
            rw [if_neg (by omega)] at HO
            by_cases g3 : k = 48 ∧ r ≠ []
            · rw [if_pos g3] at HO
              obtain ⟨rfl, hr⟩ := g3
              have hr1 : 1 ≤ r.length := by cases r with
                | nil => exact absurd rfl hr
                | cons _ _ => exact Nat.succ_pos _
              have d3 : decide ((1 : Int) < Z) = true := decide_eq_true (by omega)
              clear HD1 HD2 hr hr1 hsz
              go_enter Tryz.func29, Tryz.ntmps29
              go_wp2_with first
                | (go_at_call 76; with_reducible refine (HC1.out _).mono ?_; rintro e w1 ⟨rfl, rfl⟩)
                | (go_at_call 76; with_reducible refine (HC2.out _).mono ?_; rintro e w2 ⟨rfl, rfl⟩)
              go_ret2
              exact ⟨ret_nocode HO.out, Below.refl _ _⟩
            · rw [if_neg g3] at HO
              obtain ⟨c, b, hcb⟩ := codeRes_two o2
              rw [hcb] at HD2
              rw [HO.out, hcb]
              clear hcb HO HD1
              by_cases hr : r = []
              · have d3 : decide ((1 : Int) < Z) = false := decide_eq_false (by subst hr; simp at hsz; omega)
                clear hsz g3 hr
                go_enter Tryz.func29, Tryz.ntmps29
                go_wp2_with first
                  | (go_at_call 76; with_reducible refine (HC1.out _).mono ?_; rintro e w1 ⟨rfl, rfl⟩)
                  | (go_at_call 76; with_reducible refine (HC2.out _).mono ?_; rintro e w2 ⟨rfl, rfl⟩)
                  | (go_at_call 78; with_reducible refine (HD2.out _).mono ?_; rintro e w3 ⟨rfl, hb1⟩)
                go_ret2
                exact ⟨rfl, hb1⟩
              · have hr1 : 1 ≤ r.length := by cases r with
                  | nil => exact absurd rfl hr
                  | cons _ _ => exact Nat.succ_pos _
                have hk : k ≠ 48 := fun hh => g3 ⟨hh, hr⟩
                have d3 : decide ((1 : Int) < Z) = true := decide_eq_true (by omega)
                have d4 : ((k : Int) == 48) = false := beq_eq_false_iff_ne.2 (by omega)
                clear hsz g3 hr hr1 hk
                go_enter Tryz.func29, Tryz.ntmps29
                go_wp2_with first
                  | (go_at_call 76; with_reducible refine (HC1.out _).mono ?_; rintro e w1 ⟨rfl, rfl⟩)
                  | (go_at_call 76; with_reducible refine (HC2.out _).mono ?_; rintro e w2 ⟨rfl, rfl⟩)
                  | (go_at_call 78; with_reducible refine (HD2.out _).mono ?_; rintro e w3 ⟨rfl, hb1⟩)
                go_ret2
                exact ⟨rfl, hb1⟩
end Go.Proofs.YtjbcjcfmjagbkaaGreatDoor
