/-
  What head.putNumbers and head.putExtras append.
  What head.putExtras appends, and what head.Put answers.
  What head.Put answers.
  What head's reader takes.
-/
import Derived.Test.YtnhlachoimlhhaaGreatDoorHdA
import Derived.RegionTactic
import Derived.RegionCalls
import Derived.Deep.RegionWith
import Derived.Deep.RegionHeld3
import Derived.Deep.Cut
import Derived.Deep.DeepCutAuto
import Derived.Laws.MakeOwn
import Derived.Lib.Strings
namespace Go.Proofs.YtnhlachoimlhhaaGreatDoor
open Go.ChangeShapes Go.WideShapes Go.ChangeAt Go.RowKit
set_option linter.unusedVariables false

def seqPad (x : Bool) : Nat := if x = true then 1 else 0
def ackPad (x : Bool) : Nat := if x = true then 2 else 1
def numLen (x : Bool) : Nat := if x = true then 6 else 3

theorem seqRoom_any (x : Bool) (w : World) :
    Calls Tryz.prog 293 #[.bool x] w fun e w' => e = .returned (.agg #[.int .i64 (seqPad x), .int .i64 (numLen x)]) ∧ w' = w.alloc (.cells #[.int .i64 (seqPad x), .int .i64 (numLen x)] 328) := by
  cases x
  all_goals
    go_enter Tryz.func293, Tryz.ntmps293
    go_wp2
  · exact bodyPost_ret (v := .agg #[.int .i64 0, .int .i64 3]) (by simp [results, Tryz.results293, go_sem]) rfl ⟨rfl, rfl⟩
  · exact bodyPost_ret (v := .agg #[.int .i64 1, .int .i64 6]) (by simp [results, Tryz.results293, go_sem]) rfl ⟨rfl, rfl⟩
theorem ackRoom_any (x : Bool) (w : World) :
    Calls Tryz.prog 294 #[.bool x] w fun e w' => e = .returned (.agg #[.int .i64 (ackPad x), .int .i64 (numLen x)]) ∧ w' = w.alloc (.cells #[.int .i64 (ackPad x), .int .i64 (numLen x)] 328) := by
  cases x
  all_goals
    go_enter Tryz.func294, Tryz.ntmps294
    go_wp2
  · exact bodyPost_ret (v := .agg #[.int .i64 1, .int .i64 3]) (by simp [results, Tryz.results294, go_sem]) rfl ⟨rfl, rfl⟩
  · exact bodyPost_ret (v := .agg #[.int .i64 2, .int .i64 6]) (by simp [results, Tryz.results294, go_sem]) rfl ⟨rfl, rfl⟩

theorem pads_le (x : Bool) : seqPad x + numLen x ≤ 8 ∧ ackPad x + numLen x ≤ 8 := by cases x <;> decide

def Hd.box (h : Hd) : Obj := .cells #[.int .i64 h.src, .int .i64 h.dst, .int .i64 h.off, .int .i64 h.cc, .int .i64 h.cs, .int .i64 h.sum, .int .i64 h.type, .bool h.x, .int .u64 h.seq, .int .u64 h.ack, .int .u32 h.service, .int .i64 h.code, .int .u8 h.i0, .int .u8 h.i1, .int .u8 h.i2] 66

/-- What a head's numbers are as bytes. -/
def Hd.seqBytes (h : Hd) : List UInt8 := beBytes (seqPad h.x + numLen h.x) h.seq
def Hd.ackBytes (h : Hd) : List UInt8 := if hasAckB h.type = true then beBytes (ackPad h.x + numLen h.x) h.ack else []

theorem seqBytes_le (h : Hd) : h.seqBytes.length ≤ 8 := by unfold Hd.seqBytes; rw [beBytes_length]; exact (pads_le h.x).1

/-- What is known behind bytes appended, the head lying at block B. -/
def Behind (w0 : World) (g : Nat) (l : List UInt8) (v : Value) (wx : World) : Prop :=
  ∃ g1 cap1, v = .slice (some ⟨g1, 0, none⟩) l.length cap1 ∧ rowAt wx g1 cap1 l ∧ w0.grownBy wx (some g) ∧ (g1 = g ∨ w0.heap.size ≤ g1)

theorem behind_put {w0 w1 w2 : World} {g g1 cap1 : Nat} {l : List UInt8} (h0 : w0.grownBy w1 (some g)) (hr : rowAt w2 g1 cap1 l) (hb : w1.grownBy w2 (some g)) (ho : g1 = g ∨ w1.heap.size ≤ g1) :
    Behind w0 g l (.slice (some ⟨g1, 0, none⟩) l.length cap1) w2 :=
  ⟨g1, cap1, rfl, hr, h0.trans hb, by have := h0.size; omega⟩

theorem grown_drew {a b : World} {row : Option Nat} (h : a.grownBy b row) : a.grownBy b.drew row := ⟨h.os, h.tape, h.output, h.size, h.block⟩

set_option maxHeartbeats 1000000 in
theorem putNumbers_any (h : Hd) (g cap : Nat) (xs : List UInt8) (w : World) (hown : rowAt w g cap xs) (h1 : h.seq < 18446744073709551616) (h2 : h.ack < 18446744073709551616) (hlen : xs.length ≤ 2048) :
    Calls Tryz.prog 263 #[.slice (some ⟨g, 0, none⟩) xs.length cap, h.val] w (PutOut w g (xs ++ (h.seqBytes ++ h.ackBytes))) := by
  have hlt := row_lt hown
  have HOWN := Lib.hid hown; clear hown
  have hp := pads_le h.x
  have hsb := seqBytes_le h
  unfold Hd.val
  go_enter Tryz.func263, Tryz.ntmps263
  go_upto_region 1 with fail
  go_cut [0] (fun s0 wx => Behind (w.alloc h.box) g (xs ++ h.seqBytes) s0 wx)
  case first =>
    go_region_with (first
      | (go_at_call 293; refine (seqRoom_any _ _).mono ?_; rintro e w1 ⟨rfl, rfl⟩)
      | (go_at_call 292; refine (putIn_any g cap xs (seqPad h.x) (numLen h.x) h.seq _ (row_drew (row_alloc (row_alloc HOWN.out _) _)) h1 (by omega) (by omega)).mono ?_; rintro e w1 ⟨g1, cap1, rfl, hr1, hb1, ho1⟩))
    all_goals (
      go_wp2_with fail
      go_meet
      rw [show xs.length + (beBytes (seqPad h.x + numLen h.x) h.seq).length = (xs ++ h.seqBytes).length by simp [Hd.seqBytes]]
      exact behind_put (grown_drew (World.grownBy_alloc _ _ _)) hr1 hb1 ho1)
  case rest =>
    obtain ⟨g1, cap1, rfl, hr1, hb1, ho1⟩ := hcut
    have hcell : ∀ o, wc.cell? ⟨w.heap.size, o, none⟩ = (w.alloc h.box).cell? ⟨w.heap.size, o, none⟩ := fun o => hb1.cell_far ⟨w.heap.size, o, none⟩ (by simp) (by simp; omega)
    unfold Hd.box at hcell
    have c6 := hcell 6
    have c7 := hcell 7
    have c9 := hcell 9
    simp at c6 c7 c9
    have hsz := hb1.size
    simp at hsz
    have c7a : ∀ o, (wc.alloc o).cell? ⟨w.heap.size, 7, none⟩ = some (.bool h.x) := fun o => by rw [World.cell?_alloc_past _ _ _ (by omega)]; exact c7
    have c9a : ∀ o, (wc.alloc o).cell? ⟨w.heap.size, 9, none⟩ = some (.int .u64 h.ack) := fun o => by rw [World.cell?_alloc_past _ _ _ (by omega)]; exact c9
    have HR1 := Lib.hid hr1; have HB1 := Lib.hid hb1; have HO1 := Lib.hid ho1
    clear hcell hr1 hb1 ho1
    have HA : Hid (h.ackBytes = if hasAckB h.type = true then beBytes (ackPad h.x + numLen h.x) h.ack else []) := Lib.hid rfl
    by_cases ha : hasAckB h.type = true
    · have HH := Lib.hid (fun w => hasAck_any h.type w)
      rw [ha] at HH HA
      rw [if_pos rfl] at HA
      clear ha
      have HP := Lib.hid (fun w (hr : rowAt w g1 cap1 (xs ++ h.seqBytes)) => putIn_any g1 cap1 (xs ++ h.seqBytes) (ackPad h.x) (numLen h.x) h.ack w hr h2 hp.2 (by rw [List.length_append]; omega))
      rw [List.length_append] at HP
      go_upto_region 3 with (go_at_call 98; refine (HH.out _).mono ?_; rintro e w' ⟨rfl, rfl⟩)
      go_region_with (first
        | (go_at_call 294; refine (ackRoom_any _ _).mono ?_; rintro e w1 ⟨rfl, rfl⟩)
        | (go_at_call 292; refine (HP.out _ (row_drew (row_alloc HR1.out _))).mono ?_; rintro e w1 ⟨g2, cap2, rfl, hr2, hb2, ho2⟩))
      all_goals (
        have HR2 := Lib.hid hr2; have HB2 := Lib.hid hb2; have HO2 := Lib.hid ho2
        clear hr2 hb2 ho2
        go_wp2
        go_ret
        refine ⟨g2, cap2, ret_slice (by rw [HA.out]; simp), by rw [HA.out, ← List.append_assoc]; exact HR2.out, ?_, ?_⟩
        · refine (((World.grownBy_alloc _ _ _).trans HB1.out).trans (grown_drew (World.grownBy_alloc _ _ _))).andThen HB2.out ?_
          intro j hj
          cases hj
          have := HO1.out
          simp at this
          rcases this with h | h
          · exact .inr (by rw [h])
          · exact .inl (by omega)
        · have h1 := HO1.out
          have h2 := HO2.out
          simp at h1 h2
          omega)
    · have HH := Lib.hid (fun w => hasAck_any h.type w)
      rw [Bool.eq_false_iff.2 ha] at HH HA
      rw [if_neg (by decide)] at HA
      clear ha
      go_wp2_with (go_at_call 98; refine (HH.out _).mono ?_; rintro e w' ⟨rfl, rfl⟩)
      go_ret
      refine ⟨g1, cap1, ret_slice (by rw [HA.out]; simp), by rw [HA.out, List.append_nil]; exact HR1.out, (World.grownBy_alloc _ _ _).trans HB1.out, ?_⟩
      have h1 := HO1.out
      simp at h1
      omega
end Go.Proofs.YtnhlachoimlhhaaGreatDoor

namespace Go.Proofs.YtnhlachoimlhhaaGreatDoor
open Go.ChangeShapes Go.WideShapes Go.ChangeAt Go.RowKit
set_option linter.unusedVariables false

def Hd.infoBytes (h : Hd) : List UInt8 := [UInt8.ofNat h.i0, UInt8.ofNat h.i1, UInt8.ofNat h.i2]
def Hd.extraBytes (h : Hd) : List UInt8 := if serviceB h.type = true then beBytes 4 h.service else if codeB h.type = true then beBytes 1 h.code.toNat ++ h.infoBytes else []

theorem service_not_code {t : Int} (h : serviceB t = true) : codeB t = false := by
  unfold serviceB at h; unfold codeB
  have := of_decide_eq_true h
  exact decide_eq_false (by omega)

theorem info_map (h : Hd) (h4 : h.i0 < 256) (h5 : h.i1 < 256) (h6 : h.i2 < 256) : h.infoBytes.map byteV = [.int .u8 h.i0, .int .u8 h.i1, .int .u8 h.i2] := by
  simp [Hd.infoBytes, byteV]; omega

set_option maxHeartbeats 1000000 in
theorem putExtras_any (h : Hd) (g cap : Nat) (xs : List UInt8) (w : World) (hown : rowAt w g cap xs) (h3 : h.service < 4294967296) (h4 : h.i0 < 256) (h5 : h.i1 < 256) (h6 : h.i2 < 256) (hcode : codeB h.type = true → 0 ≤ h.code ∧ h.code ≤ 255) (hlen : xs.length ≤ 2048) :
    Calls Tryz.prog 264 #[.slice (some ⟨g, 0, none⟩) xs.length cap, h.val] w (PutOut w g (xs ++ h.extraBytes)) := by
  have hlt := row_lt hown
  have HOWN := Lib.hid hown; clear hown
  have HX : Hid (h.extraBytes = if serviceB h.type = true then beBytes 4 h.service else if codeB h.type = true then beBytes 1 h.code.toNat ++ h.infoBytes else []) := Lib.hid rfl
  by_cases hs : serviceB h.type = true
  · have hc := service_not_code hs
    have HS := Lib.hid (fun w => hasService_any h.type w)
    have HC := Lib.hid (fun w => hasCode_any h.type w)
    rw [hs] at HS HX
    rw [hc] at HC
    rw [if_pos rfl] at HX
    have HP := Lib.hid (fun w (hr : rowAt w g cap xs) => put_any g cap xs 4 h.service w hr (by omega) (by omega) (by omega))
    clear hs hc hcode
    unfold Hd.val
    go_enter Tryz.func264, Tryz.ntmps264
    go_wp2_with (first
      | (go_at_call 245; refine (HS.out _).mono ?_; rintro e w' ⟨rfl, rfl⟩))
    refine (HP.out _ (row_alloc HOWN.out _)).mono ?_
    rintro e w1 ⟨g1, cap1, rfl, hr1, hb1, ho1⟩
    have hcell : w1.cell? ⟨w.heap.size, 6, none⟩ = some (.int .i64 h.type) := by
      rw [hb1.cell_far ⟨w.heap.size, 6, none⟩ (by simp) (by simp; omega)]; simp
    have HR1 := Lib.hid hr1; have HB1 := Lib.hid hb1; have HO1 := Lib.hid ho1
    clear hr1 hb1 ho1
    go_wp2_with (first
      | (go_at_call 246; refine (HC.out _).mono ?_; rintro e w' ⟨rfl, rfl⟩))
    go_ret
    refine ⟨g1, cap1, ret_slice (by rw [HX.out]; simp), by rw [HX.out]; exact HR1.out, (World.grownBy_alloc _ _ _).trans HB1.out, ?_⟩
    have := HO1.out
    simp at this
    omega
  · by_cases hc : codeB h.type = true
    · have HS := Lib.hid (fun w => hasService_any h.type w)
      have HC := Lib.hid (fun w => hasCode_any h.type w)
      rw [Bool.eq_false_iff.2 hs] at HS HX
      rw [hc] at HC HX
      rw [if_neg (by decide), if_pos rfl] at HX
      obtain ⟨hc0, hc1⟩ := hcode hc
      obtain ⟨c, hcc⟩ := Int.eq_ofNat_of_zero_le hc0
      have hcn : h.code.toNat = c := by rw [hcc]; rfl
      rw [hcn] at HX
      have hcl : c ≤ 255 := by omega
      have HP := Lib.hid (fun w (hr : rowAt w g cap xs) => put_any g cap xs 1 c w hr (by omega) (by omega) (by omega))
      have him := info_map h h4 h5 h6
      have HIM := Lib.hid him
      clear hs hc hcode hcn him
      unfold Hd.val
      rw [hcc]
      clear hcc hc0 hc1
      obtain ⟨i0, hi, hz0, hz1, hz2⟩ := info_parts infoU8
      go_enter Tryz.func264, Tryz.ntmps264
      go_wp2_with (first
        | (go_at_call 245; refine (HS.out _).mono ?_; rintro e w' ⟨rfl, rfl⟩)
        | (go_at_call 246; refine (HC.out _).mono ?_; rintro e w' ⟨rfl, rfl⟩))
      refine (HP.out _ (row_alloc HOWN.out _)).mono ?_
      rintro e w1 ⟨g1, cap1, rfl, hr1, hb1, ho1⟩
      have hcell : ∀ o, w1.cell? ⟨w.heap.size, o, none⟩ = (w.alloc _).cell? ⟨w.heap.size, o, none⟩ := fun o => hb1.cell_far ⟨w.heap.size, o, none⟩ (by simp) (by simp; omega)
      have c12 := hcell 12
      have c13 := hcell 13
      have c14 := hcell 14
      simp at c12 c13 c14
      have hnews : ∀ j u, [Value.int .u8 (h.i0 : Int), .int .u8 (h.i1 : Int), .int .u8 (h.i2 : Int)][j]? = some u → w1.cell? ((⟨w.heap.size, 12, none⟩ : Addr).add j) = some u := by
        intro j u hj
        rcases j with _ | _ | _ | j
        · cases hj; exact c12
        · cases hj; exact c13
        · cases hj; exact c14
        · simp at hj
      have hone : ∀ u ∈ [Value.int .u8 (h.i0 : Int), .int .u8 (h.i1 : Int), .int .u8 (h.i2 : Int)], u.oneCell' = true := by
        intro u hu
        simp only [List.mem_cons, List.not_mem_nil, or_false] at hu
        rcases hu with rfl | rfl | rfl <;> rfl
      have hll : (xs ++ beBytes 1 c).length = xs.length + 1 := by simp [beBytes_length]
      have hl63 : (xs ++ beBytes 1 c).length + 3 ≤ maxLen := by unfold maxLen; omega
      have HNEWS := Lib.hid hnews; have HONE := Lib.hid hone; have HLL := Lib.hid hll; have HL63 := Lib.hid hl63
      have HR1 := Lib.hid hr1; have HB1 := Lib.hid hb1; have HO1 := Lib.hid ho1
      clear hcell c12 c13 c14 hnews hone hll hl63 hr1 hb1 ho1
      generalize hys : xs ++ beBytes 1 c = ys at *
      have HYS := Lib.hid hys; clear hys
      go_wp2_with (
        at_builtin; (refine wpList_append_lies _ rfl _ _ 90 rfl 0 5 i0 (.int .u8 0) 1 1 Tryz.underlying90 hi hz0 hz1 hz2 rfl (by decide) _ _ _ rfl HR1.out ⟨w.heap.size, 12, none⟩ 3 3 [.int .u8 (h.i0 : Int), .int .u8 (h.i1 : Int), .int .u8 (h.i2 : Int)] rfl rfl HNEWS.out HONE.out (by decide) HL63.out (by have := HLL.out; omega) (Nat.zero_le _) _ rfl ?_; intro g2 cap2 w2 hr2 hb2 hat2 hlt2))
      have HR2 := Lib.hid hr2; have HB2 := Lib.hid hb2; have HAT2 := Lib.hid hat2
      clear hr2 hb2 hat2 hlt2
      go_wp2
      go_ret
      have e : xs ++ h.extraBytes = ys ++ h.infoBytes := by rw [HX.out, ← List.append_assoc, HYS.out]
      rw [e]
      refine ⟨g2, cap2, ret_slice (by simp [Hd.infoBytes]), by unfold rowAt; rw [List.length_append, List.map_append, HIM.out]; exact HR2.out, ?_, ?_⟩
      · refine ((World.grownBy_alloc _ _ _).trans HB1.out).andThen HB2.out ?_
        intro j hj
        cases hj
        rcases HO1.out with h | h
        · exact .inr (by rw [h])
        · exact .inl (Nat.le_trans (World.grownBy_alloc w _ none).size h)
      · have h1 := HO1.out
        have h2 := HB1.out.size
        simp at h1 h2
        rcases HAT2.out with h | h
        · have e : g2 = g1 := (Option.some.inj (show some g1 = some g2 from h)).symm
          omega
        · omega
    · have HS := Lib.hid (fun w => hasService_any h.type w)
      have HC := Lib.hid (fun w => hasCode_any h.type w)
      rw [Bool.eq_false_iff.2 hs] at HS HX
      rw [Bool.eq_false_iff.2 hc] at HC HX
      rw [if_neg (by decide), if_neg (by decide)] at HX
      clear hs hc hcode
      unfold Hd.val
      go_enter Tryz.func264, Tryz.ntmps264
      go_wp2_with (first
        | (go_at_call 245; refine (HS.out _).mono ?_; rintro e w' ⟨rfl, rfl⟩)
        | (go_at_call 246; refine (HC.out _).mono ?_; rintro e w' ⟨rfl, rfl⟩))
      go_ret
      refine ⟨g, cap, ret_slice (by rw [HX.out]; simp), by rw [HX.out, List.append_nil]; exact row_alloc HOWN.out _, World.grownBy_alloc _ _ _, .inl rfl⟩

theorem typeByte_any (t : Int) (x : Bool) (h0 : 0 ≤ t) (h1 : t ≤ 9) (w : World) :
    Calls Tryz.prog 262 #[.int .i64 t, .bool x] w fun e w' => e = .returned (.int .i64 (t * 2 + if x = true then 1 else 0)) ∧ w = w' := by
  have ht : t = 0 ∨ t = 1 ∨ t = 2 ∨ t = 3 ∨ t = 4 ∨ t = 5 ∨ t = 6 ∨ t = 7 ∨ t = 8 ∨ t = 9 := by omega
  rcases ht with rfl | rfl | rfl | rfl | rfl | rfl | rfl | rfl | rfl | rfl <;> cases x
  all_goals
    go_enter Tryz.func262, Tryz.ntmps262
    go_wp2
    go_ret
    exact ⟨M.ret_int (by decide), rfl⟩
end Go.Proofs.YtnhlachoimlhhaaGreatDoor

namespace Go.Proofs.YtnhlachoimlhhaaGreatDoor
open Go.ChangeShapes Go.WideShapes Go.ChangeAt Go.RowKit
set_option linter.unusedVariables false

theorem or_half : ∀ a b : Fin 16, bits .or .i64 ((a.val : Int) * 16) (b.val : Int) = ((a.val * 16 + b.val : Nat) : Int) := by decide +kernel
theorem or_halves (a b : Nat) (ha : a ≤ 15) (hb : b ≤ 15) : bits .or .i64 ((a : Int) * 16) (b : Int) = ((a * 16 + b : Nat) : Int) := or_half ⟨a, by omega⟩ ⟨b, by omega⟩

/-- Bytes that have been appended since the world w0, at whose block g they began. -/
structure St (w0 : World) (g : Nat) (l : List UInt8) (g1 cap1 : Nat) (wx : World) : Prop where
  row : rowAt wx g1 cap1 l
  grown : w0.grownBy wx (some g)
  place : g1 = g ∨ w0.heap.size ≤ g1

theorem St.next {w0 wx w2 : World} {g g1 cap1 g2 cap2 : Nat} {l l2 : List UInt8} (s : St w0 g l g1 cap1 wx) (hr : rowAt w2 g2 cap2 l2) (hb : wx.grownBy w2 (some g1)) (ho : g2 = g1 ∨ wx.heap.size ≤ g2) : St w0 g l2 g2 cap2 w2 := by
  refine ⟨hr, s.grown.andThen hb ?_, ?_⟩
  · intro j hj
    cases hj
    rcases s.place with h | h
    · exact .inr (by rw [h])
    · exact .inl h
  · have := s.grown.size
    have := s.place
    omega

theorem put_st {w0 wx : World} {g g1 cap1 : Nat} {l : List UInt8} (k n : Nat) (s : St w0 g l g1 cap1 wx) (hn : n < 18446744073709551616) (hk : k ≤ 8) (hl : l.length ≤ 4096) :
    Calls Tryz.prog 261 #[.slice (some ⟨g1, 0, none⟩) l.length cap1, .int .i64 k, .int .u64 n] wx fun e w' => ∃ g2 cap2, e = .returned (.slice (some ⟨g2, 0, none⟩) (l ++ beBytes k n).length cap2) ∧ St w0 g (l ++ beBytes k n) g2 cap2 w' :=
  (put_any g1 cap1 l k n wx s.row hn hk hl).mono fun e w' ⟨g2, cap2, he, hr, hb, ho⟩ => ⟨g2, cap2, he, s.next hr hb ho⟩

/-- The head h lies at the head of block B. -/
def HdAt (h : Hd) (B : Nat) (w : World) : Prop :=
  w.cell? ⟨B, 0, none⟩ = some (.int .i64 h.src) ∧ w.cell? ⟨B, 1, none⟩ = some (.int .i64 h.dst) ∧ w.cell? ⟨B, 2, none⟩ = some (.int .i64 h.off) ∧ w.cell? ⟨B, 3, none⟩ = some (.int .i64 h.cc) ∧ w.cell? ⟨B, 4, none⟩ = some (.int .i64 h.cs)
  ∧ w.cell? ⟨B, 5, none⟩ = some (.int .i64 h.sum) ∧ w.cell? ⟨B, 6, none⟩ = some (.int .i64 h.type) ∧ w.cell? ⟨B, 7, none⟩ = some (.bool h.x) ∧ w.cell? ⟨B, 8, none⟩ = some (.int .u64 h.seq) ∧ w.cell? ⟨B, 9, none⟩ = some (.int .u64 h.ack)
  ∧ w.cell? ⟨B, 10, none⟩ = some (.int .u32 h.service) ∧ w.cell? ⟨B, 11, none⟩ = some (.int .i64 h.code) ∧ w.cell? ⟨B, 12, none⟩ = some (.int .u8 h.i0) ∧ w.cell? ⟨B, 13, none⟩ = some (.int .u8 h.i1) ∧ w.cell? ⟨B, 14, none⟩ = some (.int .u8 h.i2)

theorem HdAt.of_cells {h : Hd} {B : Nat} {w w' : World} (a : HdAt h B w) (hc : ∀ o, w'.cell? ⟨B, o, none⟩ = w.cell? ⟨B, o, none⟩) : HdAt h B w' := by
  unfold HdAt at *; simp only [hc]; exact a
theorem HdAt.st {h : Hd} {B : Nat} {w0 wx : World} {g g1 cap1 : Nat} {l : List UInt8} (a : HdAt h B w0) (s : St w0 g l g1 cap1 wx) (hB : B < w0.heap.size) (hne : B ≠ g) : HdAt h B wx :=
  a.of_cells fun o => s.grown.cell_far ⟨B, o, none⟩ hB (by simp; exact hne)
theorem hdAt_box (h : Hd) (w : World) : HdAt h w.heap.size (w.alloc h.box) := by
  unfold HdAt Hd.box; simp

def typeN (t : Nat) (x : Bool) : Nat := t * 2 + if x = true then 1 else 0
theorem typeN_le (t : Nat) (x : Bool) (h : t ≤ 9) : typeN t x ≤ 19 := by unfold typeN; split <;> omega
theorem typeByteN_any (t : Nat) (x : Bool) (h : t ≤ 9) (w : World) :
    Calls Tryz.prog 262 #[.int .i64 t, .bool x] w fun e w' => e = .returned (.int .i64 (typeN t x)) ∧ w = w' := by
  refine (typeByte_any t x (by omega) (by omega) w).mono fun e w' ⟨h1, h2⟩ => ⟨?_, h2⟩
  rw [h1]
  exact M.ret_int (by unfold typeN; split <;> simp)

/-- The slice's bytes as a text. -/
theorem convert_row {w : World} {g cap : Nat} {l : List UInt8} (h : rowAt w g cap l) : (convert 90 9 (.slice (some ⟨g, 0, none⟩) l.length cap)).run Tryz.prog w = .ok (.string (str l)) w := by
  refine run_convert_bytes_back w 90 9 5 ⟨g, 0, none⟩ cap l Tryz.underlying90 Tryz.underlying5 Tryz.underlying9 (fun j hj => ?_)
  obtain ⟨h1, h2⟩ := h
  rcases h2 with ⟨h2, _⟩ | ⟨g2, cap2, cur, h2, h3, h4, h5, h6, h7, h8⟩
  · cases h2
  · cases h2
    have e := cell_of_row w g (0 + j) cur _ _ h4
    rw [show (⟨g, 0, none⟩ : Addr).add j = ⟨g, 0 + j, none⟩ from by simp [Addr.add]; exact fun h => h.symm, e, Nat.zero_add]
    rw [Nat.mul_one] at h8
    have h9 : cur.toList[j]? = (l.map byteV)[j]? := by
      rw [← h8, List.getElem?_take_of_lt hj]
    rw [← Array.getElem?_toList, h9]
    simp [hj, byteV]

theorem mayB_bounds {h : Hd} (hm : h.mayB = true) : (0 ≤ h.src ∧ h.src ≤ 65535) ∧ (0 ≤ h.dst ∧ h.dst ≤ 65535) ∧ (0 ≤ h.off ∧ h.off ≤ 255) ∧ (0 ≤ h.cc ∧ h.cc ≤ 15) ∧ (0 ≤ h.cs ∧ h.cs ≤ 15) ∧ (0 ≤ h.sum ∧ h.sum ≤ 65535) ∧ (0 ≤ h.type ∧ h.type ≤ 9) ∧ (codeB h.type = true → 0 ≤ h.code ∧ h.code ≤ 255) := by
  unfold Hd.mayB at hm
  simp only [Bool.and_eq_true, btw_true, decide_eq_true_eq] at hm
  obtain ⟨m0, m1, m2, m3, m4, m5, m6, m7, m8⟩ := hm
  refine ⟨m1, m2, ⟨by omega, m3.2⟩, m4, m5, m6, ?_, ?_⟩
  · rcases type_cases h.type with h' | h' | h'
    · exact absurd (sizeN_out h.x (.inl h')) m0
    · exact absurd (sizeN_out h.x (.inr h')) m0
    · omega
  · intro hc
    unfold Hd.extrasB at m8
    rw [if_pos hc, Bool.and_eq_true, btw_true] at m8
    exact m8.2

/-- A head as bytes. -/
def Hd.bytes (h : Hd) : List UInt8 :=
  beBytes 2 h.src.toNat ++ beBytes 2 h.dst.toNat ++ beBytes 1 h.off.toNat ++ beBytes 1 (h.cc.toNat * 16 + h.cs.toNat) ++ beBytes 2 h.sum.toNat ++ beBytes 1 (typeN h.type.toNat h.x) ++ (h.seqBytes ++ h.ackBytes) ++ h.extraBytes

theorem put_no (h : Hd) (w : World) (hm : h.mayB = false) (h1 : h.seq < 18446744073709551616) (h2 : h.ack < 18446744073709551616) :
    Calls Tryz.prog 234 #[h.val] w fun e w' => e = .returned (.string (str [])) ∧ Below w.heap.size w w' := by
  have HM := Lib.hid (fun w => may_any h w h1 h2)
  rw [hm] at HM
  clear hm
  unfold Hd.val at HM ⊢
  go_enter Tryz.func234, Tryz.ntmps234
  go_wp2_with fail
  refine (HM.out _).mono ?_
  rintro e w1 ⟨rfl, hb1⟩
  go_wp2
  go_ret
  exact ⟨rfl, bel_trans (bel_alloc _ _) hb1⟩

set_option maxRecDepth 100000 in
set_option maxHeartbeats 4000000 in
theorem put_yes (h : Hd) (w : World) (hm : h.mayB = true) (h1 : h.seq < 18446744073709551616) (h2 : h.ack < 18446744073709551616) (h3 : h.service < 4294967296) (h4 : h.i0 < 256) (h5 : h.i1 < 256) (h6 : h.i2 < 256) :
    Calls Tryz.prog 234 #[h.val] w fun e w' => e = .returned (.string (str h.bytes)) ∧ Below w.heap.size w w' := by
  have HM := Lib.hid (fun w => may_any h w h1 h2)
  obtain ⟨m1, m2, m3, m4, m5, m6, m7, m8⟩ := mayB_bounds hm
  rw [hm] at HM
  clear hm
  obtain ⟨s, es⟩ := Int.eq_ofNat_of_zero_le m1.1
  obtain ⟨d, ed⟩ := Int.eq_ofNat_of_zero_le m2.1
  obtain ⟨o, eo⟩ := Int.eq_ofNat_of_zero_le m3.1
  obtain ⟨c, ec⟩ := Int.eq_ofNat_of_zero_le m4.1
  obtain ⟨k, ek⟩ := Int.eq_ofNat_of_zero_le m5.1
  obtain ⟨u, eu⟩ := Int.eq_ofNat_of_zero_le m6.1
  obtain ⟨t, et⟩ := Int.eq_ofNat_of_zero_le m7.1
  have bs : s ≤ 65535 := by omega
  have bd : d ≤ 65535 := by omega
  have bo : o ≤ 255 := by omega
  have bc : c ≤ 15 := by omega
  have bk : k ≤ 15 := by omega
  have bu : u ≤ 65535 := by omega
  have bt : t ≤ 9 := by omega
  have btn := typeN_le t h.x bt
  have HBY : Hid (h.bytes = beBytes 2 s ++ beBytes 2 d ++ beBytes 1 o ++ beBytes 1 (c * 16 + k) ++ beBytes 2 u ++ beBytes 1 (typeN t h.x) ++ (h.seqBytes ++ h.ackBytes) ++ h.extraBytes) := Lib.hid (by unfold Hd.bytes; rw [es, ed, eo, ec, ek, eu, et]; rfl)
  have HOR := or_halves c k bc bk
  have ES := Lib.hid es; have ED := Lib.hid ed; have EO := Lib.hid eo; have EC := Lib.hid ec; have EK := Lib.hid ek; have EU := Lib.hid eu; have ET := Lib.hid et
  have M8 := Lib.hid m8
  clear es ed eo ec ek eu et m1 m2 m3 m4 m5 m6 m7 m8
  have HBOX := Lib.hid (hdAt_box h w)
  have HV : Hid (h.val = .agg #[.int .i64 h.src, .int .i64 h.dst, .int .i64 h.off, .int .i64 h.cc, .int .i64 h.cs, .int .i64 h.sum, .int .i64 h.type, .bool h.x, .int .u64 h.seq, .int .u64 h.ack, .int .u32 h.service, .int .i64 h.code, .int .u8 h.i0, .int .u8 h.i1, .int .u8 h.i2]) := Lib.hid rfl
  unfold Hd.val at HM ⊢
  go_enter Tryz.func234, Tryz.ntmps234
  go_wp2_with fail
  refine (HM.out _).mono ?_
  rintro e w1 ⟨rfl, hb1⟩
  have hat1 : HdAt h w.heap.size w1 := HBOX.out.of_cells fun o => hb1.cell (p := ⟨w.heap.size, o, none⟩) (by simp)
  have hs1 := hb1.size
  simp at hs1
  have c6 := hat1.2.2.2.2.2.2.1
  have c7 := hat1.2.2.2.2.2.2.2.1
  have HB1 := Lib.hid (bel_trans (bel_alloc _ _) hb1); have HAT1 := Lib.hid hat1
  clear hb1 hat1
  have hsz := sizeN_le h.type h.x
  have HSZ := Lib.hid (fun w => size_any h.type h.x w)
  generalize sizeN h.type h.x = n at *
  obtain ⟨i0, hi, hz0, hz1, hz2⟩ := info_parts infoU8
  obtain ⟨w2, hmk, hown2, hgr2⟩ := run_make_own (P := Tryz.prog) w1 0 90 5 i0 (.int .u8 0) 1 Tryz.underlying90 hi hz0 hz1 .i64 .i64 n (by rw [hz2]; omega) (by unfold maxLen; omega) (Nat.zero_le _)
  have hat2 : HdAt h w.heap.size w2 := HAT1.out.of_cells fun o => hgr2.cell_far ⟨w.heap.size, o, none⟩ (by simp; omega) (by simp)
  have hst2 : St w2 w1.heap.size [] w1.heap.size n w2 := ⟨hown2, World.grownBy.refl _ _, .inl rfl⟩
  have hB : w.heap.size < w2.heap.size := by have := hgr2.size; omega
  have HBW := Lib.hid (HB1.out.trans (Below.refl w.heap.size w1 |>.grown hgr2 (Nat.le_trans (Nat.le_succ _) hs1) (fun k hk => by cases hk)))
  have HAT2 := Lib.hid hat2
  have d0 := hat2.1
  rw [ES.out] at d0
  clear hown2 hgr2 hat2 hi hz0 hz1 hz2
  have HST2 := Lib.hid hst2; clear hst2
  go_wp2_with (first
    | (go_at_call 211; refine (HSZ.out _).mono ?_; rintro e w' ⟨rfl, rfl⟩))
  refine (put_st 2 s HST2.out (by omega) (by omega) (by simp)).mono ?_
  rintro e w3 ⟨g3, cap3, rfl, st3⟩
  have hat3 := HAT2.out.st st3 hB (by omega)
  have d1 := hat3.2.1
  rw [ED.out] at d1
  have HST3 := Lib.hid st3; have HAT3 := Lib.hid hat3; clear st3 hat3
  go_wp2_with fail
  refine (put_st 2 d HST3.out (by omega) (by omega) (by simp [beBytes_length])).mono ?_
  rintro e w4 ⟨g4, cap4, rfl, st4⟩
  have hat4 := HAT2.out.st st4 hB (by omega)
  have d2 := hat4.2.2.1
  rw [EO.out] at d2
  have HST4 := Lib.hid st4; have HAT4 := Lib.hid hat4; clear st4 hat4
  go_wp2_with fail
  refine (put_st 1 o HST4.out (by omega) (by omega) (by simp [beBytes_length])).mono ?_
  rintro e w5 ⟨g5, cap5, rfl, st5⟩
  have hat5 := HAT2.out.st st5 hB (by omega)
  have d3 := hat5.2.2.2.1
  have d4 := hat5.2.2.2.2.1
  rw [EC.out] at d3
  rw [EK.out] at d4
  have HST5 := Lib.hid st5; have HAT5 := Lib.hid hat5; clear st5 hat5
  go_wp2_with fail
  refine (put_st 1 (c * 16 + k) HST5.out (by omega) (by omega) (by simp [beBytes_length])).mono ?_
  rintro e w6 ⟨g6, cap6, rfl, st6⟩
  have hat6 := HAT2.out.st st6 hB (by omega)
  have d5 := hat6.2.2.2.2.2.1
  rw [EU.out] at d5
  have HST6 := Lib.hid st6; have HAT6 := Lib.hid hat6; clear st6 hat6
  go_wp2_with fail
  refine (put_st 2 u HST6.out (by omega) (by omega) (by simp [beBytes_length])).mono ?_
  rintro e w7 ⟨g7, cap7, rfl, st7⟩
  have hat7 := HAT2.out.st st7 hB (by omega)
  have d6 := hat7.2.2.2.2.2.2.1
  have d7 := hat7.2.2.2.2.2.2.2.1
  rw [ET.out] at d6
  have HST7 := Lib.hid st7; have HAT7 := Lib.hid hat7; clear st7 hat7
  go_wp2_with (first
    | (go_at_call 262; refine (typeByteN_any t h.x bt _).mono ?_; rintro e w' ⟨rfl, rfl⟩))
  generalize typeN t h.x = tn at *
  refine (put_st 1 tn HST7.out (by omega) (by omega) (by simp [beBytes_length])).mono ?_
  rintro e w8 ⟨g8, cap8, rfl, st8⟩
  have hat8 := HAT2.out.st st8 hB (by omega)
  have HST8 := Lib.hid st8; have HAT8 := Lib.hid hat8; clear st8 hat8
  have hl8 : ([] ++ beBytes 2 s ++ beBytes 2 d ++ beBytes 1 o ++ beBytes 1 (c * 16 + k) ++ beBytes 2 u ++ beBytes 1 tn).length ≤ 100 := by simp [beBytes_length]
  generalize hL8 : [] ++ beBytes 2 s ++ beBytes 2 d ++ beBytes 1 o ++ beBytes 1 (c * 16 + k) ++ beBytes 2 u ++ beBytes 1 tn = L8 at *
  have HL8 := Lib.hid hL8; clear hL8 HOR
  obtain ⟨d0, d1, d2, d3, d4, d5, d6, d7, d8, d9, d10, d11, d12, d13, d14⟩ := HAT8.out
  have HPN := Lib.hid (fun w (hr : rowAt w g8 cap8 L8) => putNumbers_any h g8 cap8 L8 w hr h1 h2 (by omega))
  rw [HV.out] at HPN
  go_wp2_with fail
  refine (HPN.out _ HST8.out.row).mono ?_
  rintro e w9 ⟨g9, cap9, rfl, hr9, hb9, ho9⟩
  have st9 := HST8.out.next hr9 hb9 ho9
  have hat9 := HAT2.out.st st9 hB (by omega)
  have HST9 := Lib.hid st9
  clear hr9 hb9 ho9 st9 d0 d1 d2 d3 d4 d5 d6 d7 d8 d9 d10 d11 d12 d13 d14
  obtain ⟨d0, d1, d2, d3, d4, d5, d6, d7, d8, d9, d10, d11, d12, d13, d14⟩ := hat9
  have hl9 : (L8 ++ (h.seqBytes ++ h.ackBytes)).length ≤ 200 := by
    have := seqBytes_le h
    have : h.ackBytes.length ≤ 8 := by
      unfold Hd.ackBytes; split
      · rw [beBytes_length]; exact (pads_le h.x).2
      · simp
    simp; omega
  generalize hL9 : L8 ++ (h.seqBytes ++ h.ackBytes) = L9 at *
  have HL9 := Lib.hid hL9; clear hL9
  have HPE := Lib.hid (fun w (hr : rowAt w g9 cap9 L9) => putExtras_any h g9 cap9 L9 w hr h3 h4 h5 h6 M8.out (by omega))
  rw [HV.out] at HPE
  go_wp2_with fail
  refine (HPE.out _ HST9.out.row).mono ?_
  rintro e w10 ⟨g10, cap10, rfl, hr10, hb10, ho10⟩
  have st10 := HST9.out.next hr10 hb10 ho10
  have hconv := convert_row st10.row
  have HST10 := Lib.hid st10
  clear hr10 hb10 ho10 st10 d0 d1 d2 d3 d4 d5 d6 d7 d8 d9 d10 d11 d12 d13 d14
  generalize hL10 : L9 ++ h.extraBytes = L10 at *
  have HL10 := Lib.hid hL10; clear hL10
  go_wp2
  go_ret
  refine ⟨ret_str (by rw [HBY.out, ← HL10.out, ← HL9.out, ← HL8.out]; simp), ?_⟩
  have hg := HST10.out.grown
  exact HBW.out.trans ((Below.refl w.heap.size w2).grown hg (by omega) (fun k hk => by cases hk; omega))
end Go.Proofs.YtnhlachoimlhhaaGreatDoor

namespace Go.Proofs.YtnhlachoimlhhaaGreatDoor
open Go.ChangeShapes Go.WideShapes Go.ChangeAt Go.RowKit
set_option linter.unusedVariables false

/-- Bytes as a number, the highest first. -/
def beNum (l : List UInt8) : Nat := l.foldl (fun n b => n * 256 + b.toNat) 0
theorem beNum_snoc (l : List UInt8) (b : UInt8) : beNum (l ++ [b]) = beNum l * 256 + b.toNat := by simp [beNum]
theorem foldl_lt (l : List UInt8) : ∀ n m, n < m → l.foldl (fun n b => n * 256 + b.toNat) n < m * 256 ^ l.length := by
  induction l with
  | nil => intro n m h; simpa using h
  | cons b l ih =>
    intro n m h
    have hb : b.toNat < 256 := b.toNat_lt
    have := ih (n * 256 + b.toNat) (m * 256) (by omega)
    rw [List.length_cons, Nat.pow_succ, Nat.mul_comm (256 ^ l.length), ← Nat.mul_assoc]
    exact this
theorem beNum_lt (l : List UInt8) : beNum l < 256 ^ l.length := by
  have := foldl_lt l 0 1 (by decide)
  rwa [Nat.one_mul] at this
theorem beNum_lt8 {l : List UInt8} (k : Nat) (h : l.length ≤ k) : beNum l < 256 ^ k := Nat.lt_of_lt_of_le (beNum_lt l) (Nat.pow_le_pow_right (by decide) h)

theorem or_byte (n : Nat) (b : UInt8) (h : n < 72057594037927936) : bits .or .u64 ((n : Int) * 256) (b.toNat : Int) = ((n * 256 + b.toNat : Nat) : Int) := by
  have hb : b.toNat < 256 := b.toNat_lt
  rw [show ((n : Int) * 256) = ((n * 256 : Nat) : Int) by simp, bits_or_u64_nat _ _ (by omega) (by omega), nat_join 8 _ _ (by omega) (by omega)]

theorem str_drop (l : List UInt8) (k : Nat) : (str l).extract k (str l).size = str (l.drop k) := by
  apply ByteArray.ext
  apply Array.toList_inj.1
  rw [Lib.extract_data]
  show List.take ((str l).size - k) (List.drop k l) = List.drop k l
  exact List.take_of_length_le (by rw [List.length_drop]; exact Nat.le_refl _)

set_option maxRecDepth 100000 in
theorem take_any (R : Nat) (l : List UInt8) (k : Nat) (w : World) (hk : k ≤ l.length) (hk8 : k ≤ 8) (hl : l.length ≤ 9223372036854775807) (hc : w.cell? ⟨R, 0, none⟩ = some (.string (str l))) (hf : w.frozen? ⟨R, 0, none⟩ = false) :
    Calls Tryz.prog 295 #[.pointer (some ⟨R, 0, none⟩), .int .i64 k] w fun e w' => e = .returned (.int .u64 (beNum (l.take k))) ∧ w' = w.setCell ⟨R, 0, none⟩ (.string (str (l.drop k))) := by
  have hsd := str_drop l k
  have hss : (str l).size = l.length := rfl
  have hgi : ∀ i, i < k → i < (str l).size := fun i hi => by rw [hss]; omega
  obtain ⟨s, hs⟩ : ∃ s, str l = s := ⟨_, rfl⟩
  have hbt : ∀ i (h : i < s.size), (l.take (i + 1)) = l.take i ++ [s[i]] := by
    subst hs
    intro i h
    exact M.bytes_take (str l) i h
  rw [hs] at hc hsd hss hgi
  have hsl : s.size ≤ 9223372036854775807 := by omega
  have hks : k ≤ s.size := by omega
  have HSD := Lib.hid hsd; have HSS := Lib.hid hss; have HGI := Lib.hid hgi; have HBT := Lib.hid hbt
  clear hs hsd hss hgi hbt
  go_enter Tryz.func295, Tryz.ntmps295
  go_wp2
  go_loop [5, 8] (fun u i => ∃ j : Nat, j ≤ k ∧ u = .int .u64 (beNum (l.take j)) ∧ i = .int .i64 j) (fun _ i => k - (intOf i).toNat)
  case atStart => exact ⟨0, Nat.zero_le _, rfl, rfl⟩
  case round =>
    obtain ⟨j, hj, rfl, rfl⟩ := hrel
    by_cases hjk : j < k
    · have hjs := HGI.out j hjk
      have hb := beNum_snoc (l.take j) s[j]
      have hb2 : (s[j]).toNat < 256 := (s[j]).toNat_lt
      rw [← HBT.out j hjs] at hb
      have hlt := beNum_lt8 (l := l.take j) 7 (by rw [List.length_take]; omega)
      have hor := or_byte (beNum (l.take j)) s[j] (by omega)
      generalize beNum (l.take j) = n at *
      have HB := Lib.hid hb; clear hb
      go_wp2
      go_round
      case rel => exact ⟨j + 1, by omega, by rw [HB.out]; simp, by go_num⟩
      case measure => simp [intOf]; omega
    · obtain rfl : j = k := by omega
      generalize hbn : beNum (l.take j) = n at *
      have HBN := Lib.hid hbn; clear hbn
      go_wp2
      go_ret
      exact ⟨M.ret_int (by rw [HBN.out]), by rw [← HSD.out]⟩

/-- The reader's bytes, at block R. -/
def RdAt (l : List UInt8) (R : Nat) (w : World) : Prop := w.heap[R]? = some (.cells #[.string (str l)] 300)
theorem RdAt.cell {l : List UInt8} {R : Nat} {w : World} (h : RdAt l R w) : w.cell? ⟨R, 0, none⟩ = some (.string (str l)) := by
  rw [cell_of_row w R 0 _ _ _ h]; rfl
theorem RdAt.free {l : List UInt8} {R : Nat} {w : World} (h : RdAt l R w) : w.frozen? ⟨R, 0, none⟩ = false := frozen_of_row w R 0 _ _ h
theorem RdAt.lt {l : List UInt8} {R : Nat} {w : World} (h : RdAt l R w) : R < w.heap.size := by
  rcases Nat.lt_or_ge R w.heap.size with hlt | hge
  · exact hlt
  · unfold RdAt at h; rw [Array.getElem?_eq_none hge] at h; cases h
theorem RdAt.set {l : List UInt8} {R : Nat} {w : World} (h : RdAt l R w) (l2 : List UInt8) : RdAt l2 R (w.setCell ⟨R, 0, none⟩ (.string (str l2))) := by
  unfold RdAt; rw [heap_setCell_same w R 0 _ _ _ h]; rfl
theorem RdAt.other {l : List UInt8} {R : Nat} {w w' : World} {row : Option Nat} (h : RdAt l R w) (hg : w.grownBy w' row) (hne : some R ≠ row) : RdAt l R w' := by
  unfold RdAt; rw [hg.block R h.lt hne]; exact h

theorem RdAt.alloc {l : List UInt8} {R : Nat} {w : World} (h : RdAt l R w) (o : Obj) : RdAt l R (w.alloc o) := h.other (World.grownBy_alloc w o none) (by simp)
theorem RdAt.drew {l : List UInt8} {R : Nat} {w : World} (h : RdAt l R w) : RdAt l R w.drew := h

theorem grown_set (w : World) (R i : Nat) (v : Value) : w.grownBy (w.setCell ⟨R, i, none⟩ v) (some R) :=
  ⟨rfl, rfl, rfl, by simp [World.setCell], fun k _ hk => heap_setCell_other w ⟨R, i, none⟩ k v (fun e => hk (by rw [e]))⟩

theorem take_rd (R : Nat) (l : List UInt8) (k : Nat) (w : World) (hk : k ≤ l.length) (hk8 : k ≤ 8) (hl : l.length ≤ 9223372036854775807) (hr : RdAt l R w) :
    Calls Tryz.prog 295 #[.pointer (some ⟨R, 0, none⟩), .int .i64 k] w fun e w' => e = .returned (.int .u64 (beNum (l.take k))) ∧ RdAt (l.drop k) R w' ∧ w.grownBy w' (some R) :=
  (take_any R l k w hk hk8 hl hr.cell hr.free).mono fun e w' ⟨he, hw⟩ => by subst hw; exact ⟨he, hr.set _, grown_set _ _ _ _⟩

theorem takeInt_rd (R : Nat) (l : List UInt8) (k : Nat) (w : World) (hk : k ≤ l.length) (hk7 : k ≤ 7) (hl : l.length ≤ 9223372036854775807) (hr : RdAt l R w) :
    Calls Tryz.prog 267 #[.pointer (some ⟨R, 0, none⟩), .int .i64 k] w fun e w' => e = .returned (.int .i64 (beNum (l.take k))) ∧ RdAt (l.drop k) R w' ∧ w.grownBy w' (some R) := by
  have HT := Lib.hid (fun w hr => take_rd R l k w hk (by omega) hl hr)
  have hlt := beNum_lt8 (l := l.take k) 7 (by rw [List.length_take]; omega)
  generalize hbn : beNum (l.take k) = n at *
  have HBN := Lib.hid hbn; clear hbn
  have HR := Lib.hid hr; clear hr
  go_enter Tryz.func267, Tryz.ntmps267
  go_wp2_with fail
  refine (HT.out _ HR.out).mono ?_
  rintro e w' ⟨rfl, hr1, hg1⟩
  have HR1 := Lib.hid hr1; have HG1 := Lib.hid hg1; clear hr1 hg1
  go_wp2
  go_ret
  exact ⟨rfl, HR1.out, HG1.out⟩

theorem takeFrom_rd (R : Nat) (l : List UInt8) (p k : Nat) (w : World) (hk : p + k ≤ l.length) (hk8 : k ≤ 8) (hp8 : p ≤ 8) (hl : l.length ≤ 9223372036854775807) (hr : RdAt l R w) :
    Calls Tryz.prog 296 #[.pointer (some ⟨R, 0, none⟩), .agg #[.int .i64 p, .int .i64 k]] w fun e w' => e = .returned (.int .u64 (beNum ((l.drop p).take k))) ∧ RdAt (l.drop (p + k)) R w' ∧ w.grownBy w' (some R) := by
  have hsd := str_drop l p
  have hss : (str l).size = l.length := rfl
  have hc := hr.cell
  have hf := hr.free
  have hlt := hr.lt
  obtain ⟨s, hs⟩ : ∃ s, str l = s := ⟨_, rfl⟩
  rw [hs] at hc hsd hss
  have hsl : s.size ≤ 9223372036854775807 := by omega
  have hps : p ≤ s.size := by omega
  have HSD := Lib.hid hsd; have HR := Lib.hid hr
  clear hs hsd hss hr
  go_enter Tryz.func296, Tryz.ntmps296
  go_wp2_with fail
  go_region
  have HT := Lib.hid (fun w hr => take_rd R (l.drop p) k w (by rw [List.length_drop]; omega) hk8 (by rw [List.length_drop]; omega) hr)
  go_wp2_with fail
  have hr1 := ((HR.out.set (l.drop p)).alloc (.cells #[.int .i64 (p : Int), .int .i64 (k : Int)] 328)).drew
  rw [← HSD.out] at hr1
  refine (HT.out _ hr1).mono ?_
  rintro e w1 ⟨rfl, hr2, hg2⟩
  have HR2 := Lib.hid hr2; have HG2 := Lib.hid hg2; clear hr1 hr2 hg2
  go_wp2
  go_ret
  refine ⟨rfl, ?_, ?_⟩
  · have := HR2.out
    rwa [List.drop_drop] at this
  · exact ((grown_set w R 0 _).trans (grown_drew (World.grownBy_alloc _ _ _))).trans HG2.out
end Go.Proofs.YtnhlachoimlhhaaGreatDoor
