/-
  What the opening check asks of codes and of numbers as bytes, at its own inputs.
  The opening check's packet, at its own values: closed facts, and contracts.
  The opening check of the laws answers true.
-/
import Derived.Test.YtnhlachoimlhhaaGreatDoorPkW
import Derived.Test.YtnhlachoimlhhaaGreatDoorShelf
import Derived.Test.YtnhlachoimlhhaaGreatDoorFixM
import Derived.Test.YtnhlachoimlhhaaGreatDoorSeqA
namespace Go.Proofs.YtnhlachoimlhhaaGreatDoor
open Go.ChangeShapes Go.WideShapes Go.ChangeAt Go.RowKit
set_option linter.unusedVariables false

/-- A new block of bytes as a text. -/
theorem conv_new (l : List UInt8) (cs : Array Value) (hcs : cs.toList = l.map byteV) (T : TypeId) (w : World) :
    (convert 90 9 (.slice (some ⟨w.heap.size, 0, none⟩) l.length l.length)).run Tryz.prog (w.alloc (.cells cs T)) = .ok (.string (str l)) (w.alloc (.cells cs T)) := by
  refine run_convert_bytes_back _ 90 9 5 ⟨w.heap.size, 0, none⟩ l.length l Tryz.underlying90 Tryz.underlying5 Tryz.underlying9 (fun j hj => ?_)
  rw [Addr.add_mid, cell_of_row _ _ _ _ _ _ (heap_alloc_new w _), Nat.zero_add, ← Array.getElem?_toList, hcs]
  simp [hj, byteV]

theorem isLetter_low (r : Int) (h0 : 97 ≤ r) (h1 : r ≤ 122) (w : World) :
    Calls Tryz.prog 298 #[.int .i32 r] w fun e w' => e = .returned (.bool true) ∧ w = w' := by
  go_enter Tryz.func298, Tryz.ntmps298
  go_wp2
  go_ret
  exact ⟨rfl, rfl⟩

theorem isSign_low (r : Int) (h0 : 97 ≤ r) (h1 : r ≤ 122) (w : World) :
    Calls Tryz.prog 274 #[.int .i32 r] w fun e w' => e = .returned (.bool true) ∧ w = w' := by
  go_enter Tryz.func274, Tryz.ntmps274
  go_wp2_with (go_at_call 298; refine (isLetter_low r h0 h1 _).mono ?_; rintro e w1 ⟨rfl, rfl⟩)
  go_ret
  exact ⟨rfl, rfl⟩

set_option maxHeartbeats 1600000 in
set_option maxRecDepth 100000 in
theorem ofSigns_ab (w : World) :
    Calls Tryz.prog 239 #[.string ⟨#[97, 98]⟩] w fun e w' => e = .returned (.tuple #[.int .u32 1633820704, .bool true]) ∧ Below w.heap.size w w' := by
  have hn0 : ∀ ty, (Instr.next (.pointer (some ⟨w.heap.size, 0, none⟩)) true ty).run Tryz.prog (w.iter ⟨#[97, 98]⟩ 0) = .ok (.tuple #[.bool true, .int .i64 0, .int .i32 97]) (w.iter ⟨#[97, 98]⟩ 1) := fun ty => run_next_ascii (P := Tryz.prog) w ⟨#[97, 98]⟩ 0 ty (by decide) (by decide)
  have hn1 : ∀ ty, (Instr.next (.pointer (some ⟨w.heap.size, 0, none⟩)) true ty).run Tryz.prog (w.iter ⟨#[97, 98]⟩ 1) = .ok (.tuple #[.bool true, .int .i64 1, .int .i32 98]) (w.iter ⟨#[97, 98]⟩ 2) := fun ty => run_next_ascii (P := Tryz.prog) w ⟨#[97, 98]⟩ 1 ty (by decide) (by decide)
  have hn2 : ∀ ty, (Instr.next (.pointer (some ⟨w.heap.size, 0, none⟩)) true ty).run Tryz.prog (w.iter ⟨#[97, 98]⟩ 2) = .ok (.tuple #[.bool false]) (w.iter ⟨#[97, 98]⟩ 2) := fun ty => run_next_end (P := Tryz.prog) w ⟨#[97, 98]⟩ 2 ty (by decide)
  have hb0 : bits .or .u32 0 97 = 97 := by decide +kernel
  have hb1 : bits .or .u32 24832 98 = 24930 := by decide +kernel
  have hb2 : bits .or .u32 6382080 32 = 6382112 := by decide +kernel
  have hb3 : bits .or .u32 1633820672 32 = 1633820704 := by decide +kernel
  go_enter Tryz.func239, Tryz.ntmps239
  go_wp2
  refine wp_loop_rounds 3 ?_
  rw [rounds_succ]
  go_wp2_with (go_at_call 274; refine (isSign_low _ (by omega) (by omega) _).mono ?_; rintro e w1 ⟨rfl, rfl⟩)
  rw [rounds_succ]
  go_wp2_with (go_at_call 274; refine (isSign_low _ (by omega) (by omega) _).mono ?_; rintro e w1 ⟨rfl, rfl⟩)
  rw [rounds_succ]
  go_wp2
  refine wp_loop_rounds 3 ?_
  rw [rounds_succ]
  go_wp2
  rw [rounds_succ]
  go_wp2
  rw [rounds_succ]
  go_wp2
  go_ret2
  exact ⟨rfl, bel_alloc _ _⟩

set_option maxHeartbeats 1600000 in
set_option maxRecDepth 100000 in
theorem bytesOf_ab (w : World) :
    Calls Tryz.prog 248 #[.int .u32 1633820704] w fun e w' => e = .returned (.string ⟨#[97, 98, 32, 32]⟩) ∧ Below w.heap.size w w' := by
  have hcv := fun T => conv_new [97, 98, 32, 32] #[.int .u8 97, .int .u8 98, .int .u8 32, .int .u8 32] rfl T w
  simp only [List.length_cons, List.length_nil, Nat.zero_add] at hcv
  go_enter Tryz.func248, Tryz.ntmps248
  go_wp2
  refine wp_loop_rounds 5 ?_
  rw [rounds_succ]
  go_wp2
  rw [rounds_succ]
  go_wp2
  rw [rounds_succ]
  go_wp2
  rw [rounds_succ]
  go_wp2
  rw [rounds_succ]
  go_wp2
  go_ret
  exact ⟨rfl, bel_alloc _ _⟩

set_option maxHeartbeats 1600000 in
set_option maxRecDepth 100000 in
theorem optBytes_258 (w : World) :
    Calls Tryz.prog 89 #[.int .u64 258, .int .i64 2] w fun e w' => e = .returned (.string ⟨#[1, 2]⟩) ∧ Below w.heap.size w w' := by
  have hcv := fun T => conv_new [1, 2] #[.int .u8 1, .int .u8 2] rfl T w
  simp only [List.length_cons, List.length_nil, Nat.zero_add] at hcv
  go_enter Tryz.func89, Tryz.ntmps89
  have hmk : ∀ w : World, (Instr.makeSlice 90 (.int .i64 2) (.int .i64 2)).run Tryz.prog w = .ok (.slice (some ⟨w.heap.size, 0, none⟩) 2 2) (w.alloc (.cells #[.int .u8 0, .int .u8 0] 5)) := fun _ => by kernel_rfl
  go_wp2
  refine wp_loop_rounds 3 ?_
  rw [rounds_succ]
  go_wp2
  rw [rounds_succ]
  go_wp2
  rw [rounds_succ]
  go_wp2
  go_ret
  exact ⟨rfl, bel_alloc _ _⟩

theorem trim_ab : (⟨(Lib.trimRightB [97, 98, 32, 32] 32).toArray⟩ : ByteArray) = ⟨#[97, 98]⟩ := by decide +kernel
theorem cut_ab : (⟨(Lib.trimPrefix [83, 67, 58, 97, 98] [83, 67, 58]).toArray⟩ : ByteArray) = ⟨#[97, 98]⟩ ∧ Lib.hasPrefix [83, 67, 58, 97, 98] [83, 67, 58] = true := by decide +kernel

theorem service_ab (w : World) :
    Calls Tryz.prog 208 #[.string ⟨#[83, 67, 58, 97, 98]⟩] w fun e w' => e = .returned (.tuple #[.int .u32 1633820704, .bool true]) ∧ Below w.heap.size w w' := by
  have HC : Hid (∀ w, Calls Tryz.prog 238 #[.string ⟨#[83, 67, 58, 97, 98]⟩, .string ⟨#[83, 67, 58]⟩] w fun e w' => e = .returned (.tuple #[.string ⟨#[97, 98]⟩, .bool true]) ∧ w' = w) := Lib.hid (fun w => by
    have h := Tryz.strings_CutPrefix ⟨#[83, 67, 58, 97, 98]⟩ ⟨#[83, 67, 58]⟩ w
    have e1 := cut_ab.1
    have e2 := cut_ab.2
    dsimp only at h
    rw [e1, e2] at h
    exact h)
  have HO := Lib.hid ofSigns_ab
  go_enter Tryz.func208, Tryz.ntmps208
  go_wp2_with (first
    | (go_at_call 238; refine (HC.out _).mono ?_; rintro e w1 ⟨rfl, rfl⟩)
    | (go_at_call 239; refine (HO.out _).mono ?_; rintro e w1 ⟨rfl, hb1⟩))
  go_ret2
  exact ⟨rfl, hb1⟩

theorem text_ab (w : World) :
    Calls Tryz.prog 212 #[.int .u32 1633820704] w fun e w' => e = .returned (.string ⟨#[83, 67, 58, 97, 98]⟩) ∧ Below w.heap.size w w' := by
  have HT : Hid (∀ w, Calls Tryz.prog 247 #[.string ⟨#[97, 98, 32, 32]⟩, .string ⟨#[32]⟩] w fun e w' => e = .returned (.string ⟨#[97, 98]⟩) ∧ w' = w) := Lib.hid (fun w => by
    have h := Tryz.strings_TrimRight_one ⟨#[97, 98, 32, 32]⟩ 32 (by decide) w (by decide)
    have e1 := trim_ab
    dsimp only at h
    rw [e1] at h
    exact h)
  have HO := Lib.hid ofSigns_ab
  have HB := Lib.hid bytesOf_ab
  go_enter Tryz.func212, Tryz.ntmps212
  go_wp2_with (first
    | (go_at_call 248; refine (HB.out _).mono ?_; rintro e w1 ⟨rfl, hb1⟩)
    | (go_at_call 247; refine (HT.out _).mono ?_; rintro e w2 ⟨rfl, rfl⟩)
    | (go_at_call 239; refine (HO.out _).mono ?_; rintro e w3 ⟨rfl, hb3⟩))
  go_ret
  exact ⟨ret_str (by decide +kernel), bel_trans hb1 hb3⟩
end Go.Proofs.YtnhlachoimlhhaaGreatDoor

namespace Go.Proofs.YtnhlachoimlhhaaGreatDoor
open Go.ChangeShapes Go.WideShapes Go.ChangeAt Go.RowKit
set_option linter.unusedVariables false

def bgHd : Hd := ⟨1, 2, 0, 0, 0, 0, 4, true, 77, 5, 0, 0, 0, 0, 0⟩
def bgOs : List M.Opt := [⟨2, []⟩, ⟨40, [120, 121]⟩]
def bgD : List UInt8 := [104, 101, 108, 108, 111]
def bgB : List UInt8 := putText bgHd bgOs bgD
theorem bgHd_ok : bgHd.ok := ⟨by decide, by decide, by decide, by decide, by decide, by decide⟩
theorem bg_err : putErr bgHd bgOs bgD = 0 := by kernel_rfl
theorem bg_len : bgB.length = 37 := by kernel_rfl
theorem bg_get : getErr bgB = 0 := by kernel_rfl
theorem bg_os : getOs bgB = some bgOs := by kernel_rfl
theorem bg_off : (getHd bgB).off = 8 := by kernel_rfl
theorem bg_d : bgB.drop (getOff bgB) = bgD := by kernel_rfl

theorem pktGet_yes {l : List UInt8} {os : List M.Opt} (hl : l.length ≤ 1073741824) (h : getErr l = 0) (hos : getOs l = some os) (w : World) :
    Calls Tryz.prog 207 #[.string (str l)] w fun e w' => ∃ p cap, e = .returned (.tuple #[Pv (getHd l) (.slice p os.length cap) (str (l.drop (getOff l))), .int .i64 0]) ∧ OptsOwn w.heap.size (.slice p os.length cap) os w w' :=
  (pktGet_any l hl w).mono fun e w' hh => by
    obtain ⟨v, os', h1, h2, h3⟩ := hh.2.2 h
    obtain rfl : os = os' := Option.some.inj (hos.symm.trans h1)
    rcases h3.1.2 with ⟨rfl, h0⟩ | ⟨g, cap, cur, rfl, _⟩
    · refine ⟨none, 0, ?_, ?_⟩
      · rw [h0]; exact h2
      · rw [h0]; exact h3
    · exact ⟨_, cap, h2, h3⟩

theorem bg_muldiv (w : World) : Calls Tryz.prog 182 #[.int .u64 9223372036854775808, .int .u64 4, .int .u64 8] w fun e w' => e = .returned (.int .u64 4611686018427387904) ∧ Below w.heap.size w w' :=
  (fixMulDiv_any 9223372036854775808 4 8 (by decide) (by decide) (by decide) w).mono fun e w' hh => by
    obtain ⟨h1, n, rfl⟩ := hh
    exact ⟨by rw [h1, show M.mulDivT 9223372036854775808 4 8 = 4611686018427387904 by decide +kernel]; rfl, bel_drewN w n⟩
theorem bg_sqrt (w : World) : Calls Tryz.prog 209 #[.int .u64 99] w fun e w' => e = .returned (.int .u64 9) ∧ w = w' :=
  (fixSqrt_any 99 (by decide) w).mono fun e w' hh => ⟨by rw [hh.1, show M.isq 99 = 9 by decide +kernel]; rfl, hh.2⟩
theorem bg_diff (w : World) : Calls Tryz.prog 155 #[.int .u64 1, .int .u64 281474976710655] w fun e w' => e = .returned (.int .i64 2) ∧ w = w' :=
  (seqDiff_any 1 281474976710655 (by decide) (by decide) w).mono fun e w' hh => ⟨by rw [hh.1]; rfl, hh.2⟩
theorem bg_add (w : World) : Calls Tryz.prog 101 #[.int .u64 0, .int .i64 (-1)] w fun e w' => e = .returned (.int .u64 281474976710655) ∧ w = w' :=
  (seqAdd_any 0 (-1) (by decide) (by decide) (by decide) w).mono fun e w' hh => ⟨by rw [hh.1]; rfl, hh.2⟩
theorem bg_size (w : World) : Calls Tryz.prog 211 #[.int .i64 4, .bool true] w fun e w' => e = .returned (.int .i64 24) ∧ w = w' :=
  (size_any 4 true w).mono fun e w' hh => ⟨by rw [hh.1]; rfl, hh.2⟩
theorem bg_sum (w : World) : Calls Tryz.prog 210 #[.slice (some ⟨w.heap.size, 0, none⟩) 1 1] (w.alloc (.cells #[.string ⟨#[1, 2]⟩] 9)) fun e w' => e = .returned (.int .i64 65277) ∧ w.alloc (.cells #[.string ⟨#[1, 2]⟩] 9) = w' := by
  have hs := sumOf_at (w := w.alloc (.cells #[.string ⟨#[1, 2]⟩] 9)) (v := .slice (some ⟨w.heap.size, 0, none⟩) 1 1) (ss := [⟨#[1, 2]⟩]) ⟨.inr ⟨⟨w.heap.size, 0, none⟩, 1, rfl, fun i hi => by
      rw [Addr.add_mid, cell_of_row _ _ _ _ _ _ (heap_alloc_new w _)]
      have : i = 0 := by simp at hi; omega
      subst this; rfl⟩, by simp, by
      intro s hs
      simp at hs
      subst hs; decide, by decide +kernel⟩
  exact hs.mono fun e w' hh => ⟨by rw [hh.1, show M.sum16 (M.joined [⟨#[1, 2]⟩]) = 65277 by decide +kernel]; rfl, hh.2⟩

theorem pk_new_at (w : World) (H : Nat) (hH : w.heap.size = H) : PkBlk Hd.zero (.slice none 0 0) ⟨#[]⟩ H (w.alloc pk0) := by subst hH; exact pk_new w
theorem load_pk {ops : Array Oper} {rest : List Oper} {o : Oper} {a : Act} {w : World} {Q : Exit → Act → World → Prop} (hgd : o.guard = none) (x : Operand) (ho : o.op = .load 68 x)
    (C : Nat) (hx : a.eval x = .pointer (some ⟨C, 0, none⟩)) (h : Hd) (v : Value) (s : ByteArray) (hb : PkBlk h v s C w)
    (hh : wpList Tryz.prog ops Q rest (a.put o.dst (Pv h v s)) w) : wpList Tryz.prog ops Q (o :: rest) a w :=
  wpList_load_row hgd 68 x ho C hx 68 (pkCells h v s) (0, 0) _ hb Tryz.underlying68 rfl infoPk hh
end Go.Proofs.YtnhlachoimlhhaaGreatDoor

namespace Go.Proofs.YtnhlachoimlhhaaGreatDoor
open Go.ChangeShapes Go.WideShapes Go.ChangeAt Go.RowKit
set_option linter.unusedVariables false

set_option maxHeartbeats 1600000 in
set_option maxRecDepth 100000 in
theorem begun_any (w : World) : Calls Tryz.prog 185 #[] w fun e w' => e = .returned (.bool true) ∧ Below w.heap.size w w' := by
  go_enter Tryz.func185, Tryz.ntmps185
  go_upto_region 2 with (refine store_blk rfl _ _ rfl _ Hd.zero bgHd rfl rfl (hd_new _) ?_; intro W1 hc1 hg1)
  have hb1 : Below w.heap.size w W1 := (bel_alloc w _).grown hg1 (by simp) (fun k hk => by cases hk; exact Nat.le_refl _)
  go_upto_region 3 with (first
    | (refine load_blk rfl _ rfl _ rfl _ hc1 ?_)
    | (refine store_pk rfl _ _ rfl _ Hd.zero bgHd _ _ (str bgD) _ _ _ rfl rfl (pk_new_at _ _ (by simp)) ?_; intro W2 hp2 hg2))
  have hs4 : W2.heap[W1.heap.size]? = some (.cells #[.int .i64 2, .string ⟨#[]⟩, .int .i64 40, .string ⟨#[120, 121]⟩] 106) := by
    rw [hg2.block _ (by simp; omega) (by simp), Below.heap_alloc _ _ _ (by simp)]
    exact heap_alloc_new W1 _
  have hos : OptsAt W2 (.slice (some ⟨W1.heap.size, 0, none⟩) 2 2) bgOs := by
    refine ⟨.inr ⟨W1.heap.size, 0, 2, rfl, ?_, fun i hi => ?_⟩, by decide, by decide⟩
    · have := hg2.size; simp at this; omega
    · rw [cell_of_row _ _ _ _ _ _ hs4, cell_of_row _ _ _ _ _ _ hs4]
      have : i = 0 ∨ i = 1 := by simp [bgOs] at hi; omega
      rcases this with rfl | rfl <;> exact ⟨rfl, rfl⟩
  have hb2 : Below w.heap.size w W2 := ((hb1.alloc hb1.size _).alloc (by have := hb1.size; simp; omega) _).grown hg2 (by have := hb1.size; simp; omega) (fun k hk => by have h2 := hb1.size; have h3 := Option.some.inj hk; omega)
  have HPUT := Lib.hid (pktPut_any bgHd bgHd_ok _ bgOs bgD W2 hos (by decide))
  have HGET := Lib.hid (fun W => pktGet_yes (l := bgB) (os := bgOs) (by rw [bg_len]; decide) bg_get bg_os W)
  unfold PutPk at HPUT
  rw [bg_err, show putText bgHd bgOs bgD = bgB from rfl] at HPUT
  have hB : str bgB = str bgB := rfl
  have hBs : (str bgB).size = 37 := bg_len
  rw [bg_d] at HGET
  have hoff : (getHd bgB).off = 8 := bg_off
  obtain ⟨SB, hSB⟩ : ∃ SB, str bgB = SB := ⟨_, rfl⟩
  rw [hSB] at hBs HPUT HGET
  obtain ⟨G, hG⟩ : ∃ G, getHd bgB = G := ⟨_, rfl⟩
  rw [hG] at hoff HGET
  have HB2 := Lib.hid hb2; have HP2 := Lib.hid hp2
  clear hb1 hg1 hc1 hg2 hos hs4 hb2 hp2 hB hSB hG
  go_upto_region 4 with (first
    | (refine load_pk rfl _ rfl _ rfl _ _ _ HP2.out ?_)
    | (go_at_call 206; refine HPUT.out.mono ?_; rintro e W3 ⟨rfl, hb3⟩))
  have hb3' : Below w.heap.size w W3 := HB2.out.trans (hb3.mono HB2.out.size)
  have HB3 := Lib.hid hb3'
  clear hb3 hb3' HB2 HP2 HPUT
  rw [show bgOs.length = 2 from rfl] at HGET
  have HG2 := Lib.hid hoff
  clear hoff
  go_upto_region 5 with (first
    | (go_at_call 207; refine (HGET.out _).mono ?_; rintro e W4 ⟨p, cap, rfl, ho4⟩)
    | (refine store_pk rfl _ _ rfl _ Hd.zero G _ _ (str bgD) p 2 cap rfl rfl (pk_new_at _ _ rfl) ?_; intro W5 hp5 hg5))
  have hb4 : Below w.heap.size w W4 := HB3.out.trans (ho4.2.1.mono HB3.out.size)
  have hb5 : Below w.heap.size w W5 := (hb4.alloc hb4.size _).grown hg5 (by have := hb4.size; simp; omega) (fun k hk => by have h2 := hb4.size; have h3 := Option.some.inj hk; omega)
  have HP5 := Lib.hid hp5; have HB5 := Lib.hid hb5
  clear hb4 hb5 hg5 hp5 ho4 HB3 HGET
  generalize W4.heap.size = C at *
  go_upto_region 6 with (go_at_call 208; refine (service_ab _).mono ?_; rintro e W6 ⟨rfl, hb6⟩)
  have hp6 := HP5.out.below hb6
  have hb6' : Below w.heap.size w W6 := HB5.out.trans (hb6.mono HB5.out.size)
  have HP6 := Lib.hid hp6; have HB6 := Lib.hid hb6'
  clear hb6 hb6' hp6 HP5 HB5
  have HST : Hid (str bgD = ⟨#[104, 101, 108, 108, 111]⟩) := Lib.hid rfl
  rw [HST.out] at HP6
  go_wp2_with (first
    | (go_at_call 182; refine (bg_muldiv _).mono ?_; rintro e W7 ⟨rfl, hb7⟩; have hp8 := (HP6.out.below hb7).below (bel_alloc W7 (.cells #[.string ⟨#[1, 2]⟩] 9)); have HB7 := Lib.hid (HB6.out.trans (hb7.mono HB6.out.size)); have c15 := hp8.cells.1; have c16 := hp8.cells.2; have c2 := hp8.range 2 (.int .i64 G.off) rfl; rw [HG2.out, Nat.zero_add] at c2; clear hp8 hb7)
    | (go_at_call 209; refine (bg_sqrt _).mono ?_; rintro e w1 ⟨rfl, rfl⟩)
    | (go_at_call 155; refine (bg_diff _).mono ?_; rintro e w1 ⟨rfl, rfl⟩)
    | (go_at_call 101; refine (bg_add _).mono ?_; rintro e w1 ⟨rfl, rfl⟩)
    | (go_at_call 210; refine (bg_sum _).mono ?_; rintro e w1 ⟨rfl, rfl⟩)
    | (go_at_call 211; refine (bg_size _).mono ?_; rintro e w1 ⟨rfl, rfl⟩)
    | (go_at_call 212; refine (text_ab _).mono ?_; rintro e W8 ⟨rfl, hb8⟩)
    | (go_at_call 89; refine (optBytes_258 _).mono ?_; rintro e W9 ⟨rfl, hb9⟩))
  go_ret
  exact ⟨rfl, ((HB7.out.alloc HB7.out.size _).trans (hb8.mono (by have := HB7.out.size; simp; omega))).trans (hb9.mono (by have := HB7.out.size; have := hb8.size; simp at this; omega))⟩
end Go.Proofs.YtnhlachoimlhhaaGreatDoor
