/-
  What the opening check asks of codes and of numbers as bytes, at its own inputs.
-/
import Derived.Test.YtdlpapchjjbplaaGreatDoorPktC
import Derived.Test.YtdlpapchjjbplaaGreatDoorPktE
import Derived.Test.YtdlpapchjjbplaaGreatDoorShelf
namespace Go.Proofs.YtdlpapchjjbplaaGreatDoor
open Go.ChangeShapes Go.WideShapes Go.ChangeAt Go.RowKit
set_option linter.unusedVariables false

/-- A new block of bytes as a text. -/
theorem conv_new (l : List UInt8) (cs : Array Value) (hcs : cs.toList = l.map byteV) (T : TypeId) (w : World) :
    (convert 34 9 (.slice (some ⟨w.heap.size, 0, none⟩) l.length l.length)).run Tryz.prog (w.alloc (.cells cs T)) = .ok (.string (str l)) (w.alloc (.cells cs T)) := by
  refine run_convert_bytes_back _ 34 9 5 ⟨w.heap.size, 0, none⟩ l.length l Tryz.underlying34 Tryz.underlying5 Tryz.underlying9 (fun j hj => ?_)
  rw [Addr.add_mid, cell_of_row _ _ _ _ _ _ (heap_alloc_new w _), Nat.zero_add, ← Array.getElem?_toList, hcs]
  simp [hj, byteV]

theorem isLetter_low (r : Int) (h0 : 97 ≤ r) (h1 : r ≤ 122) (w : World) :
    Calls Tryz.prog 107 #[.int .i32 r] w fun e w' => e = .returned (.bool true) ∧ w = w' := by
  go_enter Tryz.func107, Tryz.ntmps107
  go_wp2
  go_ret
  exact ⟨rfl, rfl⟩

theorem isSign_low (r : Int) (h0 : 97 ≤ r) (h1 : r ≤ 122) (w : World) :
    Calls Tryz.prog 95 #[.int .i32 r] w fun e w' => e = .returned (.bool true) ∧ w = w' := by
  go_enter Tryz.func95, Tryz.ntmps95
  go_wp2_with (go_at_call 107; refine (isLetter_low r h0 h1 _).mono ?_; rintro e w1 ⟨rfl, rfl⟩)
  go_ret
  exact ⟨rfl, rfl⟩

set_option maxHeartbeats 1600000 in
set_option maxRecDepth 100000 in
theorem ofSigns_ab (w : World) :
    Calls Tryz.prog 78 #[.string ⟨#[97, 98]⟩] w fun e w' => e = .returned (.tuple #[.int .u32 1633820704, .bool true]) ∧ Below w.heap.size w w' := by
  have hn0 : ∀ ty, (Instr.next (.pointer (some ⟨w.heap.size, 0, none⟩)) true ty).run Tryz.prog (w.iter ⟨#[97, 98]⟩ 0) = .ok (.tuple #[.bool true, .int .i64 0, .int .i32 97]) (w.iter ⟨#[97, 98]⟩ 1) := fun ty => run_next_ascii (P := Tryz.prog) w ⟨#[97, 98]⟩ 0 ty (by decide) (by decide)
  have hn1 : ∀ ty, (Instr.next (.pointer (some ⟨w.heap.size, 0, none⟩)) true ty).run Tryz.prog (w.iter ⟨#[97, 98]⟩ 1) = .ok (.tuple #[.bool true, .int .i64 1, .int .i32 98]) (w.iter ⟨#[97, 98]⟩ 2) := fun ty => run_next_ascii (P := Tryz.prog) w ⟨#[97, 98]⟩ 1 ty (by decide) (by decide)
  have hn2 : ∀ ty, (Instr.next (.pointer (some ⟨w.heap.size, 0, none⟩)) true ty).run Tryz.prog (w.iter ⟨#[97, 98]⟩ 2) = .ok (.tuple #[.bool false]) (w.iter ⟨#[97, 98]⟩ 2) := fun ty => run_next_end (P := Tryz.prog) w ⟨#[97, 98]⟩ 2 ty (by decide)
  have hb0 : bits .or .u32 0 97 = 97 := by decide +kernel
  have hb1 : bits .or .u32 24832 98 = 24930 := by decide +kernel
  have hb2 : bits .or .u32 6382080 32 = 6382112 := by decide +kernel
  have hb3 : bits .or .u32 1633820672 32 = 1633820704 := by decide +kernel
  go_enter Tryz.func78, Tryz.ntmps78
  go_wp2
  refine wp_loop_rounds 3 ?_
  rw [rounds_succ]
  go_wp2_with (go_at_call 95; refine (isSign_low _ (by omega) (by omega) _).mono ?_; rintro e w1 ⟨rfl, rfl⟩)
  rw [rounds_succ]
  go_wp2_with (go_at_call 95; refine (isSign_low _ (by omega) (by omega) _).mono ?_; rintro e w1 ⟨rfl, rfl⟩)
  rw [rounds_succ]
  go_wp2
  refine wp_loop_rounds 3 ?_
  rw [rounds_succ]
  go_wp2
  rw [rounds_succ]
  go_wp2
  rw [rounds_succ]
  go_wp2
  go_ret2
  exact ⟨rfl, bel_alloc _ _⟩

set_option maxHeartbeats 1600000 in
set_option maxRecDepth 100000 in
theorem bytesOf_ab (w : World) :
    Calls Tryz.prog 86 #[.int .u32 1633820704] w fun e w' => e = .returned (.string ⟨#[97, 98, 32, 32]⟩) ∧ Below w.heap.size w w' := by
  have hcv := fun T => conv_new [97, 98, 32, 32] #[.int .u8 97, .int .u8 98, .int .u8 32, .int .u8 32] rfl T w
  simp only [List.length_cons, List.length_nil, Nat.zero_add] at hcv
  go_enter Tryz.func86, Tryz.ntmps86
  go_wp2
  refine wp_loop_rounds 5 ?_
  rw [rounds_succ]
  go_wp2
  rw [rounds_succ]
  go_wp2
  rw [rounds_succ]
  go_wp2
  rw [rounds_succ]
  go_wp2
  rw [rounds_succ]
  go_wp2
  go_ret
  exact ⟨rfl, bel_alloc _ _⟩

set_option maxHeartbeats 1600000 in
set_option maxRecDepth 100000 in
theorem optBytes_258 (w : World) :
    Calls Tryz.prog 43 #[.int .u64 258, .int .i64 2] w fun e w' => e = .returned (.string ⟨#[1, 2]⟩) ∧ Below w.heap.size w w' := by
  have hcv := fun T => conv_new [1, 2] #[.int .u8 1, .int .u8 2] rfl T w
  simp only [List.length_cons, List.length_nil, Nat.zero_add] at hcv
  go_enter Tryz.func43, Tryz.ntmps43
  have hmk : ∀ w : World, (Instr.makeSlice 34 (.int .i64 2) (.int .i64 2)).run Tryz.prog w = .ok (.slice (some ⟨w.heap.size, 0, none⟩) 2 2) (w.alloc (.cells #[.int .u8 0, .int .u8 0] 5)) := fun _ => by kernel_rfl
  go_wp2
  refine wp_loop_rounds 3 ?_
  rw [rounds_succ]
  go_wp2
  rw [rounds_succ]
  go_wp2
  rw [rounds_succ]
  go_wp2
  go_ret
  exact ⟨rfl, bel_alloc _ _⟩

theorem trim_ab : (⟨(Lib.trimRightB [97, 98, 32, 32] 32).toArray⟩ : ByteArray) = ⟨#[97, 98]⟩ := by decide +kernel
theorem cut_ab : (⟨(Lib.trimPrefix [83, 67, 58, 97, 98] [83, 67, 58]).toArray⟩ : ByteArray) = ⟨#[97, 98]⟩ ∧ Lib.hasPrefix [83, 67, 58, 97, 98] [83, 67, 58] = true := by decide +kernel

theorem service_ab (w : World) :
    Calls Tryz.prog 46 #[.string ⟨#[83, 67, 58, 97, 98]⟩] w fun e w' => e = .returned (.tuple #[.int .u32 1633820704, .bool true]) ∧ Below w.heap.size w w' := by
  have HC : Hid (∀ w, Calls Tryz.prog 77 #[.string ⟨#[83, 67, 58, 97, 98]⟩, .string ⟨#[83, 67, 58]⟩] w fun e w' => e = .returned (.tuple #[.string ⟨#[97, 98]⟩, .bool true]) ∧ w' = w) := Lib.hid (fun w => by
    have h := Tryz.strings_CutPrefix ⟨#[83, 67, 58, 97, 98]⟩ ⟨#[83, 67, 58]⟩ w
    have e1 := cut_ab.1
    have e2 := cut_ab.2
    dsimp only at h
    rw [e1, e2] at h
    exact h)
  have HO := Lib.hid ofSigns_ab
  go_enter Tryz.func46, Tryz.ntmps46
  go_wp2_with (first
    | (go_at_call 77; refine (HC.out _).mono ?_; rintro e w1 ⟨rfl, rfl⟩)
    | (go_at_call 78; refine (HO.out _).mono ?_; rintro e w1 ⟨rfl, hb1⟩))
  go_ret2
  exact ⟨rfl, hb1⟩

theorem text_ab (w : World) :
    Calls Tryz.prog 51 #[.int .u32 1633820704] w fun e w' => e = .returned (.string ⟨#[83, 67, 58, 97, 98]⟩) ∧ Below w.heap.size w w' := by
  have HT : Hid (∀ w, Calls Tryz.prog 85 #[.string ⟨#[97, 98, 32, 32]⟩, .string ⟨#[32]⟩] w fun e w' => e = .returned (.string ⟨#[97, 98]⟩) ∧ w' = w) := Lib.hid (fun w => by
    have h := Tryz.strings_TrimRight_one ⟨#[97, 98, 32, 32]⟩ 32 (by decide) w (by decide)
    have e1 := trim_ab
    dsimp only at h
    rw [e1] at h
    exact h)
  have HO := Lib.hid ofSigns_ab
  have HB := Lib.hid bytesOf_ab
  go_enter Tryz.func51, Tryz.ntmps51
  go_wp2_with (first
    | (go_at_call 86; refine (HB.out _).mono ?_; rintro e w1 ⟨rfl, hb1⟩)
    | (go_at_call 85; refine (HT.out _).mono ?_; rintro e w2 ⟨rfl, rfl⟩)
    | (go_at_call 78; refine (HO.out _).mono ?_; rintro e w3 ⟨rfl, hb3⟩))
  go_ret
  exact ⟨ret_str (by decide +kernel), bel_trans hb1 hb3⟩
end Go.Proofs.YtdlpapchjjbplaaGreatDoor
