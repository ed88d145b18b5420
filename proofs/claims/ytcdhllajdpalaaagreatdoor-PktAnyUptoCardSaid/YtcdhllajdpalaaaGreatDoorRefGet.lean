/-
  The document's own reading of a head.
-/
import Derived.Test.YtcdhllajdpalaaaGreatDoorLawHead2
import Derived.Test.YtcdhllajdpalaaaGreatDoorRefOpM
import Derived.Test.YtcdhllajdpalaaaGreatDoorHeadMath
import Derived.Test.YtcdhllajdpalaaaGreatDoorLawHead
import Derived.Deep.DeepCutAuto
import Derived.StillTailTactics
namespace Go.Proofs.YtcdhllajdpalaaaGreatDoor
open Go.ChangeShapes Go.WideShapes Go.ChangeAt Go.RowKit
set_option linter.unusedVariables false

/-- The end with no head: the first cell's is the zero one. -/
def GetNo (w : World) (f : Nat) (e : Ending) (w' : World) : Prop := e = .returned (.tuple #[Hd.zero.val, .int .i64 f]) ∧ Below w.heap.size w w'
set_option maxHeartbeats 1000000 in
set_option maxRecDepth 100000 in
theorem refGet_short (l : List UInt8) (hl : l.length < 12) (w : World) :
    Calls Tryz.prog 14 #[.string (str l)] w (GetNo w 1) := by
  obtain ⟨s, hs⟩ : ∃ s, str l = s := ⟨_, rfl⟩
  obtain ⟨Z, hZ⟩ : ∃ Z : Int, (s.size : Int) = Z := ⟨_, rfl⟩
  have hz : Z < 12 := by rw [← hZ, ← hs, str_size]; omega
  rw [hs]
  clear hs
  go_enter Tryz.func14, Tryz.ntmps14
  go_wp2_with (refine store_blk rfl _ _ rfl _ Hd.zero Hd.zero rfl rfl (hd_new _) ?_; intro W2 hc2 hg2)
  refine bodyPost_ret (results_pair Tryz.results14 _ _ w.heap.size Hd.zero.cellsA rfl (load_hd hc2)) rfl ⟨rfl, ?_⟩
  exact (bel_alloc w _).grown hg2 (bel_alloc w _).size (fun k hk => by cases hk; exact Nat.le_refl _)

/-- The first twelve bytes, read. -/
structure Twelve (l : List UInt8) (s : ByteArray) : Prop where
  s0 : ∃ b, (∀ W, (Instr.slice 9 (.string s) (some (.int .i64 0)) (some (.int .i64 2)) none).run Tryz.prog W = .ok (.string b) W) ∧ ∀ w, Calls Tryz.prog 44 #[.string b] w fun e w' => e = .returned (.int .u64 (beNum (l.take 2))) ∧ w' = w
  s2 : ∃ b, (∀ W, (Instr.slice 9 (.string s) (some (.int .i64 2)) (some (.int .i64 4)) none).run Tryz.prog W = .ok (.string b) W) ∧ ∀ w, Calls Tryz.prog 44 #[.string b] w fun e w' => e = .returned (.int .u64 (beNum ((l.drop 2).take 2))) ∧ w' = w
  s6 : ∃ b, (∀ W, (Instr.slice 9 (.string s) (some (.int .i64 6)) (some (.int .i64 8)) none).run Tryz.prog W = .ok (.string b) W) ∧ ∀ w, Calls Tryz.prog 44 #[.string b] w fun e w' => e = .returned (.int .u64 (beNum ((l.drop 6).take 2))) ∧ w' = w
  i4 : ∀ W, (Instr.index 9 (.string s) (.int .i64 4)).run Tryz.prog W = .ok (.int .u8 (byteAt l 4)) W
  i5 : ∀ W, (Instr.index 9 (.string s) (.int .i64 5)).run Tryz.prog W = .ok (.int .u8 (byteAt l 5)) W
  i8 : ∀ W, (Instr.index 9 (.string s) (.int .i64 8)).run Tryz.prog W = .ok (.int .u8 (byteAt l 8)) W
theorem twelve (l : List UInt8) (h : 12 ≤ l.length) : Twelve l (str l) := by
  have hn : ∀ a b : Nat, a ≤ b → b ≤ 12 → b ≤ a + 8 → ∀ w, Calls Tryz.prog 44 #[.string (str ((l.take b).drop a))] w fun e w' => e = .returned (.int .u64 (beNum ((l.drop a).take (b - a)))) ∧ w' = w := fun a b h1 h2 h3 w => by
    rw [List.drop_take]
    exact refNumber_q _ (by rw [List.length_take]; omega) _ rfl w
  refine ⟨⟨_, fun W => slice2h l 0 2 (by omega) (by omega) W, ?_⟩, ⟨_, fun W => slice2h l 2 4 (by omega) (by omega) W, hn 2 4 (by omega) (by omega) (by omega)⟩, ⟨_, fun W => slice2h l 6 8 (by omega) (by omega) W, hn 6 8 (by omega) (by omega) (by omega)⟩, ?_, ?_, ?_⟩
  · exact hn 0 2 (by omega) (by omega) (by omega)
  · exact index_lit l 4 (by omega) _ rfl _ _ rfl rfl
  · exact index_lit l 5 (by omega) _ rfl _ _ rfl rfl
  · exact index_lit l 8 (by omega) _ rfl _ _ rfl rfl

end Go.Proofs.YtcdhllajdpalaaaGreatDoor
