/-
  Two arrays of three bytes, one held against the other.
-/
import Derived.Test.YtnhlachoimlhhaaGreatDoorChecked
import Derived.WalkKit
import Derived.ProofKit
namespace Go.Proofs.YtnhlachoimlhhaaGreatDoor
open Go.ChangeShapes Go.WideShapes Go.ChangeAt Go.RowKit
theorem size_u8 (w : World) : (sizeOf 5).run Tryz.prog w = .ok 1 w := by kernel_rfl
theorem part3 (a b c : Value) (w : World) : (part 5 #[a, b, c] 0).run Tryz.prog w = .ok a w ∧ (part 5 #[a, b, c] 1).run Tryz.prog w = .ok b w ∧ (part 5 #[a, b, c] 2).run Tryz.prog w = .ok c w :=
  ⟨by kernel_rfl, by kernel_rfl, by kernel_rfl⟩
theorem equalIn3 (d : Nat) (a b c x y z : Int) (w : World) : (Op.equalIn (d + 1 + 1) 64 (.agg #[.int .u8 a, .int .u8 b, .int .u8 c]) (.agg #[.int .u8 x, .int .u8 y, .int .u8 z])).run Tryz.prog w = .ok (a == x && (b == y && c == z)) w := by
  rw [Op.equalIn]
  simp only [Sem.run_bind, run_underlying Tryz.underlying64, Result.andThen_ok, size_u8]
  have p1 := fun (a b c : Int) w => (part3 (.int .u8 a) (.int .u8 b) (.int .u8 c) w).1
  have p2 := fun (a b c : Int) w => (part3 (.int .u8 a) (.int .u8 b) (.int .u8 c) w).2.1
  have p3 := fun (a b c : Int) w => (part3 (.int .u8 a) (.int .u8 b) (.int .u8 c) w).2.2
  have r := fun (m n : Int) (w : World) => run_equalIn_int (P := Tryz.prog) w d 5 .u8 .u8 m n Tryz.underlying5
  by_cases h1 : a = x <;> by_cases h2 : b = y <;> by_cases h3 : c = z <;>
  simp [p1, p2, p3, r, h1, h2, h3, Sem.run_bind, List.range', List.forIn_cons, Sem.run_pure, Result.andThen]
theorem eql3 (a b c x y z : Int) (w : World) : (binOp .eql 64 (.agg #[.int .u8 a, .int .u8 b, .int .u8 c]) (.agg #[.int .u8 x, .int .u8 y, .int .u8 z])).run Tryz.prog w = .ok (.bool (a == x && (b == y && c == z))) w := by
  rw [run_eql_struct, show (10000 : Nat) = 9998 + 1 + 1 from rfl, equalIn3]; rfl
end Go.Proofs.YtnhlachoimlhhaaGreatDoor
