/-
  The model's comparison of two arrays of values, and of two records.
-/
import Derived.Test.YtginjmnohnidiaaRecLim
import Derived.Laws.StructEq
namespace Go.Proofs.Ytginjmnohnidiaa
open Go.RowKit
set_option linter.unusedVariables false
set_option linter.unusedSimpArgs false
theorem eqIn_arr (d : Nat) (a b c x y z : Int) (w : World) : (Op.equalIn (d + 2) 155 (.agg #[.int .i64 a, .int .i64 b, .int .i64 c]) (.agg #[.int .i64 x, .int .i64 y, .int .i64 z])).run Try.prog w = .ok (a == x && b == y && c == z) w := by
  have u := Try.underlying155
  have u3 := Try.underlying3
  have z3 := Try.sizeOf3
  have g := Try.isAgg3
  rw [Op.equalIn]
  simp only [Sem.run_bind, run_underlying u, Result.andThen_ok, z3]
  simp only [Std.Legacy.Range.forIn_eq_forIn_range', Std.Legacy.Range.size]
  simp [List.range', g, z3, go_sem, run_equalIn_int (P := Try.prog) _ d _ _ _ _ _ u3]
  by_cases h1 : a = x <;> by_cases h2 : b = y <;> by_cases h3 : c = z <;> simp [h1, h2, h3]
theorem eql_arr (a b c x y z : Int) (w : World) : Sem.run Try.prog (binOp .eql 155 (.agg #[.int .i64 a, .int .i64 b, .int .i64 c]) (.agg #[.int .i64 x, .int .i64 y, .int .i64 z])) w = .ok (.bool (a == x && b == y && c == z)) w := by
  rw [run_eql_struct, show (10000 : Nat) = 9998 + 2 from rfl, eqIn_arr]
  rfl
theorem guard_arr (o1 o2 : Operand) (xs ys : Array Value) (w : World) : Sem.run Try.prog (eqGuard .eql 155 o1 o2 (.agg xs) (.agg ys)) w = .ok () w := run_eqGuard_agg w _ _ _ _ _ _ (by kernel_rfl)
theorem guard_rec (o1 o2 : Operand) (xs ys : Array Value) (w : World) : Sem.run Try.prog (eqGuard .eql 157 o1 o2 (.agg xs) (.agg ys)) w = .ok () w := run_eqGuard_agg w _ _ _ _ _ _ (by kernel_rfl)
set_option maxHeartbeats 2000000 in
theorem eql_rec (i n a b c j m x y z : Int) (w : World) : Sem.run Try.prog (binOp .eql 157 (.agg #[.int .i64 i, .int .i64 n, .int .i64 a, .int .i64 b, .int .i64 c]) (.agg #[.int .i64 j, .int .i64 m, .int .i64 x, .int .i64 y, .int .i64 z])) w = .ok (.bool (i == j && n == m && (a == x && b == y && c == z))) w := by
  have hS : Try.prog.underlying 157 = some (.struct (Try.prog.fieldsOf 157)) := by kernel_rfl
  have hp : Try.prog.stoodInHeld 157 = false := by kernel_rfl
  have u := Try.underlying3
  have z3 := Try.sizeOf3
  have g := Try.isAgg3
  have ga := Try.isAgg155
  have za := Try.sizeOf155
  rw [run_eql_struct, show (10000 : Nat) = 9999 + 1 from rfl, run_equalIn_agg w 9999 157 _ _ hS hp]
  simp only [Program.fieldsOf, Try.underlying157]
  have hh := fun w => eqIn_arr 9997 a b c x y z w
  simp only [show 9997 + 2 = 9999 from rfl] at hh
  go_simp
  by_cases h1 : i = j <;> by_cases h2 : n = m <;> by_cases h3 : a = x <;> by_cases h4 : b = y <;> by_cases h5 : c = z <;> simp [h1, h2, h3, h4, h5]
end Go.Proofs.Ytginjmnohnidiaa
