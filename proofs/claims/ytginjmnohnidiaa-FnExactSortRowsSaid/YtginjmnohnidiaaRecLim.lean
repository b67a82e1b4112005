/-
  The program's IsRow: a record is valid if its number is, it has three values, and limiting them changes none.
-/
import Derived.Test.YtginjmnohnidiaaRec
import Derived.Lib.MinMax
namespace Go.Proofs.Ytginjmnohnidiaa
open Go.RowKit
set_option linter.unusedVariables false
set_option linter.unusedSimpArgs false
/-- A value moved into the range. -/
def limI (x : Int) : Int := min (max x 0) 99
theorem idx0 (a b c : Int) (w : World) : Sem.run Try.prog (Instr.index 155 (.agg #[.int .i64 a, .int .i64 b, .int .i64 c]) (.int .i64 0)) w = .ok (.int .i64 a) w := by
  have u := Try.underlying155
  have z := Try.sizeOf3
  have g := Try.isAgg3
  unfold Instr.index
  go_simp
theorem idx1 (a b c : Int) (w : World) : Sem.run Try.prog (Instr.index 155 (.agg #[.int .i64 a, .int .i64 b, .int .i64 c]) (.int .i64 1)) w = .ok (.int .i64 b) w := by
  have u := Try.underlying155
  have z := Try.sizeOf3
  have g := Try.isAgg3
  unfold Instr.index
  go_simp
theorem idx2 (a b c : Int) (w : World) : Sem.run Try.prog (Instr.index 155 (.agg #[.int .i64 a, .int .i64 b, .int .i64 c]) (.int .i64 2)) w = .ok (.int .i64 c) w := by
  have u := Try.underlying155
  have z := Try.sizeOf3
  have g := Try.isAgg3
  unfold Instr.index
  go_simp
set_option maxHeartbeats 4000000 in
set_option maxRecDepth 100000 in
theorem limited_any (a b c : Int) (w : World) :
    Calls Try.prog 147 #[.agg #[.int .i64 a, .int .i64 b, .int .i64 c]] w fun e w' => e = .returned (.agg #[.int .i64 (limI a), .int .i64 (limI b), .int .i64 (limI c)]) ∧ Below w.heap.size w w' := by
  have i0 := idx0 a b c
  have i1 := idx1 a b c
  have i2 := idx2 a b c
  go_enter Try.func147, Try.ntmps147
  go_wp2
  refine wp_loop_rounds 4 ?_
  rw [rounds_succ]
  go_wp2
  rw [rounds_succ]
  go_wp2
  rw [rounds_succ]
  go_wp2
  rw [rounds_succ]
  go_wp2
  refine bodyPost_ret (v := .agg #[.int .i64 (limI a), .int .i64 (limI b), .int .i64 (limI c)]) ?_ rfl ?_
  · simp [results, Try.f147, go_sem, limI]
  refine ⟨rfl, ?_⟩
  exact ((Below.refl _ w).alloc (Nat.le_refl _) _).alloc (by simp) _
end Go.Proofs.Ytginjmnohnidiaa
