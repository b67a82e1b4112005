/-
 Texts of the proof, merged: IdxSpec5, IdxFit.
-/
import Derived.Test.YtededfficggkaaaDoorI15
import Derived.Test.YtededfficggkaaaDoorI16
namespace Go.Proofs.YtededfficggkaaaDoor
open Go.RowKit
set_option linter.unusedVariables false
set_option linter.unusedSimpArgs false
theorem fitProbeSet (x0 : List QD) (x1 : List (List SpanD)) (rid : Int) (vs os : List Int) : ∀ (v0 v1 v2 v3 : Value) (w : World), SlR tQuery w v0 x0 → SlR tSpanS w v1 x1 → SlR tInt w v2 vs → SlR tInt w v3 os → zL tQuery x0 + zL tSpanS x1 + zL tInt vs ≤ 1048576 → os.length ≤ 1048576 →
  Calls Tryd.prog 36 #[.agg #[v0, v1], .agg #[.int .i64 rid, v2], v3] w (fun e w' => ∃ (g0 : Value) (G0 : Nat → Prop), e = .returned (.tuple #[g0, .int .i64 (probeB x0 x1 (rid, vs) os).2]) ∧ SlO 3 tInt w' G0 g0 (probeB x0 x1 (rid, vs) os).1 ∧ (∀ b, G0 b → w.heap.size ≤ b) ∧ Below w.heap.size w w') := by
 intro v0 v1 v2 v3 w h1 h2 h3 h4 hz ho
 rw [zL_ints] at hz
 refine (specProbeSet v0 v1 v2 v3 x0 x1 rid vs os w h1 h2 (slR_ints h3) (slR_ints h4) (by omega) (by omega) (by omega) ho).mono ?_
 rintro e w' ⟨u, he, ho, hb⟩
 exact ⟨u, since w, he, fresh_ints ho, fun b hb => hb, hb⟩
theorem fitBestOrder (x0 : List QD) (x1 : List (List SpanD)) (rs : List RowD) : ∀ (v0 v1 v2 : Value) (w : World), SlR tQuery w v0 x0 → SlR tSpanS w v1 x1 → SlR tRow w v2 rs → zL tQuery x0 + zL tSpanS x1 + zL tRow rs ≤ 1048576 →
  Calls Tryd.prog 45 #[.agg #[v0, v1], v2] w (fun e w' => ∃ (g0 : Value) (G0 : Nat → Prop), e = .returned g0 ∧ SlO 3 tInt w' G0 g0 (bestL x0 x1 rs) ∧ (∀ b, G0 b → w.heap.size ≤ b) ∧ Below w.heap.size w w') := by
 intro v0 v1 v2 w h1 h2 h3 hz
 refine (specBestOrder v0 v1 v2 x0 x1 rs w h1 h2 h3 (by omega) (by omega) (by omega)).mono ?_
 rintro e w' ⟨u, he, ho, hb⟩
 exact ⟨u, since w, he, ho, fun b hb => hb, hb⟩
theorem fitWorkOf (x0 : List QD) (x1 : List (List SpanD)) (rs : List RowD) (os : List Int) : ∀ (v0 v1 v2 v3 : Value) (w : World), SlR tQuery w v0 x0 → SlR tSpanS w v1 x1 → SlR tRow w v2 rs → SlR tInt w v3 os → zL tQuery x0 + zL tSpanS x1 + zL tRow rs ≤ 1048576 → os.length ≤ 1048576 →
  Calls Tryd.prog 48 #[.agg #[v0, v1], v2, v3] w (fun e w' => e = .returned (.int .i64 (workL x0 x1 rs os)) ∧ Below w.heap.size w w') :=
 fun v0 v1 v2 v3 w h1 h2 h3 h4 hz ho => specWorkOf v0 v1 v2 v3 x0 x1 rs os w h1 h2 h3 (slR_ints h4) (by omega) (by omega) (by omega) ho
end Go.Proofs.YtededfficggkaaaDoor
