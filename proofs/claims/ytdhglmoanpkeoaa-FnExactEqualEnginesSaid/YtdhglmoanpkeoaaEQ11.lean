/-
 Texts of the proof, merged: LawEqualEngines.
-/
import Derived.Test.YtdhglmoanpkeoaaEQ1
import Derived.Test.YtdhglmoanpkeoaaEQ2
import Derived.Test.YtdhglmoanpkeoaaEQ5
namespace Go.Proofs.Ytdhglmoanpkeoaa
open Go.RowKit
set_option linter.unusedVariables false
set_option linter.unusedSimpArgs false
set_option maxHeartbeats 32000000 in
set_option maxRecDepth 100000 in
theorem law_fnExactEqualEngines (a0_1 a0_2 a0_7 : Int) (v0_0 v0_3 v0_4 v0_5 v0_6 : Value) (x0_0 : List (List (Int × List Int × Int × Int))) (x0_3 : List Int) (x0_4 : List ((Int × Int × List (Int × Int × Int) × List Int) × Int × List Int × Int × Int × Int × List (Int × List Int))) (x0_5 : List ((Int × Int × List (Int × Int × Int) × List Int) × Int × Int × List (Int × List Int))) (x0_6 : List (Int × Int × List Int × List Int × List Int)) (a1_1 a1_2 a1_7 : Int) (v1_0 v1_3 v1_4 v1_5 v1_6 : Value) (x1_0 : List (List (Int × List Int × Int × Int))) (x1_3 : List Int) (x1_4 : List ((Int × Int × List (Int × Int × Int) × List Int) × Int × List Int × Int × Int × Int × List (Int × List Int))) (x1_5 : List ((Int × Int × List (Int × Int × Int) × List Int) × Int × Int × List (Int × List Int))) (x1_6 : List (Int × Int × List Int × List Int × List Int)) (r0 : Bool) (w : World) (h0_0 : SlR tVersionS w v0_0 x0_0) (h0_3 : SlR tInt w v0_3 x0_3) (h0_4 : SlR tActive w v0_4 x0_4) (h0_5 : SlR tFinished w v0_5 x0_5) (h0_6 : SlR tCharge w v0_6 x0_6) (h1_0 : SlR tVersionS w v1_0 x1_0) (h1_3 : SlR tInt w v1_3 x1_3) (h1_4 : SlR tActive w v1_4 x1_4) (h1_5 : SlR tFinished w v1_5 x1_5) (h1_6 : SlR tCharge w v1_6 x1_6) (o0_0 : tVersionSS.ok x0_0) (o0_3 : tIntS.ok x0_3) (o0_4 : tActiveS.ok x0_4) (o0_5 : tFinishedS.ok x0_5) (o0_6 : tChargeS.ok x0_6) (o1_0 : tVersionSS.ok x1_0) (o1_3 : tIntS.ok x1_3) (o1_4 : tActiveS.ok x1_4) (o1_5 : tFinishedS.ok x1_5) (o1_6 : tChargeS.ok x1_6) 
  (hspec : ∀ (v0_0 v0_3 v0_4 v0_5 v0_6 v1_0 v1_3 v1_4 v1_5 v1_6 : Value) (w : World), SlR tVersionS w v0_0 x0_0 → SlR tInt w v0_3 x0_3 → SlR tActive w v0_4 x0_4 → SlR tFinished w v0_5 x0_5 → SlR tCharge w v0_6 x0_6 → SlR tVersionS w v1_0 x1_0 → SlR tInt w v1_3 x1_3 → SlR tActive w v1_4 x1_4 → SlR tFinished w v1_5 x1_5 → SlR tCharge w v1_6 x1_6 → zL tVersionS x0_0 + zL tInt x0_3 + zL tActive x0_4 + zL tFinished x0_5 + zL tCharge x0_6 + zL tVersionS x1_0 + zL tInt x1_3 + zL tActive x1_4 + zL tFinished x1_5 + zL tCharge x1_6 ≤ 1048576 → Calls Try.prog 25 #[.agg #[v0_0, .int .i64 a0_1, .int .i64 a0_2, v0_3, v0_4, v0_5, v0_6, .int .i64 a0_7], .agg #[v1_0, .int .i64 a1_1, .int .i64 a1_2, v1_3, v1_4, v1_5, v1_6, .int .i64 a1_7]] w (fun e w' => e = .returned (.bool r0) ∧ Below w.heap.size w w'))
  (himpl : ∀ (v0_0 v0_3 v0_4 v0_5 v0_6 v1_0 v1_3 v1_4 v1_5 v1_6 : Value) (w : World), SlR tVersionS w v0_0 x0_0 → SlR tInt w v0_3 x0_3 → SlR tActive w v0_4 x0_4 → SlR tFinished w v0_5 x0_5 → SlR tCharge w v0_6 x0_6 → SlR tVersionS w v1_0 x1_0 → SlR tInt w v1_3 x1_3 → SlR tActive w v1_4 x1_4 → SlR tFinished w v1_5 x1_5 → SlR tCharge w v1_6 x1_6 → zL tVersionS x0_0 + zL tInt x0_3 + zL tActive x0_4 + zL tFinished x0_5 + zL tCharge x0_6 + zL tVersionS x1_0 + zL tInt x1_3 + zL tActive x1_4 + zL tFinished x1_5 + zL tCharge x1_6 ≤ 1048576 → Calls Try.prog 26 #[.agg #[v0_0, .int .i64 a0_1, .int .i64 a0_2, v0_3, v0_4, v0_5, v0_6, .int .i64 a0_7], .agg #[v1_0, .int .i64 a1_1, .int .i64 a1_2, v1_3, v1_4, v1_5, v1_6, .int .i64 a1_7]] w (fun e w' => e = .returned (.bool r0) ∧ Below w.heap.size w w')) :
  Calls Try.prog 6 #[.agg #[v0_0, .int .i64 a0_1, .int .i64 a0_2, v0_3, v0_4, v0_5, v0_6, .int .i64 a0_7], .agg #[v1_0, .int .i64 a1_1, .int .i64 a1_2, v1_3, v1_4, v1_5, v1_6, .int .i64 a1_7]] w fun e w' => e = .returned (.bool true) ∧ Below w.heap.size w w' := by
 obtain ⟨c0_0, k0_0, rfl⟩ := slR_len h0_0
 obtain ⟨c0_3, k0_3, rfl⟩ := slR_len h0_3
 obtain ⟨c0_4, k0_4, rfl⟩ := slR_len h0_4
 obtain ⟨c0_5, k0_5, rfl⟩ := slR_len h0_5
 obtain ⟨c0_6, k0_6, rfl⟩ := slR_len h0_6
 obtain ⟨c1_0, k1_0, rfl⟩ := slR_len h1_0
 obtain ⟨c1_3, k1_3, rfl⟩ := slR_len h1_3
 obtain ⟨c1_4, k1_4, rfl⟩ := slR_len h1_4
 obtain ⟨c1_5, k1_5, rfl⟩ := slR_len h1_5
 obtain ⟨c1_6, k1_6, rfl⟩ := slR_len h1_6
 have HB0 : Hid (Below w.heap.size w ((w.alloc (.cells #[.slice c0_0 x0_0.length k0_0, .int .i64 a0_1, .int .i64 a0_2, .slice c0_3 x0_3.length k0_3, .slice c0_4 x0_4.length k0_4, .slice c0_5 x0_5.length k0_5, .slice c0_6 x0_6.length k0_6, .int .i64 a0_7] 52)).alloc (.cells #[.slice c1_0 x1_0.length k1_0, .int .i64 a1_1, .int .i64 a1_2, .slice c1_3 x1_3.length k1_3, .slice c1_4 x1_4.length k1_4, .slice c1_5 x1_5.length k1_5, .slice c1_6 x1_6.length k1_6, .int .i64 a1_7] 52))) := Lib.hid (((Below.refl _ w).alloc (Nat.le_refl _) _).alloc (by simp) _)
 have B0 : Hid (((w.alloc (.cells #[.slice c0_0 x0_0.length k0_0, .int .i64 a0_1, .int .i64 a0_2, .slice c0_3 x0_3.length k0_3, .slice c0_4 x0_4.length k0_4, .slice c0_5 x0_5.length k0_5, .slice c0_6 x0_6.length k0_6, .int .i64 a0_7] 52)).alloc (.cells #[.slice c1_0 x1_0.length k1_0, .int .i64 a1_1, .int .i64 a1_2, .slice c1_3 x1_3.length k1_3, .slice c1_4 x1_4.length k1_4, .slice c1_5 x1_5.length k1_5, .slice c1_6 x1_6.length k1_6, .int .i64 a1_7] 52)).heap[w.heap.size]? = some (.cells #[.slice c0_0 x0_0.length k0_0, .int .i64 a0_1, .int .i64 a0_2, .slice c0_3 x0_3.length k0_3, .slice c0_4 x0_4.length k0_4, .slice c0_5 x0_5.length k0_5, .slice c0_6 x0_6.length k0_6, .int .i64 a0_7] 52 (0, 0))) := Lib.hid (by rw [Below.heap_alloc _ _ _ (by simp <;> omega)]; have := heap_alloc_new w (.cells #[.slice c0_0 x0_0.length k0_0, .int .i64 a0_1, .int .i64 a0_2, .slice c0_3 x0_3.length k0_3, .slice c0_4 x0_4.length k0_4, .slice c0_5 x0_5.length k0_5, .slice c0_6 x0_6.length k0_6, .int .i64 a0_7] 52); simpa only [World.size_alloc] using this)
 have B1 : Hid (((w.alloc (.cells #[.slice c0_0 x0_0.length k0_0, .int .i64 a0_1, .int .i64 a0_2, .slice c0_3 x0_3.length k0_3, .slice c0_4 x0_4.length k0_4, .slice c0_5 x0_5.length k0_5, .slice c0_6 x0_6.length k0_6, .int .i64 a0_7] 52)).alloc (.cells #[.slice c1_0 x1_0.length k1_0, .int .i64 a1_1, .int .i64 a1_2, .slice c1_3 x1_3.length k1_3, .slice c1_4 x1_4.length k1_4, .slice c1_5 x1_5.length k1_5, .slice c1_6 x1_6.length k1_6, .int .i64 a1_7] 52)).heap[(w.heap.size + 1)]? = some (.cells #[.slice c1_0 x1_0.length k1_0, .int .i64 a1_1, .int .i64 a1_2, .slice c1_3 x1_3.length k1_3, .slice c1_4 x1_4.length k1_4, .slice c1_5 x1_5.length k1_5, .slice c1_6 x1_6.length k1_6, .int .i64 a1_7] 52 (0, 0))) := Lib.hid (by have := heap_alloc_new (w.alloc (.cells #[.slice c0_0 x0_0.length k0_0, .int .i64 a0_1, .int .i64 a0_2, .slice c0_3 x0_3.length k0_3, .slice c0_4 x0_4.length k0_4, .slice c0_5 x0_5.length k0_5, .slice c0_6 x0_6.length k0_6, .int .i64 a0_7] 52)) (.cells #[.slice c1_0 x1_0.length k1_0, .int .i64 a1_1, .int .i64 a1_2, .slice c1_3 x1_3.length k1_3, .slice c1_4 x1_4.length k1_4, .slice c1_5 x1_5.length k1_5, .slice c1_6 x1_6.length k1_6, .int .i64 a1_7] 52); simpa only [World.size_alloc] using this)
 have A0_0 : Hid (SlR tVersionS ((w.alloc (.cells #[.slice c0_0 x0_0.length k0_0, .int .i64 a0_1, .int .i64 a0_2, .slice c0_3 x0_3.length k0_3, .slice c0_4 x0_4.length k0_4, .slice c0_5 x0_5.length k0_5, .slice c0_6 x0_6.length k0_6, .int .i64 a0_7] 52)).alloc (.cells #[.slice c1_0 x1_0.length k1_0, .int .i64 a1_1, .int .i64 a1_2, .slice c1_3 x1_3.length k1_3, .slice c1_4 x1_4.length k1_4, .slice c1_5 x1_5.length k1_5, .slice c1_6 x1_6.length k1_6, .int .i64 a1_7] 52)) (.slice c0_0 x0_0.length k0_0) x0_0) := Lib.hid (slR_below tVersionS_law h0_0 HB0.out)
 have A0_3 : Hid (SlR tInt ((w.alloc (.cells #[.slice c0_0 x0_0.length k0_0, .int .i64 a0_1, .int .i64 a0_2, .slice c0_3 x0_3.length k0_3, .slice c0_4 x0_4.length k0_4, .slice c0_5 x0_5.length k0_5, .slice c0_6 x0_6.length k0_6, .int .i64 a0_7] 52)).alloc (.cells #[.slice c1_0 x1_0.length k1_0, .int .i64 a1_1, .int .i64 a1_2, .slice c1_3 x1_3.length k1_3, .slice c1_4 x1_4.length k1_4, .slice c1_5 x1_5.length k1_5, .slice c1_6 x1_6.length k1_6, .int .i64 a1_7] 52)) (.slice c0_3 x0_3.length k0_3) x0_3) := Lib.hid (slR_below tInt_law h0_3 HB0.out)
 have A0_4 : Hid (SlR tActive ((w.alloc (.cells #[.slice c0_0 x0_0.length k0_0, .int .i64 a0_1, .int .i64 a0_2, .slice c0_3 x0_3.length k0_3, .slice c0_4 x0_4.length k0_4, .slice c0_5 x0_5.length k0_5, .slice c0_6 x0_6.length k0_6, .int .i64 a0_7] 52)).alloc (.cells #[.slice c1_0 x1_0.length k1_0, .int .i64 a1_1, .int .i64 a1_2, .slice c1_3 x1_3.length k1_3, .slice c1_4 x1_4.length k1_4, .slice c1_5 x1_5.length k1_5, .slice c1_6 x1_6.length k1_6, .int .i64 a1_7] 52)) (.slice c0_4 x0_4.length k0_4) x0_4) := Lib.hid (slR_below tActive_law h0_4 HB0.out)
 have A0_5 : Hid (SlR tFinished ((w.alloc (.cells #[.slice c0_0 x0_0.length k0_0, .int .i64 a0_1, .int .i64 a0_2, .slice c0_3 x0_3.length k0_3, .slice c0_4 x0_4.length k0_4, .slice c0_5 x0_5.length k0_5, .slice c0_6 x0_6.length k0_6, .int .i64 a0_7] 52)).alloc (.cells #[.slice c1_0 x1_0.length k1_0, .int .i64 a1_1, .int .i64 a1_2, .slice c1_3 x1_3.length k1_3, .slice c1_4 x1_4.length k1_4, .slice c1_5 x1_5.length k1_5, .slice c1_6 x1_6.length k1_6, .int .i64 a1_7] 52)) (.slice c0_5 x0_5.length k0_5) x0_5) := Lib.hid (slR_below tFinished_law h0_5 HB0.out)
 have A0_6 : Hid (SlR tCharge ((w.alloc (.cells #[.slice c0_0 x0_0.length k0_0, .int .i64 a0_1, .int .i64 a0_2, .slice c0_3 x0_3.length k0_3, .slice c0_4 x0_4.length k0_4, .slice c0_5 x0_5.length k0_5, .slice c0_6 x0_6.length k0_6, .int .i64 a0_7] 52)).alloc (.cells #[.slice c1_0 x1_0.length k1_0, .int .i64 a1_1, .int .i64 a1_2, .slice c1_3 x1_3.length k1_3, .slice c1_4 x1_4.length k1_4, .slice c1_5 x1_5.length k1_5, .slice c1_6 x1_6.length k1_6, .int .i64 a1_7] 52)) (.slice c0_6 x0_6.length k0_6) x0_6) := Lib.hid (slR_below tCharge_law h0_6 HB0.out)
 have A1_0 : Hid (SlR tVersionS ((w.alloc (.cells #[.slice c0_0 x0_0.length k0_0, .int .i64 a0_1, .int .i64 a0_2, .slice c0_3 x0_3.length k0_3, .slice c0_4 x0_4.length k0_4, .slice c0_5 x0_5.length k0_5, .slice c0_6 x0_6.length k0_6, .int .i64 a0_7] 52)).alloc (.cells #[.slice c1_0 x1_0.length k1_0, .int .i64 a1_1, .int .i64 a1_2, .slice c1_3 x1_3.length k1_3, .slice c1_4 x1_4.length k1_4, .slice c1_5 x1_5.length k1_5, .slice c1_6 x1_6.length k1_6, .int .i64 a1_7] 52)) (.slice c1_0 x1_0.length k1_0) x1_0) := Lib.hid (slR_below tVersionS_law h1_0 HB0.out)
 have A1_3 : Hid (SlR tInt ((w.alloc (.cells #[.slice c0_0 x0_0.length k0_0, .int .i64 a0_1, .int .i64 a0_2, .slice c0_3 x0_3.length k0_3, .slice c0_4 x0_4.length k0_4, .slice c0_5 x0_5.length k0_5, .slice c0_6 x0_6.length k0_6, .int .i64 a0_7] 52)).alloc (.cells #[.slice c1_0 x1_0.length k1_0, .int .i64 a1_1, .int .i64 a1_2, .slice c1_3 x1_3.length k1_3, .slice c1_4 x1_4.length k1_4, .slice c1_5 x1_5.length k1_5, .slice c1_6 x1_6.length k1_6, .int .i64 a1_7] 52)) (.slice c1_3 x1_3.length k1_3) x1_3) := Lib.hid (slR_below tInt_law h1_3 HB0.out)
 have A1_4 : Hid (SlR tActive ((w.alloc (.cells #[.slice c0_0 x0_0.length k0_0, .int .i64 a0_1, .int .i64 a0_2, .slice c0_3 x0_3.length k0_3, .slice c0_4 x0_4.length k0_4, .slice c0_5 x0_5.length k0_5, .slice c0_6 x0_6.length k0_6, .int .i64 a0_7] 52)).alloc (.cells #[.slice c1_0 x1_0.length k1_0, .int .i64 a1_1, .int .i64 a1_2, .slice c1_3 x1_3.length k1_3, .slice c1_4 x1_4.length k1_4, .slice c1_5 x1_5.length k1_5, .slice c1_6 x1_6.length k1_6, .int .i64 a1_7] 52)) (.slice c1_4 x1_4.length k1_4) x1_4) := Lib.hid (slR_below tActive_law h1_4 HB0.out)
 have A1_5 : Hid (SlR tFinished ((w.alloc (.cells #[.slice c0_0 x0_0.length k0_0, .int .i64 a0_1, .int .i64 a0_2, .slice c0_3 x0_3.length k0_3, .slice c0_4 x0_4.length k0_4, .slice c0_5 x0_5.length k0_5, .slice c0_6 x0_6.length k0_6, .int .i64 a0_7] 52)).alloc (.cells #[.slice c1_0 x1_0.length k1_0, .int .i64 a1_1, .int .i64 a1_2, .slice c1_3 x1_3.length k1_3, .slice c1_4 x1_4.length k1_4, .slice c1_5 x1_5.length k1_5, .slice c1_6 x1_6.length k1_6, .int .i64 a1_7] 52)) (.slice c1_5 x1_5.length k1_5) x1_5) := Lib.hid (slR_below tFinished_law h1_5 HB0.out)
 have A1_6 : Hid (SlR tCharge ((w.alloc (.cells #[.slice c0_0 x0_0.length k0_0, .int .i64 a0_1, .int .i64 a0_2, .slice c0_3 x0_3.length k0_3, .slice c0_4 x0_4.length k0_4, .slice c0_5 x0_5.length k0_5, .slice c0_6 x0_6.length k0_6, .int .i64 a0_7] 52)).alloc (.cells #[.slice c1_0 x1_0.length k1_0, .int .i64 a1_1, .int .i64 a1_2, .slice c1_3 x1_3.length k1_3, .slice c1_4 x1_4.length k1_4, .slice c1_5 x1_5.length k1_5, .slice c1_6 x1_6.length k1_6, .int .i64 a1_7] 52)) (.slice c1_6 x1_6.length k1_6) x1_6) := Lib.hid (slR_below tCharge_law h1_6 HB0.out)
 have O0_0 := Lib.hid o0_0
 have O0_3 := Lib.hid o0_3
 have O0_4 := Lib.hid o0_4
 have O0_5 := Lib.hid o0_5
 have O0_6 := Lib.hid o0_6
 have O1_0 := Lib.hid o1_0
 have O1_3 := Lib.hid o1_3
 have O1_4 := Lib.hid o1_4
 have O1_5 := Lib.hid o1_5
 have O1_6 := Lib.hid o1_6
 clear h0_0 o0_0 h0_3 o0_3 h0_4 o0_4 h0_5 o0_5 h0_6 o0_6 h1_0 o1_0 h1_3 o1_3 h1_4 o1_4 h1_5 o1_5 h1_6 o1_6
 have HSP := Lib.hid hspec
 have HIM := Lib.hid himpl
 clear hspec himpl
 by_cases c0 : ((zL tVersionS x0_0 + zL tInt x0_3 + zL tActive x0_4 + zL tFinished x0_5 + zL tCharge x0_6 : Nat) : Int) ≤ (1048576 : Int)
 ·
  by_cases c1 : ((zL tVersionS x1_0 + zL tInt x1_3 + zL tActive x1_4 + zL tFinished x1_5 + zL tCharge x1_6 : Nat) : Int) ≤ (1048576 : Int) - ((zL tVersionS x0_0 + zL tInt x0_3 + zL tActive x0_4 + zL tFinished x0_5 + zL tCharge x0_6 : Nat) : Int)
  ·
   have HZ0 : Hid (((zL tVersionS x0_0 + zL tInt x0_3 + zL tActive x0_4 + zL tFinished x0_5 + zL tCharge x0_6 : Nat) : Int) ≤ (1048576 : Int)) := Lib.hid c0
   have HK0 : Hid ((1048576 : Int) ≤ 1048576) := Lib.hid (by omega)
   have hn0 : ¬ (1048576 : Int) - ((zL tVersionS x0_0 + zL tInt x0_3 + zL tActive x0_4 + zL tFinished x0_5 + zL tCharge x0_6 : Nat) : Int) < 0 := by omega
   have HZ1 : Hid (((zL tVersionS x1_0 + zL tInt x1_3 + zL tActive x1_4 + zL tFinished x1_5 + zL tCharge x1_6 : Nat) : Int) ≤ (1048576 : Int) - ((zL tVersionS x0_0 + zL tInt x0_3 + zL tActive x0_4 + zL tFinished x0_5 + zL tCharge x0_6 : Nat) : Int)) := Lib.hid c1
   have HK1 : Hid ((1048576 : Int) - ((zL tVersionS x0_0 + zL tInt x0_3 + zL tActive x0_4 + zL tFinished x0_5 + zL tCharge x0_6 : Nat) : Int) ≤ 1048576) := Lib.hid (by omega)
   have hn1 : ¬ (1048576 : Int) - ((zL tVersionS x0_0 + zL tInt x0_3 + zL tActive x0_4 + zL tFinished x0_5 + zL tCharge x0_6 : Nat) : Int) - ((zL tVersionS x1_0 + zL tInt x1_3 + zL tActive x1_4 + zL tFinished x1_5 + zL tCharge x1_6 : Nat) : Int) < 0 := by omega
   have HT : Hid (zL tVersionS x0_0 + zL tInt x0_3 + zL tActive x0_4 + zL tFinished x0_5 + zL tCharge x0_6 + zL tVersionS x1_0 + zL tInt x1_3 + zL tActive x1_4 + zL tFinished x1_5 + zL tCharge x1_6 ≤ 1048576) := Lib.hid (by omega)
   have S0_0 : Hid (zL tVersionS x0_0 ≤ 1048576) := Lib.hid (by omega)
   have S0_3 : Hid (zL tInt x0_3 ≤ 1048576) := Lib.hid (by omega)
   have S0_4 : Hid (zL tActive x0_4 ≤ 1048576) := Lib.hid (by omega)
   have S0_5 : Hid (zL tFinished x0_5 ≤ 1048576) := Lib.hid (by omega)
   have S0_6 : Hid (zL tCharge x0_6 ≤ 1048576) := Lib.hid (by omega)
   have S1_0 : Hid (zL tVersionS x1_0 ≤ 1048576) := Lib.hid (by omega)
   have S1_3 : Hid (zL tInt x1_3 ≤ 1048576) := Lib.hid (by omega)
   have S1_4 : Hid (zL tActive x1_4 ≤ 1048576) := Lib.hid (by omega)
   have S1_5 : Hid (zL tFinished x1_5 ≤ 1048576) := Lib.hid (by omega)
   have S1_6 : Hid (zL tCharge x1_6 ≤ 1048576) := Lib.hid (by omega)
   have N0_0 := ndL_le tVersionS_law (by decide) x0_0
   have N0_3 := ndL_le tInt_law (by decide) x0_3
   have N0_4 := ndL_le tActive_law (by decide) x0_4
   have N0_5 := ndL_le tFinished_law (by decide) x0_5
   have N0_6 := ndL_le tCharge_law (by decide) x0_6
   have N1_0 := ndL_le tVersionS_law (by decide) x1_0
   have N1_3 := ndL_le tInt_law (by decide) x1_3
   have N1_4 := ndL_le tActive_law (by decide) x1_4
   have N1_5 := ndL_le tFinished_law (by decide) x1_5
   have N1_6 := ndL_le tCharge_law (by decide) x1_6
   clear N0_0 N0_3 N0_4 N0_5 N0_6 N1_0 N1_3 N1_4 N1_5 N1_6
   have e0 : (r0 != r0) = false := by simp
   clear c0 c1
   go_enter Try.func6, Try.ntmps6
   go_wp2_with fail
   have Y_W : Hid (w.heap.size + 2 ≤ ((w.alloc (.cells #[.slice c0_0 x0_0.length k0_0, .int .i64 a0_1, .int .i64 a0_2, .slice c0_3 x0_3.length k0_3, .slice c0_4 x0_4.length k0_4, .slice c0_5 x0_5.length k0_5, .slice c0_6 x0_6.length k0_6, .int .i64 a0_7] 52)).alloc (.cells #[.slice c1_0 x1_0.length k1_0, .int .i64 a1_1, .int .i64 a1_2, .slice c1_3 x1_3.length k1_3, .slice c1_4 x1_4.length k1_4, .slice c1_5 x1_5.length k1_5, .slice c1_6 x1_6.length k1_6, .int .i64 a1_7] 52)).heap.size) := Lib.hid (by simp [World.size_alloc])
   generalize ((w.alloc (.cells #[.slice c0_0 x0_0.length k0_0, .int .i64 a0_1, .int .i64 a0_2, .slice c0_3 x0_3.length k0_3, .slice c0_4 x0_4.length k0_4, .slice c0_5 x0_5.length k0_5, .slice c0_6 x0_6.length k0_6, .int .i64 a0_7] 52)).alloc (.cells #[.slice c1_0 x1_0.length k1_0, .int .i64 a1_1, .int .i64 a1_2, .slice c1_3 x1_3.length k1_3, .slice c1_4 x1_4.length k1_4, .slice c1_5 x1_5.length k1_5, .slice c1_6 x1_6.length k1_6, .int .i64 a1_7] 52)) = W at *
   have d := Lib.hid (Below.refl W.heap.size W)
   refine (szEngine_Y a0_1 a0_2 a0_7 (.slice c0_0 x0_0.length k0_0) (.slice c0_3 x0_3.length k0_3) (.slice c0_4 x0_4.length k0_4) (.slice c0_5 x0_5.length k0_5) (.slice c0_6 x0_6.length k0_6) x0_0 x0_3 x0_4 x0_5 x0_6 ((1048576 : Int)) W (slR_below tVersionS_law A0_0.out d.out) (slR_below tInt_law A0_3.out d.out) (slR_below tActive_law A0_4.out d.out) (slR_below tFinished_law A0_5.out d.out) (slR_below tCharge_law A0_6.out d.out) HZ0.out HK0.out).mono ?_
   rintro e v1 ⟨rfl, c1⟩
   replace B0 := Lib.hid ((c1.block w.heap.size (Array.getElem?_eq_some_iff.1 B0.out).1).trans B0.out)
   replace B1 := Lib.hid ((c1.block (w.heap.size + 1) (Array.getElem?_eq_some_iff.1 B1.out).1).trans B1.out)
   replace d := Lib.hid (d.out.trans (c1.mono d.out.size))
   have Z_v1 := Lib.hid (show W.heap.size ≤ v1.heap.size from c1.size)
   clear c1
   obtain ⟨p_B1_0, p_B1_1, p_B1_2, p_B1_3, p_B1_4, p_B1_5, p_B1_6, p_B1_7⟩ := cls8 B1.out
   go_wp2_with fail
   clear p_B1_0 p_B1_1 p_B1_2 p_B1_3 p_B1_4 p_B1_5 p_B1_6 p_B1_7
   refine (szEngine_Y a1_1 a1_2 a1_7 (.slice c1_0 x1_0.length k1_0) (.slice c1_3 x1_3.length k1_3) (.slice c1_4 x1_4.length k1_4) (.slice c1_5 x1_5.length k1_5) (.slice c1_6 x1_6.length k1_6) x1_0 x1_3 x1_4 x1_5 x1_6 ((1048576 : Int) - ((zL tVersionS x0_0 + zL tInt x0_3 + zL tActive x0_4 + zL tFinished x0_5 + zL tCharge x0_6 : Nat) : Int)) v1 (slR_below tVersionS_law A1_0.out d.out) (slR_below tInt_law A1_3.out d.out) (slR_below tActive_law A1_4.out d.out) (slR_below tFinished_law A1_5.out d.out) (slR_below tCharge_law A1_6.out d.out) HZ1.out HK1.out).mono ?_
   rintro e v2 ⟨rfl, c2⟩
   replace B0 := Lib.hid ((c2.block w.heap.size (Array.getElem?_eq_some_iff.1 B0.out).1).trans B0.out)
   replace B1 := Lib.hid ((c2.block (w.heap.size + 1) (Array.getElem?_eq_some_iff.1 B1.out).1).trans B1.out)
   replace d := Lib.hid (d.out.trans (c2.mono d.out.size))
   have Z_v2 := Lib.hid (show v1.heap.size ≤ v2.heap.size from c2.size)
   clear c2
   go_wp2
   obtain ⟨p_B0_0, p_B0_1, p_B0_2, p_B0_3, p_B0_4, p_B0_5, p_B0_6, p_B0_7⟩ := cls8 B0.out
   obtain ⟨p_B1_0, p_B1_1, p_B1_2, p_B1_3, p_B1_4, p_B1_5, p_B1_6, p_B1_7⟩ := cls8 B1.out
   refine wp_region_held_drew (S := fun w' => w'.cell? ⟨w.heap.size, 0, none⟩ = some (Value.slice c0_0 x0_0.length k0_0) ∧ w'.cell? ⟨w.heap.size, 1, none⟩ = some (Value.int .i64 a0_1) ∧ w'.cell? ⟨w.heap.size, 2, none⟩ = some (Value.int .i64 a0_2) ∧ w'.cell? ⟨w.heap.size, 3, none⟩ = some (Value.slice c0_3 x0_3.length k0_3) ∧ w'.cell? ⟨w.heap.size, 4, none⟩ = some (Value.slice c0_4 x0_4.length k0_4) ∧ w'.cell? ⟨w.heap.size, 5, none⟩ = some (Value.slice c0_5 x0_5.length k0_5) ∧ w'.cell? ⟨w.heap.size, 6, none⟩ = some (Value.slice c0_6 x0_6.length k0_6) ∧ w'.cell? ⟨w.heap.size, 7, none⟩ = some (Value.int .i64 a0_7) ∧ w'.cell? ⟨(w.heap.size + 1), 0, none⟩ = some (Value.slice c1_0 x1_0.length k1_0) ∧ w'.cell? ⟨(w.heap.size + 1), 1, none⟩ = some (Value.int .i64 a1_1) ∧ w'.cell? ⟨(w.heap.size + 1), 2, none⟩ = some (Value.int .i64 a1_2) ∧ w'.cell? ⟨(w.heap.size + 1), 3, none⟩ = some (Value.slice c1_3 x1_3.length k1_3) ∧ w'.cell? ⟨(w.heap.size + 1), 4, none⟩ = some (Value.slice c1_4 x1_4.length k1_4) ∧ w'.cell? ⟨(w.heap.size + 1), 5, none⟩ = some (Value.slice c1_5 x1_5.length k1_5) ∧ w'.cell? ⟨(w.heap.size + 1), 6, none⟩ = some (Value.slice c1_6 x1_6.length k1_6) ∧ w'.cell? ⟨(w.heap.size + 1), 7, none⟩ = some (Value.int .i64 a1_7)) (by kernel_rfl) ⟨p_B0_0, p_B0_1, p_B0_2, p_B0_3, p_B0_4, p_B0_5, p_B0_6, p_B0_7, p_B1_0, p_B1_1, p_B1_2, p_B1_3, p_B1_4, p_B1_5, p_B1_6, p_B1_7⟩ (fun hHeld => ?_)
   clear p_B0_0 p_B0_1 p_B0_2 p_B0_3 p_B0_4 p_B0_5 p_B0_6 p_B0_7 p_B1_0 p_B1_1 p_B1_2 p_B1_3 p_B1_4 p_B1_5 p_B1_6 p_B1_7
   have cd3 : Below v2.heap.size v2 v2.drew := below_drew (Below.refl _ _)
   replace B0 := Lib.hid ((cd3.block w.heap.size (Array.getElem?_eq_some_iff.1 B0.out).1).trans B0.out)
   replace B1 := Lib.hid ((cd3.block (w.heap.size + 1) (Array.getElem?_eq_some_iff.1 B1.out).1).trans B1.out)
   replace d := Lib.hid (d.out.trans (cd3.mono d.out.size))
   clear cd3
   refine tR (i := 0) (v := ?_) ?_ ?_; rotate_left
   ·
    intro w hSw; (try dsimp only at hSw); go_simp; try (with_reducible rfl)
   try simp only [Act.put, lA, lB, lC]
   refine tR (i := 2) (v := ?_) ?_ ?_; rotate_left
   ·
    intro w hSw; (try dsimp only at hSw); go_simp; try (with_reducible rfl)
   try simp only [Act.put, lA, lB, lC]
   refine wpAnyH_ready (rs := [1]) (by kernel_rfl) (by simp) ?_
   refine AllReadyH.cons (o := _) (by simp only [hA, hB, hC]; rfl) (fun K hK => ?_) AllReadyH.nil
   go_simp
   refine (toEngine_T a0_1 a0_2 a0_7 (.slice c0_0 x0_0.length k0_0) (.slice c0_3 x0_3.length k0_3) (.slice c0_4 x0_4.length k0_4) (.slice c0_5 x0_5.length k0_5) (.slice c0_6 x0_6.length k0_6) x0_0 x0_3 x0_4 x0_5 x0_6 (v2.drew) (slR_below tVersionS_law A0_0.out d.out) (slR_below tInt_law A0_3.out d.out) (slR_below tActive_law A0_4.out d.out) (slR_below tFinished_law A0_5.out d.out) (slR_below tCharge_law A0_6.out d.out) S0_0.out S0_3.out S0_4.out S0_5.out S0_6.out).mono ?_
   rintro e v4 ⟨cs, rfl, ow, c4⟩
   replace B0 := Lib.hid ((c4.block w.heap.size (Array.getElem?_eq_some_iff.1 B0.out).1).trans B0.out)
   replace B1 := Lib.hid ((c4.block (w.heap.size + 1) (Array.getElem?_eq_some_iff.1 B1.out).1).trans B1.out)
   replace d := Lib.hid (d.out.trans (c4.mono d.out.size))
   have Z_v4 := Lib.hid (show v2.heap.size ≤ v4.heap.size from c4.size)
   clear c4
   replace ow := tEngine_law.lt ow
   obtain ⟨y4_0, y4_3, y4_4, y4_5, y4_6, K4_0, K4_3, K4_4, K4_5, K4_6, rfl, p4_0, p4_3, p4_4, p4_5, p4_6, w4_0, w4_3, w4_4, w4_5, w4_6, d4_0_3, d4_0_4, d4_0_5, d4_0_6, d4_3_4, d4_3_5, d4_3_6, d4_4_5, d4_4_6, d4_5_6⟩ := tEngine_O ow
   obtain ⟨ya4_0, yc4_0, rfl⟩ := slO_len p4_0
   have P4_0 := Lib.hid p4_0
   have Q4_0 := Lib.hid (fun b h => (show (v2.drew).heap.size ≤ b ∧ b < v4.heap.size from w4_0 b h))
   obtain ⟨ya4_3, yc4_3, rfl⟩ := slO_len p4_3
   have P4_3 := Lib.hid p4_3
   have Q4_3 := Lib.hid (fun b h => (show (v2.drew).heap.size ≤ b ∧ b < v4.heap.size from w4_3 b h))
   obtain ⟨ya4_4, yc4_4, rfl⟩ := slO_len p4_4
   have P4_4 := Lib.hid p4_4
   have Q4_4 := Lib.hid (fun b h => (show (v2.drew).heap.size ≤ b ∧ b < v4.heap.size from w4_4 b h))
   obtain ⟨ya4_5, yc4_5, rfl⟩ := slO_len p4_5
   have P4_5 := Lib.hid p4_5
   have Q4_5 := Lib.hid (fun b h => (show (v2.drew).heap.size ≤ b ∧ b < v4.heap.size from w4_5 b h))
   obtain ⟨ya4_6, yc4_6, rfl⟩ := slO_len p4_6
   have P4_6 := Lib.hid p4_6
   have Q4_6 := Lib.hid (fun b h => (show (v2.drew).heap.size ≤ b ∧ b < v4.heap.size from w4_6 b h))
   have D4_0_3 := Lib.hid d4_0_3
   clear d4_0_3
   have D4_0_4 := Lib.hid d4_0_4
   clear d4_0_4
   have D4_0_5 := Lib.hid d4_0_5
   clear d4_0_5
   have D4_0_6 := Lib.hid d4_0_6
   clear d4_0_6
   have D4_3_4 := Lib.hid d4_3_4
   clear d4_3_4
   have D4_3_5 := Lib.hid d4_3_5
   clear d4_3_5
   have D4_3_6 := Lib.hid d4_3_6
   clear d4_3_6
   have D4_4_5 := Lib.hid d4_4_5
   clear d4_4_5
   have D4_4_6 := Lib.hid d4_4_6
   clear d4_4_6
   have D4_5_6 := Lib.hid d4_5_6
   clear d4_5_6
   clear p4_0 w4_0 p4_3 w4_3 p4_4 w4_4 p4_5 w4_5 p4_6 w4_6 ow
   obtain ⟨p_B0_0, p_B0_1, p_B0_2, p_B0_3, p_B0_4, p_B0_5, p_B0_6, p_B0_7⟩ := cls8 B0.out
   obtain ⟨p_B1_0, p_B1_1, p_B1_2, p_B1_3, p_B1_4, p_B1_5, p_B1_6, p_B1_7⟩ := cls8 B1.out
   refine hK.out _ _ ⟨p_B0_0, p_B0_1, p_B0_2, p_B0_3, p_B0_4, p_B0_5, p_B0_6, p_B0_7, p_B1_0, p_B1_1, p_B1_2, p_B1_3, p_B1_4, p_B1_5, p_B1_6, p_B1_7⟩ (fun hHeld => ?_)
   clear p_B0_0 p_B0_1 p_B0_2 p_B0_3 p_B0_4 p_B0_5 p_B0_6 p_B0_7 p_B1_0 p_B1_1 p_B1_2 p_B1_3 p_B1_4 p_B1_5 p_B1_6 p_B1_7
   clear hK K
   try simp only [Act.put, lA, lB, lC]
   refine wpAnyH_ready (rs := [3]) (by kernel_rfl) (by simp) ?_
   refine AllReadyH.cons (o := _) (by simp only [hA, hB, hC]; rfl) (fun K hK => ?_) AllReadyH.nil
   go_simp
   refine (toEngine_T a1_1 a1_2 a1_7 (.slice c1_0 x1_0.length k1_0) (.slice c1_3 x1_3.length k1_3) (.slice c1_4 x1_4.length k1_4) (.slice c1_5 x1_5.length k1_5) (.slice c1_6 x1_6.length k1_6) x1_0 x1_3 x1_4 x1_5 x1_6 v4 (slR_below tVersionS_law A1_0.out d.out) (slR_below tInt_law A1_3.out d.out) (slR_below tActive_law A1_4.out d.out) (slR_below tFinished_law A1_5.out d.out) (slR_below tCharge_law A1_6.out d.out) S1_0.out S1_3.out S1_4.out S1_5.out S1_6.out).mono ?_
   rintro e v5 ⟨cs, rfl, ow, c5⟩
   replace B0 := Lib.hid ((c5.block w.heap.size (Array.getElem?_eq_some_iff.1 B0.out).1).trans B0.out)
   replace B1 := Lib.hid ((c5.block (w.heap.size + 1) (Array.getElem?_eq_some_iff.1 B1.out).1).trans B1.out)
   replace P4_0 := Lib.hid (slO_fresh tVersionS_law P4_0.out c5)
   replace P4_3 := Lib.hid (slO_fresh tInt_law P4_3.out c5)
   replace P4_4 := Lib.hid (slO_fresh tActive_law P4_4.out c5)
   replace P4_5 := Lib.hid (slO_fresh tFinished_law P4_5.out c5)
   replace P4_6 := Lib.hid (slO_fresh tCharge_law P4_6.out c5)
   replace d := Lib.hid (d.out.trans (c5.mono d.out.size))
   have Z_v5 := Lib.hid (show v4.heap.size ≤ v5.heap.size from c5.size)
   clear c5
   replace ow := tEngine_law.lt ow
   obtain ⟨y5_0, y5_3, y5_4, y5_5, y5_6, K5_0, K5_3, K5_4, K5_5, K5_6, rfl, p5_0, p5_3, p5_4, p5_5, p5_6, w5_0, w5_3, w5_4, w5_5, w5_6, d5_0_3, d5_0_4, d5_0_5, d5_0_6, d5_3_4, d5_3_5, d5_3_6, d5_4_5, d5_4_6, d5_5_6⟩ := tEngine_O ow
   obtain ⟨ya5_0, yc5_0, rfl⟩ := slO_len p5_0
   have P5_0 := Lib.hid p5_0
   have Q5_0 := Lib.hid (fun b h => (show v4.heap.size ≤ b ∧ b < v5.heap.size from w5_0 b h))
   obtain ⟨ya5_3, yc5_3, rfl⟩ := slO_len p5_3
   have P5_3 := Lib.hid p5_3
   have Q5_3 := Lib.hid (fun b h => (show v4.heap.size ≤ b ∧ b < v5.heap.size from w5_3 b h))
   obtain ⟨ya5_4, yc5_4, rfl⟩ := slO_len p5_4
   have P5_4 := Lib.hid p5_4
   have Q5_4 := Lib.hid (fun b h => (show v4.heap.size ≤ b ∧ b < v5.heap.size from w5_4 b h))
   obtain ⟨ya5_5, yc5_5, rfl⟩ := slO_len p5_5
   have P5_5 := Lib.hid p5_5
   have Q5_5 := Lib.hid (fun b h => (show v4.heap.size ≤ b ∧ b < v5.heap.size from w5_5 b h))
   obtain ⟨ya5_6, yc5_6, rfl⟩ := slO_len p5_6
   have P5_6 := Lib.hid p5_6
   have Q5_6 := Lib.hid (fun b h => (show v4.heap.size ≤ b ∧ b < v5.heap.size from w5_6 b h))
   have D5_0_3 := Lib.hid d5_0_3
   clear d5_0_3
   have D5_0_4 := Lib.hid d5_0_4
   clear d5_0_4
   have D5_0_5 := Lib.hid d5_0_5
   clear d5_0_5
   have D5_0_6 := Lib.hid d5_0_6
   clear d5_0_6
   have D5_3_4 := Lib.hid d5_3_4
   clear d5_3_4
   have D5_3_5 := Lib.hid d5_3_5
   clear d5_3_5
   have D5_3_6 := Lib.hid d5_3_6
   clear d5_3_6
   have D5_4_5 := Lib.hid d5_4_5
   clear d5_4_5
   have D5_4_6 := Lib.hid d5_4_6
   clear d5_4_6
   have D5_5_6 := Lib.hid d5_5_6
   clear d5_5_6
   clear p5_0 w5_0 p5_3 w5_3 p5_4 w5_4 p5_5 w5_5 p5_6 w5_6 ow
   obtain ⟨p_B0_0, p_B0_1, p_B0_2, p_B0_3, p_B0_4, p_B0_5, p_B0_6, p_B0_7⟩ := cls8 B0.out
   obtain ⟨p_B1_0, p_B1_1, p_B1_2, p_B1_3, p_B1_4, p_B1_5, p_B1_6, p_B1_7⟩ := cls8 B1.out
   refine hK.out _ _ ⟨p_B0_0, p_B0_1, p_B0_2, p_B0_3, p_B0_4, p_B0_5, p_B0_6, p_B0_7, p_B1_0, p_B1_1, p_B1_2, p_B1_3, p_B1_4, p_B1_5, p_B1_6, p_B1_7⟩ (fun hHeld => ?_)
   clear p_B0_0 p_B0_1 p_B0_2 p_B0_3 p_B0_4 p_B0_5 p_B0_6 p_B0_7 p_B1_0 p_B1_1 p_B1_2 p_B1_3 p_B1_4 p_B1_5 p_B1_6 p_B1_7
   clear hK K
   try simp only [Act.put, lA, lB, lC]
   refine wpAnyH_ready (rs := [4]) (by kernel_rfl) (by simp) ?_
   refine AllReadyH.cons (o := _) (by simp only [hA, hB, hC]; rfl) (fun K hK => ?_) AllReadyH.nil
   go_simp
   refine (HSP.out (.slice ya4_0 x0_0.length yc4_0) (.slice ya4_3 x0_3.length yc4_3) (.slice ya4_4 x0_4.length yc4_4) (.slice ya4_5 x0_5.length yc4_5) (.slice ya4_6 x0_6.length yc4_6) (.slice ya5_0 x1_0.length yc5_0) (.slice ya5_3 x1_3.length yc5_3) (.slice ya5_4 x1_4.length yc5_4) (.slice ya5_5 x1_5.length yc5_5) (.slice ya5_6 x1_6.length yc5_6) v5 (slO_reads tVersionS_law P4_0.out) (slO_reads tInt_law P4_3.out) (slO_reads tActive_law P4_4.out) (slO_reads tFinished_law P4_5.out) (slO_reads tCharge_law P4_6.out) (slO_reads tVersionS_law P5_0.out) (slO_reads tInt_law P5_3.out) (slO_reads tActive_law P5_4.out) (slO_reads tFinished_law P5_5.out) (slO_reads tCharge_law P5_6.out) HT.out ).mono ?_
   rintro e v6 ⟨rfl, c6⟩
   replace B0 := Lib.hid ((c6.block w.heap.size (Array.getElem?_eq_some_iff.1 B0.out).1).trans B0.out)
   replace B1 := Lib.hid ((c6.block (w.heap.size + 1) (Array.getElem?_eq_some_iff.1 B1.out).1).trans B1.out)
   replace P4_0 := Lib.hid (slO_fresh tVersionS_law P4_0.out c6)
   replace P4_3 := Lib.hid (slO_fresh tInt_law P4_3.out c6)
   replace P4_4 := Lib.hid (slO_fresh tActive_law P4_4.out c6)
   replace P4_5 := Lib.hid (slO_fresh tFinished_law P4_5.out c6)
   replace P4_6 := Lib.hid (slO_fresh tCharge_law P4_6.out c6)
   replace P5_0 := Lib.hid (slO_fresh tVersionS_law P5_0.out c6)
   replace P5_3 := Lib.hid (slO_fresh tInt_law P5_3.out c6)
   replace P5_4 := Lib.hid (slO_fresh tActive_law P5_4.out c6)
   replace P5_5 := Lib.hid (slO_fresh tFinished_law P5_5.out c6)
   replace P5_6 := Lib.hid (slO_fresh tCharge_law P5_6.out c6)
   replace d := Lib.hid (d.out.trans (c6.mono d.out.size))
   have Z_v6 := Lib.hid (show v5.heap.size ≤ v6.heap.size from c6.size)
   clear c6
   obtain ⟨p_B0_0, p_B0_1, p_B0_2, p_B0_3, p_B0_4, p_B0_5, p_B0_6, p_B0_7⟩ := cls8 B0.out
   obtain ⟨p_B1_0, p_B1_1, p_B1_2, p_B1_3, p_B1_4, p_B1_5, p_B1_6, p_B1_7⟩ := cls8 B1.out
   refine hK.out _ _ ⟨p_B0_0, p_B0_1, p_B0_2, p_B0_3, p_B0_4, p_B0_5, p_B0_6, p_B0_7, p_B1_0, p_B1_1, p_B1_2, p_B1_3, p_B1_4, p_B1_5, p_B1_6, p_B1_7⟩ (fun hHeld => ?_)
   clear p_B0_0 p_B0_1 p_B0_2 p_B0_3 p_B0_4 p_B0_5 p_B0_6 p_B0_7 p_B1_0 p_B1_1 p_B1_2 p_B1_3 p_B1_4 p_B1_5 p_B1_6 p_B1_7
   clear hK K
   try simp only [Act.put, lA, lB, lC]
   refine tR (i := 5) (v := ?_) ?_ ?_; rotate_left
   ·
    intro w hSw; (try dsimp only at hSw); go_simp; try (with_reducible rfl)
   try simp only [Act.put, lA, lB, lC]
   refine wpAnyH_done (by kernel_rfl) ?_ _
   clear hHeld
   obtain ⟨p_B0_0, p_B0_1, p_B0_2, p_B0_3, p_B0_4, p_B0_5, p_B0_6, p_B0_7⟩ := cls8 B0.out
   go_wp2_with fail
   clear p_B0_0 p_B0_1 p_B0_2 p_B0_3 p_B0_4 p_B0_5 p_B0_6 p_B0_7
   refine (toEngine_T a0_1 a0_2 a0_7 (.slice c0_0 x0_0.length k0_0) (.slice c0_3 x0_3.length k0_3) (.slice c0_4 x0_4.length k0_4) (.slice c0_5 x0_5.length k0_5) (.slice c0_6 x0_6.length k0_6) x0_0 x0_3 x0_4 x0_5 x0_6 v6 (slR_below tVersionS_law A0_0.out d.out) (slR_below tInt_law A0_3.out d.out) (slR_below tActive_law A0_4.out d.out) (slR_below tFinished_law A0_5.out d.out) (slR_below tCharge_law A0_6.out d.out) S0_0.out S0_3.out S0_4.out S0_5.out S0_6.out).mono ?_
   rintro e v7 ⟨cs, rfl, ow, c7⟩
   replace B0 := Lib.hid ((c7.block w.heap.size (Array.getElem?_eq_some_iff.1 B0.out).1).trans B0.out)
   replace B1 := Lib.hid ((c7.block (w.heap.size + 1) (Array.getElem?_eq_some_iff.1 B1.out).1).trans B1.out)
   replace P4_0 := Lib.hid (slO_fresh tVersionS_law P4_0.out c7)
   replace P4_3 := Lib.hid (slO_fresh tInt_law P4_3.out c7)
   replace P4_4 := Lib.hid (slO_fresh tActive_law P4_4.out c7)
   replace P4_5 := Lib.hid (slO_fresh tFinished_law P4_5.out c7)
   replace P4_6 := Lib.hid (slO_fresh tCharge_law P4_6.out c7)
   replace P5_0 := Lib.hid (slO_fresh tVersionS_law P5_0.out c7)
   replace P5_3 := Lib.hid (slO_fresh tInt_law P5_3.out c7)
   replace P5_4 := Lib.hid (slO_fresh tActive_law P5_4.out c7)
   replace P5_5 := Lib.hid (slO_fresh tFinished_law P5_5.out c7)
   replace P5_6 := Lib.hid (slO_fresh tCharge_law P5_6.out c7)
   replace d := Lib.hid (d.out.trans (c7.mono d.out.size))
   have Z_v7 := Lib.hid (show v6.heap.size ≤ v7.heap.size from c7.size)
   clear c7
   replace ow := tEngine_law.lt ow
   obtain ⟨y7_0, y7_3, y7_4, y7_5, y7_6, K7_0, K7_3, K7_4, K7_5, K7_6, rfl, p7_0, p7_3, p7_4, p7_5, p7_6, w7_0, w7_3, w7_4, w7_5, w7_6, d7_0_3, d7_0_4, d7_0_5, d7_0_6, d7_3_4, d7_3_5, d7_3_6, d7_4_5, d7_4_6, d7_5_6⟩ := tEngine_O ow
   obtain ⟨ya7_0, yc7_0, rfl⟩ := slO_len p7_0
   have P7_0 := Lib.hid p7_0
   have Q7_0 := Lib.hid (fun b h => (show v6.heap.size ≤ b ∧ b < v7.heap.size from w7_0 b h))
   obtain ⟨ya7_3, yc7_3, rfl⟩ := slO_len p7_3
   have P7_3 := Lib.hid p7_3
   have Q7_3 := Lib.hid (fun b h => (show v6.heap.size ≤ b ∧ b < v7.heap.size from w7_3 b h))
   obtain ⟨ya7_4, yc7_4, rfl⟩ := slO_len p7_4
   have P7_4 := Lib.hid p7_4
   have Q7_4 := Lib.hid (fun b h => (show v6.heap.size ≤ b ∧ b < v7.heap.size from w7_4 b h))
   obtain ⟨ya7_5, yc7_5, rfl⟩ := slO_len p7_5
   have P7_5 := Lib.hid p7_5
   have Q7_5 := Lib.hid (fun b h => (show v6.heap.size ≤ b ∧ b < v7.heap.size from w7_5 b h))
   obtain ⟨ya7_6, yc7_6, rfl⟩ := slO_len p7_6
   have P7_6 := Lib.hid p7_6
   have Q7_6 := Lib.hid (fun b h => (show v6.heap.size ≤ b ∧ b < v7.heap.size from w7_6 b h))
   have D7_0_3 := Lib.hid d7_0_3
   clear d7_0_3
   have D7_0_4 := Lib.hid d7_0_4
   clear d7_0_4
   have D7_0_5 := Lib.hid d7_0_5
   clear d7_0_5
   have D7_0_6 := Lib.hid d7_0_6
   clear d7_0_6
   have D7_3_4 := Lib.hid d7_3_4
   clear d7_3_4
   have D7_3_5 := Lib.hid d7_3_5
   clear d7_3_5
   have D7_3_6 := Lib.hid d7_3_6
   clear d7_3_6
   have D7_4_5 := Lib.hid d7_4_5
   clear d7_4_5
   have D7_4_6 := Lib.hid d7_4_6
   clear d7_4_6
   have D7_5_6 := Lib.hid d7_5_6
   clear d7_5_6
   clear p7_0 w7_0 p7_3 w7_3 p7_4 w7_4 p7_5 w7_5 p7_6 w7_6 ow
   have hal : Below v7.heap.size v7 (v7.alloc (.cells #[.slice ya7_0 x0_0.length yc7_0, .int .i64 a0_1, .int .i64 a0_2, .slice ya7_3 x0_3.length yc7_3, .slice ya7_4 x0_4.length yc7_4, .slice ya7_5 x0_5.length yc7_5, .slice ya7_6 x0_6.length yc7_6, .int .i64 a0_7] 42)) := (Below.refl _ _).alloc (Nat.le_refl _) _
   have X1 := Lib.hid (heap_alloc_new v7 (.cells #[.slice ya7_0 x0_0.length yc7_0, .int .i64 a0_1, .int .i64 a0_2, .slice ya7_3 x0_3.length yc7_3, .slice ya7_4 x0_4.length yc7_4, .slice ya7_5 x0_5.length yc7_5, .slice ya7_6 x0_6.length yc7_6, .int .i64 a0_7] 42))
   have Y_X1 := Lib.hid (show v7.heap.size < (v7.alloc (.cells #[.slice ya7_0 x0_0.length yc7_0, .int .i64 a0_1, .int .i64 a0_2, .slice ya7_3 x0_3.length yc7_3, .slice ya7_4 x0_4.length yc7_4, .slice ya7_5 x0_5.length yc7_5, .slice ya7_6 x0_6.length yc7_6, .int .i64 a0_7] 42)).heap.size by simp [World.size_alloc])
   replace B0 := Lib.hid ((hal.block w.heap.size (Array.getElem?_eq_some_iff.1 B0.out).1).trans B0.out)
   replace B1 := Lib.hid ((hal.block (w.heap.size + 1) (Array.getElem?_eq_some_iff.1 B1.out).1).trans B1.out)
   replace P4_0 := Lib.hid (slO_fresh tVersionS_law P4_0.out hal)
   replace P4_3 := Lib.hid (slO_fresh tInt_law P4_3.out hal)
   replace P4_4 := Lib.hid (slO_fresh tActive_law P4_4.out hal)
   replace P4_5 := Lib.hid (slO_fresh tFinished_law P4_5.out hal)
   replace P4_6 := Lib.hid (slO_fresh tCharge_law P4_6.out hal)
   replace P5_0 := Lib.hid (slO_fresh tVersionS_law P5_0.out hal)
   replace P5_3 := Lib.hid (slO_fresh tInt_law P5_3.out hal)
   replace P5_4 := Lib.hid (slO_fresh tActive_law P5_4.out hal)
   replace P5_5 := Lib.hid (slO_fresh tFinished_law P5_5.out hal)
   replace P5_6 := Lib.hid (slO_fresh tCharge_law P5_6.out hal)
   replace P7_0 := Lib.hid (slO_fresh tVersionS_law P7_0.out hal)
   replace P7_3 := Lib.hid (slO_fresh tInt_law P7_3.out hal)
   replace P7_4 := Lib.hid (slO_fresh tActive_law P7_4.out hal)
   replace P7_5 := Lib.hid (slO_fresh tFinished_law P7_5.out hal)
   replace P7_6 := Lib.hid (slO_fresh tCharge_law P7_6.out hal)
   replace d := Lib.hid (d.out.trans (hal.mono d.out.size))
   clear hal
   obtain ⟨p_B1_0, p_B1_1, p_B1_2, p_B1_3, p_B1_4, p_B1_5, p_B1_6, p_B1_7⟩ := cls8 B1.out
   go_wp2_with fail
   clear p_B1_0 p_B1_1 p_B1_2 p_B1_3 p_B1_4 p_B1_5 p_B1_6 p_B1_7
   generalize (v7.alloc (.cells #[.slice ya7_0 x0_0.length yc7_0, .int .i64 a0_1, .int .i64 a0_2, .slice ya7_3 x0_3.length yc7_3, .slice ya7_4 x0_4.length yc7_4, .slice ya7_5 x0_5.length yc7_5, .slice ya7_6 x0_6.length yc7_6, .int .i64 a0_7] 42)) = u8 at *
   refine (toEngine_T a1_1 a1_2 a1_7 (.slice c1_0 x1_0.length k1_0) (.slice c1_3 x1_3.length k1_3) (.slice c1_4 x1_4.length k1_4) (.slice c1_5 x1_5.length k1_5) (.slice c1_6 x1_6.length k1_6) x1_0 x1_3 x1_4 x1_5 x1_6 u8 (slR_below tVersionS_law A1_0.out d.out) (slR_below tInt_law A1_3.out d.out) (slR_below tActive_law A1_4.out d.out) (slR_below tFinished_law A1_5.out d.out) (slR_below tCharge_law A1_6.out d.out) S1_0.out S1_3.out S1_4.out S1_5.out S1_6.out).mono ?_
   rintro e v9 ⟨cs, rfl, ow, c9⟩
   replace B0 := Lib.hid ((c9.block w.heap.size (Array.getElem?_eq_some_iff.1 B0.out).1).trans B0.out)
   replace B1 := Lib.hid ((c9.block (w.heap.size + 1) (Array.getElem?_eq_some_iff.1 B1.out).1).trans B1.out)
   replace X1 := Lib.hid ((c9.block v7.heap.size (Array.getElem?_eq_some_iff.1 X1.out).1).trans X1.out)
   replace P4_0 := Lib.hid (slO_fresh tVersionS_law P4_0.out c9)
   replace P4_3 := Lib.hid (slO_fresh tInt_law P4_3.out c9)
   replace P4_4 := Lib.hid (slO_fresh tActive_law P4_4.out c9)
   replace P4_5 := Lib.hid (slO_fresh tFinished_law P4_5.out c9)
   replace P4_6 := Lib.hid (slO_fresh tCharge_law P4_6.out c9)
   replace P5_0 := Lib.hid (slO_fresh tVersionS_law P5_0.out c9)
   replace P5_3 := Lib.hid (slO_fresh tInt_law P5_3.out c9)
   replace P5_4 := Lib.hid (slO_fresh tActive_law P5_4.out c9)
   replace P5_5 := Lib.hid (slO_fresh tFinished_law P5_5.out c9)
   replace P5_6 := Lib.hid (slO_fresh tCharge_law P5_6.out c9)
   replace P7_0 := Lib.hid (slO_fresh tVersionS_law P7_0.out c9)
   replace P7_3 := Lib.hid (slO_fresh tInt_law P7_3.out c9)
   replace P7_4 := Lib.hid (slO_fresh tActive_law P7_4.out c9)
   replace P7_5 := Lib.hid (slO_fresh tFinished_law P7_5.out c9)
   replace P7_6 := Lib.hid (slO_fresh tCharge_law P7_6.out c9)
   replace d := Lib.hid (d.out.trans (c9.mono d.out.size))
   have Z_v9 := Lib.hid (show u8.heap.size ≤ v9.heap.size from c9.size)
   clear c9
   replace ow := tEngine_law.lt ow
   obtain ⟨y9_0, y9_3, y9_4, y9_5, y9_6, K9_0, K9_3, K9_4, K9_5, K9_6, rfl, p9_0, p9_3, p9_4, p9_5, p9_6, w9_0, w9_3, w9_4, w9_5, w9_6, d9_0_3, d9_0_4, d9_0_5, d9_0_6, d9_3_4, d9_3_5, d9_3_6, d9_4_5, d9_4_6, d9_5_6⟩ := tEngine_O ow
   obtain ⟨ya9_0, yc9_0, rfl⟩ := slO_len p9_0
   have P9_0 := Lib.hid p9_0
   have Q9_0 := Lib.hid (fun b h => (show u8.heap.size ≤ b ∧ b < v9.heap.size from w9_0 b h))
   obtain ⟨ya9_3, yc9_3, rfl⟩ := slO_len p9_3
   have P9_3 := Lib.hid p9_3
   have Q9_3 := Lib.hid (fun b h => (show u8.heap.size ≤ b ∧ b < v9.heap.size from w9_3 b h))
   obtain ⟨ya9_4, yc9_4, rfl⟩ := slO_len p9_4
   have P9_4 := Lib.hid p9_4
   have Q9_4 := Lib.hid (fun b h => (show u8.heap.size ≤ b ∧ b < v9.heap.size from w9_4 b h))
   obtain ⟨ya9_5, yc9_5, rfl⟩ := slO_len p9_5
   have P9_5 := Lib.hid p9_5
   have Q9_5 := Lib.hid (fun b h => (show u8.heap.size ≤ b ∧ b < v9.heap.size from w9_5 b h))
   obtain ⟨ya9_6, yc9_6, rfl⟩ := slO_len p9_6
   have P9_6 := Lib.hid p9_6
   have Q9_6 := Lib.hid (fun b h => (show u8.heap.size ≤ b ∧ b < v9.heap.size from w9_6 b h))
   have D9_0_3 := Lib.hid d9_0_3
   clear d9_0_3
   have D9_0_4 := Lib.hid d9_0_4
   clear d9_0_4
   have D9_0_5 := Lib.hid d9_0_5
   clear d9_0_5
   have D9_0_6 := Lib.hid d9_0_6
   clear d9_0_6
   have D9_3_4 := Lib.hid d9_3_4
   clear d9_3_4
   have D9_3_5 := Lib.hid d9_3_5
   clear d9_3_5
   have D9_3_6 := Lib.hid d9_3_6
   clear d9_3_6
   have D9_4_5 := Lib.hid d9_4_5
   clear d9_4_5
   have D9_4_6 := Lib.hid d9_4_6
   clear d9_4_6
   have D9_5_6 := Lib.hid d9_5_6
   clear d9_5_6
   clear p9_0 w9_0 p9_3 w9_3 p9_4 w9_4 p9_5 w9_5 p9_6 w9_6 ow
   have hal : Below v9.heap.size v9 (v9.alloc (.cells #[.slice ya9_0 x1_0.length yc9_0, .int .i64 a1_1, .int .i64 a1_2, .slice ya9_3 x1_3.length yc9_3, .slice ya9_4 x1_4.length yc9_4, .slice ya9_5 x1_5.length yc9_5, .slice ya9_6 x1_6.length yc9_6, .int .i64 a1_7] 42)) := (Below.refl _ _).alloc (Nat.le_refl _) _
   have X2 := Lib.hid (heap_alloc_new v9 (.cells #[.slice ya9_0 x1_0.length yc9_0, .int .i64 a1_1, .int .i64 a1_2, .slice ya9_3 x1_3.length yc9_3, .slice ya9_4 x1_4.length yc9_4, .slice ya9_5 x1_5.length yc9_5, .slice ya9_6 x1_6.length yc9_6, .int .i64 a1_7] 42))
   have Y_X2 := Lib.hid (show v9.heap.size < (v9.alloc (.cells #[.slice ya9_0 x1_0.length yc9_0, .int .i64 a1_1, .int .i64 a1_2, .slice ya9_3 x1_3.length yc9_3, .slice ya9_4 x1_4.length yc9_4, .slice ya9_5 x1_5.length yc9_5, .slice ya9_6 x1_6.length yc9_6, .int .i64 a1_7] 42)).heap.size by simp [World.size_alloc])
   replace B0 := Lib.hid ((hal.block w.heap.size (Array.getElem?_eq_some_iff.1 B0.out).1).trans B0.out)
   replace B1 := Lib.hid ((hal.block (w.heap.size + 1) (Array.getElem?_eq_some_iff.1 B1.out).1).trans B1.out)
   replace X1 := Lib.hid ((hal.block v7.heap.size (Array.getElem?_eq_some_iff.1 X1.out).1).trans X1.out)
   replace P4_0 := Lib.hid (slO_fresh tVersionS_law P4_0.out hal)
   replace P4_3 := Lib.hid (slO_fresh tInt_law P4_3.out hal)
   replace P4_4 := Lib.hid (slO_fresh tActive_law P4_4.out hal)
   replace P4_5 := Lib.hid (slO_fresh tFinished_law P4_5.out hal)
   replace P4_6 := Lib.hid (slO_fresh tCharge_law P4_6.out hal)
   replace P5_0 := Lib.hid (slO_fresh tVersionS_law P5_0.out hal)
   replace P5_3 := Lib.hid (slO_fresh tInt_law P5_3.out hal)
   replace P5_4 := Lib.hid (slO_fresh tActive_law P5_4.out hal)
   replace P5_5 := Lib.hid (slO_fresh tFinished_law P5_5.out hal)
   replace P5_6 := Lib.hid (slO_fresh tCharge_law P5_6.out hal)
   replace P7_0 := Lib.hid (slO_fresh tVersionS_law P7_0.out hal)
   replace P7_3 := Lib.hid (slO_fresh tInt_law P7_3.out hal)
   replace P7_4 := Lib.hid (slO_fresh tActive_law P7_4.out hal)
   replace P7_5 := Lib.hid (slO_fresh tFinished_law P7_5.out hal)
   replace P7_6 := Lib.hid (slO_fresh tCharge_law P7_6.out hal)
   replace P9_0 := Lib.hid (slO_fresh tVersionS_law P9_0.out hal)
   replace P9_3 := Lib.hid (slO_fresh tInt_law P9_3.out hal)
   replace P9_4 := Lib.hid (slO_fresh tActive_law P9_4.out hal)
   replace P9_5 := Lib.hid (slO_fresh tFinished_law P9_5.out hal)
   replace P9_6 := Lib.hid (slO_fresh tCharge_law P9_6.out hal)
   replace d := Lib.hid (d.out.trans (hal.mono d.out.size))
   clear hal
   obtain ⟨p_X1_0, p_X1_1, p_X1_2, p_X1_3, p_X1_4, p_X1_5, p_X1_6, p_X1_7⟩ := cls8 X1.out
   obtain ⟨p_X2_0, p_X2_1, p_X2_2, p_X2_3, p_X2_4, p_X2_5, p_X2_6, p_X2_7⟩ := cls8 X2.out
   go_wp2_with fail
   clear p_X1_0 p_X1_1 p_X1_2 p_X1_3 p_X1_4 p_X1_5 p_X1_6 p_X1_7 p_X2_0 p_X2_1 p_X2_2 p_X2_3 p_X2_4 p_X2_5 p_X2_6 p_X2_7
   generalize (v9.alloc (.cells #[.slice ya9_0 x1_0.length yc9_0, .int .i64 a1_1, .int .i64 a1_2, .slice ya9_3 x1_3.length yc9_3, .slice ya9_4 x1_4.length yc9_4, .slice ya9_5 x1_5.length yc9_5, .slice ya9_6 x1_6.length yc9_6, .int .i64 a1_7] 42)) = u10 at *
   refine (HIM.out (.slice ya7_0 x0_0.length yc7_0) (.slice ya7_3 x0_3.length yc7_3) (.slice ya7_4 x0_4.length yc7_4) (.slice ya7_5 x0_5.length yc7_5) (.slice ya7_6 x0_6.length yc7_6) (.slice ya9_0 x1_0.length yc9_0) (.slice ya9_3 x1_3.length yc9_3) (.slice ya9_4 x1_4.length yc9_4) (.slice ya9_5 x1_5.length yc9_5) (.slice ya9_6 x1_6.length yc9_6) u10 (slO_reads tVersionS_law P7_0.out) (slO_reads tInt_law P7_3.out) (slO_reads tActive_law P7_4.out) (slO_reads tFinished_law P7_5.out) (slO_reads tCharge_law P7_6.out) (slO_reads tVersionS_law P9_0.out) (slO_reads tInt_law P9_3.out) (slO_reads tActive_law P9_4.out) (slO_reads tFinished_law P9_5.out) (slO_reads tCharge_law P9_6.out) HT.out ).mono ?_
   rintro e v11 ⟨rfl, c11⟩
   replace B0 := Lib.hid ((c11.block w.heap.size (Array.getElem?_eq_some_iff.1 B0.out).1).trans B0.out)
   replace B1 := Lib.hid ((c11.block (w.heap.size + 1) (Array.getElem?_eq_some_iff.1 B1.out).1).trans B1.out)
   replace X1 := Lib.hid ((c11.block v7.heap.size (Array.getElem?_eq_some_iff.1 X1.out).1).trans X1.out)
   replace X2 := Lib.hid ((c11.block v9.heap.size (Array.getElem?_eq_some_iff.1 X2.out).1).trans X2.out)
   replace P4_0 := Lib.hid (slO_fresh tVersionS_law P4_0.out c11)
   replace P4_3 := Lib.hid (slO_fresh tInt_law P4_3.out c11)
   replace P4_4 := Lib.hid (slO_fresh tActive_law P4_4.out c11)
   replace P4_5 := Lib.hid (slO_fresh tFinished_law P4_5.out c11)
   replace P4_6 := Lib.hid (slO_fresh tCharge_law P4_6.out c11)
   replace P5_0 := Lib.hid (slO_fresh tVersionS_law P5_0.out c11)
   replace P5_3 := Lib.hid (slO_fresh tInt_law P5_3.out c11)
   replace P5_4 := Lib.hid (slO_fresh tActive_law P5_4.out c11)
   replace P5_5 := Lib.hid (slO_fresh tFinished_law P5_5.out c11)
   replace P5_6 := Lib.hid (slO_fresh tCharge_law P5_6.out c11)
   replace P7_0 := Lib.hid (slO_fresh tVersionS_law P7_0.out c11)
   replace P7_3 := Lib.hid (slO_fresh tInt_law P7_3.out c11)
   replace P7_4 := Lib.hid (slO_fresh tActive_law P7_4.out c11)
   replace P7_5 := Lib.hid (slO_fresh tFinished_law P7_5.out c11)
   replace P7_6 := Lib.hid (slO_fresh tCharge_law P7_6.out c11)
   replace P9_0 := Lib.hid (slO_fresh tVersionS_law P9_0.out c11)
   replace P9_3 := Lib.hid (slO_fresh tInt_law P9_3.out c11)
   replace P9_4 := Lib.hid (slO_fresh tActive_law P9_4.out c11)
   replace P9_5 := Lib.hid (slO_fresh tFinished_law P9_5.out c11)
   replace P9_6 := Lib.hid (slO_fresh tCharge_law P9_6.out c11)
   replace d := Lib.hid (d.out.trans (c11.mono d.out.size))
   have Z_v11 := Lib.hid (show u10.heap.size ≤ v11.heap.size from c11.size)
   clear c11
   go_wp2
   obtain ⟨p_B0_0, p_B0_1, p_B0_2, p_B0_3, p_B0_4, p_B0_5, p_B0_6, p_B0_7⟩ := cls8 B0.out
   obtain ⟨p_X1_0, p_X1_1, p_X1_2, p_X1_3, p_X1_4, p_X1_5, p_X1_6, p_X1_7⟩ := cls8 X1.out
   refine wp_region_held_drew (S := fun w' => w'.cell? ⟨w.heap.size, 0, none⟩ = some (Value.slice c0_0 x0_0.length k0_0) ∧ w'.cell? ⟨w.heap.size, 1, none⟩ = some (Value.int .i64 a0_1) ∧ w'.cell? ⟨w.heap.size, 2, none⟩ = some (Value.int .i64 a0_2) ∧ w'.cell? ⟨w.heap.size, 3, none⟩ = some (Value.slice c0_3 x0_3.length k0_3) ∧ w'.cell? ⟨w.heap.size, 4, none⟩ = some (Value.slice c0_4 x0_4.length k0_4) ∧ w'.cell? ⟨w.heap.size, 5, none⟩ = some (Value.slice c0_5 x0_5.length k0_5) ∧ w'.cell? ⟨w.heap.size, 6, none⟩ = some (Value.slice c0_6 x0_6.length k0_6) ∧ w'.cell? ⟨w.heap.size, 7, none⟩ = some (Value.int .i64 a0_7) ∧ w'.cell? ⟨v7.heap.size, 0, none⟩ = some (Value.slice ya7_0 x0_0.length yc7_0) ∧ w'.cell? ⟨v7.heap.size, 1, none⟩ = some (Value.int .i64 a0_1) ∧ w'.cell? ⟨v7.heap.size, 2, none⟩ = some (Value.int .i64 a0_2) ∧ w'.cell? ⟨v7.heap.size, 3, none⟩ = some (Value.slice ya7_3 x0_3.length yc7_3) ∧ w'.cell? ⟨v7.heap.size, 4, none⟩ = some (Value.slice ya7_4 x0_4.length yc7_4) ∧ w'.cell? ⟨v7.heap.size, 5, none⟩ = some (Value.slice ya7_5 x0_5.length yc7_5) ∧ w'.cell? ⟨v7.heap.size, 6, none⟩ = some (Value.slice ya7_6 x0_6.length yc7_6) ∧ w'.cell? ⟨v7.heap.size, 7, none⟩ = some (Value.int .i64 a0_7)) (by kernel_rfl) ⟨p_B0_0, p_B0_1, p_B0_2, p_B0_3, p_B0_4, p_B0_5, p_B0_6, p_B0_7, p_X1_0, p_X1_1, p_X1_2, p_X1_3, p_X1_4, p_X1_5, p_X1_6, p_X1_7⟩ (fun hHeld => ?_)
   clear p_B0_0 p_B0_1 p_B0_2 p_B0_3 p_B0_4 p_B0_5 p_B0_6 p_B0_7 p_X1_0 p_X1_1 p_X1_2 p_X1_3 p_X1_4 p_X1_5 p_X1_6 p_X1_7
   have cd12 : Below v11.heap.size v11 v11.drew := below_drew (Below.refl _ _)
   replace B0 := Lib.hid ((cd12.block w.heap.size (Array.getElem?_eq_some_iff.1 B0.out).1).trans B0.out)
   replace B1 := Lib.hid ((cd12.block (w.heap.size + 1) (Array.getElem?_eq_some_iff.1 B1.out).1).trans B1.out)
   replace X1 := Lib.hid ((cd12.block v7.heap.size (Array.getElem?_eq_some_iff.1 X1.out).1).trans X1.out)
   replace X2 := Lib.hid ((cd12.block v9.heap.size (Array.getElem?_eq_some_iff.1 X2.out).1).trans X2.out)
   replace P4_0 := Lib.hid (slO_fresh tVersionS_law P4_0.out cd12)
   replace P4_3 := Lib.hid (slO_fresh tInt_law P4_3.out cd12)
   replace P4_4 := Lib.hid (slO_fresh tActive_law P4_4.out cd12)
   replace P4_5 := Lib.hid (slO_fresh tFinished_law P4_5.out cd12)
   replace P4_6 := Lib.hid (slO_fresh tCharge_law P4_6.out cd12)
   replace P5_0 := Lib.hid (slO_fresh tVersionS_law P5_0.out cd12)
   replace P5_3 := Lib.hid (slO_fresh tInt_law P5_3.out cd12)
   replace P5_4 := Lib.hid (slO_fresh tActive_law P5_4.out cd12)
   replace P5_5 := Lib.hid (slO_fresh tFinished_law P5_5.out cd12)
   replace P5_6 := Lib.hid (slO_fresh tCharge_law P5_6.out cd12)
   replace P7_0 := Lib.hid (slO_fresh tVersionS_law P7_0.out cd12)
   replace P7_3 := Lib.hid (slO_fresh tInt_law P7_3.out cd12)
   replace P7_4 := Lib.hid (slO_fresh tActive_law P7_4.out cd12)
   replace P7_5 := Lib.hid (slO_fresh tFinished_law P7_5.out cd12)
   replace P7_6 := Lib.hid (slO_fresh tCharge_law P7_6.out cd12)
   replace P9_0 := Lib.hid (slO_fresh tVersionS_law P9_0.out cd12)
   replace P9_3 := Lib.hid (slO_fresh tInt_law P9_3.out cd12)
   replace P9_4 := Lib.hid (slO_fresh tActive_law P9_4.out cd12)
   replace P9_5 := Lib.hid (slO_fresh tFinished_law P9_5.out cd12)
   replace P9_6 := Lib.hid (slO_fresh tCharge_law P9_6.out cd12)
   replace d := Lib.hid (d.out.trans (cd12.mono d.out.size))
   clear cd12
   refine tR (i := 0) (v := ?_) ?_ ?_; rotate_left
   ·
    intro w hSw; (try dsimp only at hSw); go_simp; try (with_reducible rfl)
   try simp only [Act.put, lA, lB, lC]
   refine tR (i := 1) (v := ?_) ?_ ?_; rotate_left
   ·
    intro w hSw; (try dsimp only at hSw); go_simp; try (with_reducible rfl)
   try simp only [Act.put, lA, lB, lC]
   refine wpAnyH_ready (rs := [2]) (by kernel_rfl) (by simp) ?_
   refine AllReadyH.cons (o := _) (by simp only [hA, hB, hC]; rfl) (fun K hK => ?_) AllReadyH.nil
   go_simp
   refine (toEngine_T a0_1 a0_2 a0_7 (.slice c0_0 x0_0.length k0_0) (.slice c0_3 x0_3.length k0_3) (.slice c0_4 x0_4.length k0_4) (.slice c0_5 x0_5.length k0_5) (.slice c0_6 x0_6.length k0_6) x0_0 x0_3 x0_4 x0_5 x0_6 (v11.drew) (slR_below tVersionS_law A0_0.out d.out) (slR_below tInt_law A0_3.out d.out) (slR_below tActive_law A0_4.out d.out) (slR_below tFinished_law A0_5.out d.out) (slR_below tCharge_law A0_6.out d.out) S0_0.out S0_3.out S0_4.out S0_5.out S0_6.out).mono ?_
   rintro e v13 ⟨cs, rfl, ow, c13⟩
   replace B0 := Lib.hid ((c13.block w.heap.size (Array.getElem?_eq_some_iff.1 B0.out).1).trans B0.out)
   replace B1 := Lib.hid ((c13.block (w.heap.size + 1) (Array.getElem?_eq_some_iff.1 B1.out).1).trans B1.out)
   replace X1 := Lib.hid ((c13.block v7.heap.size (Array.getElem?_eq_some_iff.1 X1.out).1).trans X1.out)
   replace X2 := Lib.hid ((c13.block v9.heap.size (Array.getElem?_eq_some_iff.1 X2.out).1).trans X2.out)
   replace P4_0 := Lib.hid (slO_fresh tVersionS_law P4_0.out c13)
   replace P4_3 := Lib.hid (slO_fresh tInt_law P4_3.out c13)
   replace P4_4 := Lib.hid (slO_fresh tActive_law P4_4.out c13)
   replace P4_5 := Lib.hid (slO_fresh tFinished_law P4_5.out c13)
   replace P4_6 := Lib.hid (slO_fresh tCharge_law P4_6.out c13)
   replace P5_0 := Lib.hid (slO_fresh tVersionS_law P5_0.out c13)
   replace P5_3 := Lib.hid (slO_fresh tInt_law P5_3.out c13)
   replace P5_4 := Lib.hid (slO_fresh tActive_law P5_4.out c13)
   replace P5_5 := Lib.hid (slO_fresh tFinished_law P5_5.out c13)
   replace P5_6 := Lib.hid (slO_fresh tCharge_law P5_6.out c13)
   replace P7_0 := Lib.hid (slO_fresh tVersionS_law P7_0.out c13)
   replace P7_3 := Lib.hid (slO_fresh tInt_law P7_3.out c13)
   replace P7_4 := Lib.hid (slO_fresh tActive_law P7_4.out c13)
   replace P7_5 := Lib.hid (slO_fresh tFinished_law P7_5.out c13)
   replace P7_6 := Lib.hid (slO_fresh tCharge_law P7_6.out c13)
   replace P9_0 := Lib.hid (slO_fresh tVersionS_law P9_0.out c13)
   replace P9_3 := Lib.hid (slO_fresh tInt_law P9_3.out c13)
   replace P9_4 := Lib.hid (slO_fresh tActive_law P9_4.out c13)
   replace P9_5 := Lib.hid (slO_fresh tFinished_law P9_5.out c13)
   replace P9_6 := Lib.hid (slO_fresh tCharge_law P9_6.out c13)
   replace d := Lib.hid (d.out.trans (c13.mono d.out.size))
   have Z_v13 := Lib.hid (show v11.heap.size ≤ v13.heap.size from c13.size)
   clear c13
   replace ow := tEngine_law.lt ow
   obtain ⟨y13_0, y13_3, y13_4, y13_5, y13_6, K13_0, K13_3, K13_4, K13_5, K13_6, rfl, p13_0, p13_3, p13_4, p13_5, p13_6, w13_0, w13_3, w13_4, w13_5, w13_6, d13_0_3, d13_0_4, d13_0_5, d13_0_6, d13_3_4, d13_3_5, d13_3_6, d13_4_5, d13_4_6, d13_5_6⟩ := tEngine_O ow
   obtain ⟨ya13_0, yc13_0, rfl⟩ := slO_len p13_0
   have P13_0 := Lib.hid p13_0
   have Q13_0 := Lib.hid (fun b h => (show (v11.drew).heap.size ≤ b ∧ b < v13.heap.size from w13_0 b h))
   obtain ⟨ya13_3, yc13_3, rfl⟩ := slO_len p13_3
   have P13_3 := Lib.hid p13_3
   have Q13_3 := Lib.hid (fun b h => (show (v11.drew).heap.size ≤ b ∧ b < v13.heap.size from w13_3 b h))
   obtain ⟨ya13_4, yc13_4, rfl⟩ := slO_len p13_4
   have P13_4 := Lib.hid p13_4
   have Q13_4 := Lib.hid (fun b h => (show (v11.drew).heap.size ≤ b ∧ b < v13.heap.size from w13_4 b h))
   obtain ⟨ya13_5, yc13_5, rfl⟩ := slO_len p13_5
   have P13_5 := Lib.hid p13_5
   have Q13_5 := Lib.hid (fun b h => (show (v11.drew).heap.size ≤ b ∧ b < v13.heap.size from w13_5 b h))
   obtain ⟨ya13_6, yc13_6, rfl⟩ := slO_len p13_6
   have P13_6 := Lib.hid p13_6
   have Q13_6 := Lib.hid (fun b h => (show (v11.drew).heap.size ≤ b ∧ b < v13.heap.size from w13_6 b h))
   have D13_0_3 := Lib.hid d13_0_3
   clear d13_0_3
   have D13_0_4 := Lib.hid d13_0_4
   clear d13_0_4
   have D13_0_5 := Lib.hid d13_0_5
   clear d13_0_5
   have D13_0_6 := Lib.hid d13_0_6
   clear d13_0_6
   have D13_3_4 := Lib.hid d13_3_4
   clear d13_3_4
   have D13_3_5 := Lib.hid d13_3_5
   clear d13_3_5
   have D13_3_6 := Lib.hid d13_3_6
   clear d13_3_6
   have D13_4_5 := Lib.hid d13_4_5
   clear d13_4_5
   have D13_4_6 := Lib.hid d13_4_6
   clear d13_4_6
   have D13_5_6 := Lib.hid d13_5_6
   clear d13_5_6
   clear p13_0 w13_0 p13_3 w13_3 p13_4 w13_4 p13_5 w13_5 p13_6 w13_6 ow
   obtain ⟨p_B0_0, p_B0_1, p_B0_2, p_B0_3, p_B0_4, p_B0_5, p_B0_6, p_B0_7⟩ := cls8 B0.out
   obtain ⟨p_X1_0, p_X1_1, p_X1_2, p_X1_3, p_X1_4, p_X1_5, p_X1_6, p_X1_7⟩ := cls8 X1.out
   refine hK.out _ _ ⟨p_B0_0, p_B0_1, p_B0_2, p_B0_3, p_B0_4, p_B0_5, p_B0_6, p_B0_7, p_X1_0, p_X1_1, p_X1_2, p_X1_3, p_X1_4, p_X1_5, p_X1_6, p_X1_7⟩ (fun hHeld => ?_)
   clear p_B0_0 p_B0_1 p_B0_2 p_B0_3 p_B0_4 p_B0_5 p_B0_6 p_B0_7 p_X1_0 p_X1_1 p_X1_2 p_X1_3 p_X1_4 p_X1_5 p_X1_6 p_X1_7
   clear hK K
   try simp only [Act.put, lA, lB, lC]
   refine wpAnyH_ready (rs := [3]) (by kernel_rfl) (by simp) ?_
   refine AllReadyH.cons (o := _) (by simp only [hA, hB, hC]; rfl) (fun K hK => ?_) AllReadyH.nil
   go_simp
   refine (eqEngine_T a0_1 a0_2 a0_7 (.slice ya7_0 x0_0.length yc7_0) (.slice ya7_3 x0_3.length yc7_3) (.slice ya7_4 x0_4.length yc7_4) (.slice ya7_5 x0_5.length yc7_5) (.slice ya7_6 x0_6.length yc7_6) x0_0 x0_3 x0_4 x0_5 x0_6 (.slice ya13_0 x0_0.length yc13_0) (.slice ya13_3 x0_3.length yc13_3) (.slice ya13_4 x0_4.length yc13_4) (.slice ya13_5 x0_5.length yc13_5) (.slice ya13_6 x0_6.length yc13_6) v13 (slO_reads tVersionS_law P7_0.out) (slO_reads tInt_law P7_3.out) (slO_reads tActive_law P7_4.out) (slO_reads tFinished_law P7_5.out) (slO_reads tCharge_law P7_6.out) (slO_reads tVersionS_law P13_0.out) (slO_reads tInt_law P13_3.out) (slO_reads tActive_law P13_4.out) (slO_reads tFinished_law P13_5.out) (slO_reads tCharge_law P13_6.out) S0_0.out S0_3.out S0_4.out S0_5.out S0_6.out).mono ?_
   rintro e v14 ⟨rfl, c14⟩
   replace B0 := Lib.hid ((c14.block w.heap.size (Array.getElem?_eq_some_iff.1 B0.out).1).trans B0.out)
   replace B1 := Lib.hid ((c14.block (w.heap.size + 1) (Array.getElem?_eq_some_iff.1 B1.out).1).trans B1.out)
   replace X1 := Lib.hid ((c14.block v7.heap.size (Array.getElem?_eq_some_iff.1 X1.out).1).trans X1.out)
   replace X2 := Lib.hid ((c14.block v9.heap.size (Array.getElem?_eq_some_iff.1 X2.out).1).trans X2.out)
   replace P4_0 := Lib.hid (slO_fresh tVersionS_law P4_0.out c14)
   replace P4_3 := Lib.hid (slO_fresh tInt_law P4_3.out c14)
   replace P4_4 := Lib.hid (slO_fresh tActive_law P4_4.out c14)
   replace P4_5 := Lib.hid (slO_fresh tFinished_law P4_5.out c14)
   replace P4_6 := Lib.hid (slO_fresh tCharge_law P4_6.out c14)
   replace P5_0 := Lib.hid (slO_fresh tVersionS_law P5_0.out c14)
   replace P5_3 := Lib.hid (slO_fresh tInt_law P5_3.out c14)
   replace P5_4 := Lib.hid (slO_fresh tActive_law P5_4.out c14)
   replace P5_5 := Lib.hid (slO_fresh tFinished_law P5_5.out c14)
   replace P5_6 := Lib.hid (slO_fresh tCharge_law P5_6.out c14)
   replace P7_0 := Lib.hid (slO_fresh tVersionS_law P7_0.out c14)
   replace P7_3 := Lib.hid (slO_fresh tInt_law P7_3.out c14)
   replace P7_4 := Lib.hid (slO_fresh tActive_law P7_4.out c14)
   replace P7_5 := Lib.hid (slO_fresh tFinished_law P7_5.out c14)
   replace P7_6 := Lib.hid (slO_fresh tCharge_law P7_6.out c14)
   replace P9_0 := Lib.hid (slO_fresh tVersionS_law P9_0.out c14)
   replace P9_3 := Lib.hid (slO_fresh tInt_law P9_3.out c14)
   replace P9_4 := Lib.hid (slO_fresh tActive_law P9_4.out c14)
   replace P9_5 := Lib.hid (slO_fresh tFinished_law P9_5.out c14)
   replace P9_6 := Lib.hid (slO_fresh tCharge_law P9_6.out c14)
   replace P13_0 := Lib.hid (slO_fresh tVersionS_law P13_0.out c14)
   replace P13_3 := Lib.hid (slO_fresh tInt_law P13_3.out c14)
   replace P13_4 := Lib.hid (slO_fresh tActive_law P13_4.out c14)
   replace P13_5 := Lib.hid (slO_fresh tFinished_law P13_5.out c14)
   replace P13_6 := Lib.hid (slO_fresh tCharge_law P13_6.out c14)
   replace d := Lib.hid (d.out.trans (c14.mono d.out.size))
   have Z_v14 := Lib.hid (show v13.heap.size ≤ v14.heap.size from c14.size)
   clear c14
   clear P13_0 P13_3 P13_4 P13_5 P13_6
   obtain ⟨p_B0_0, p_B0_1, p_B0_2, p_B0_3, p_B0_4, p_B0_5, p_B0_6, p_B0_7⟩ := cls8 B0.out
   obtain ⟨p_X1_0, p_X1_1, p_X1_2, p_X1_3, p_X1_4, p_X1_5, p_X1_6, p_X1_7⟩ := cls8 X1.out
   refine hK.out _ _ ⟨p_B0_0, p_B0_1, p_B0_2, p_B0_3, p_B0_4, p_B0_5, p_B0_6, p_B0_7, p_X1_0, p_X1_1, p_X1_2, p_X1_3, p_X1_4, p_X1_5, p_X1_6, p_X1_7⟩ (fun hHeld => ?_)
   clear p_B0_0 p_B0_1 p_B0_2 p_B0_3 p_B0_4 p_B0_5 p_B0_6 p_B0_7 p_X1_0 p_X1_1 p_X1_2 p_X1_3 p_X1_4 p_X1_5 p_X1_6 p_X1_7
   clear hK K
   try simp only [Act.put, lA, lB, lC]
   refine tR (i := 4) (v := ?_) ?_ ?_; rotate_left
   ·
    intro w hSw; (try dsimp only at hSw); go_simp; try (with_reducible rfl)
   try simp only [Act.put, lA, lB, lC]
   refine wpAnyH_done (by kernel_rfl) ?_ _
   clear hHeld
   go_wp2
   obtain ⟨p_B1_0, p_B1_1, p_B1_2, p_B1_3, p_B1_4, p_B1_5, p_B1_6, p_B1_7⟩ := cls8 B1.out
   obtain ⟨p_X2_0, p_X2_1, p_X2_2, p_X2_3, p_X2_4, p_X2_5, p_X2_6, p_X2_7⟩ := cls8 X2.out
   refine wp_region_held_drew (S := fun w' => w'.cell? ⟨(w.heap.size + 1), 0, none⟩ = some (Value.slice c1_0 x1_0.length k1_0) ∧ w'.cell? ⟨(w.heap.size + 1), 1, none⟩ = some (Value.int .i64 a1_1) ∧ w'.cell? ⟨(w.heap.size + 1), 2, none⟩ = some (Value.int .i64 a1_2) ∧ w'.cell? ⟨(w.heap.size + 1), 3, none⟩ = some (Value.slice c1_3 x1_3.length k1_3) ∧ w'.cell? ⟨(w.heap.size + 1), 4, none⟩ = some (Value.slice c1_4 x1_4.length k1_4) ∧ w'.cell? ⟨(w.heap.size + 1), 5, none⟩ = some (Value.slice c1_5 x1_5.length k1_5) ∧ w'.cell? ⟨(w.heap.size + 1), 6, none⟩ = some (Value.slice c1_6 x1_6.length k1_6) ∧ w'.cell? ⟨(w.heap.size + 1), 7, none⟩ = some (Value.int .i64 a1_7) ∧ w'.cell? ⟨v9.heap.size, 0, none⟩ = some (Value.slice ya9_0 x1_0.length yc9_0) ∧ w'.cell? ⟨v9.heap.size, 1, none⟩ = some (Value.int .i64 a1_1) ∧ w'.cell? ⟨v9.heap.size, 2, none⟩ = some (Value.int .i64 a1_2) ∧ w'.cell? ⟨v9.heap.size, 3, none⟩ = some (Value.slice ya9_3 x1_3.length yc9_3) ∧ w'.cell? ⟨v9.heap.size, 4, none⟩ = some (Value.slice ya9_4 x1_4.length yc9_4) ∧ w'.cell? ⟨v9.heap.size, 5, none⟩ = some (Value.slice ya9_5 x1_5.length yc9_5) ∧ w'.cell? ⟨v9.heap.size, 6, none⟩ = some (Value.slice ya9_6 x1_6.length yc9_6) ∧ w'.cell? ⟨v9.heap.size, 7, none⟩ = some (Value.int .i64 a1_7)) (by kernel_rfl) ⟨p_B1_0, p_B1_1, p_B1_2, p_B1_3, p_B1_4, p_B1_5, p_B1_6, p_B1_7, p_X2_0, p_X2_1, p_X2_2, p_X2_3, p_X2_4, p_X2_5, p_X2_6, p_X2_7⟩ (fun hHeld => ?_)
   clear p_B1_0 p_B1_1 p_B1_2 p_B1_3 p_B1_4 p_B1_5 p_B1_6 p_B1_7 p_X2_0 p_X2_1 p_X2_2 p_X2_3 p_X2_4 p_X2_5 p_X2_6 p_X2_7
   have cd15 : Below v14.heap.size v14 v14.drew := below_drew (Below.refl _ _)
   replace B0 := Lib.hid ((cd15.block w.heap.size (Array.getElem?_eq_some_iff.1 B0.out).1).trans B0.out)
   replace B1 := Lib.hid ((cd15.block (w.heap.size + 1) (Array.getElem?_eq_some_iff.1 B1.out).1).trans B1.out)
   replace X1 := Lib.hid ((cd15.block v7.heap.size (Array.getElem?_eq_some_iff.1 X1.out).1).trans X1.out)
   replace X2 := Lib.hid ((cd15.block v9.heap.size (Array.getElem?_eq_some_iff.1 X2.out).1).trans X2.out)
   replace P4_0 := Lib.hid (slO_fresh tVersionS_law P4_0.out cd15)
   replace P4_3 := Lib.hid (slO_fresh tInt_law P4_3.out cd15)
   replace P4_4 := Lib.hid (slO_fresh tActive_law P4_4.out cd15)
   replace P4_5 := Lib.hid (slO_fresh tFinished_law P4_5.out cd15)
   replace P4_6 := Lib.hid (slO_fresh tCharge_law P4_6.out cd15)
   replace P5_0 := Lib.hid (slO_fresh tVersionS_law P5_0.out cd15)
   replace P5_3 := Lib.hid (slO_fresh tInt_law P5_3.out cd15)
   replace P5_4 := Lib.hid (slO_fresh tActive_law P5_4.out cd15)
   replace P5_5 := Lib.hid (slO_fresh tFinished_law P5_5.out cd15)
   replace P5_6 := Lib.hid (slO_fresh tCharge_law P5_6.out cd15)
   replace P7_0 := Lib.hid (slO_fresh tVersionS_law P7_0.out cd15)
   replace P7_3 := Lib.hid (slO_fresh tInt_law P7_3.out cd15)
   replace P7_4 := Lib.hid (slO_fresh tActive_law P7_4.out cd15)
   replace P7_5 := Lib.hid (slO_fresh tFinished_law P7_5.out cd15)
   replace P7_6 := Lib.hid (slO_fresh tCharge_law P7_6.out cd15)
   replace P9_0 := Lib.hid (slO_fresh tVersionS_law P9_0.out cd15)
   replace P9_3 := Lib.hid (slO_fresh tInt_law P9_3.out cd15)
   replace P9_4 := Lib.hid (slO_fresh tActive_law P9_4.out cd15)
   replace P9_5 := Lib.hid (slO_fresh tFinished_law P9_5.out cd15)
   replace P9_6 := Lib.hid (slO_fresh tCharge_law P9_6.out cd15)
   replace d := Lib.hid (d.out.trans (cd15.mono d.out.size))
   clear cd15
   refine tR (i := 0) (v := ?_) ?_ ?_; rotate_left
   ·
    intro w hSw; (try dsimp only at hSw); go_simp; try (with_reducible rfl)
   try simp only [Act.put, lA, lB, lC]
   refine tR (i := 1) (v := ?_) ?_ ?_; rotate_left
   ·
    intro w hSw; (try dsimp only at hSw); go_simp; try (with_reducible rfl)
   try simp only [Act.put, lA, lB, lC]
   refine wpAnyH_ready (rs := [2]) (by kernel_rfl) (by simp) ?_
   refine AllReadyH.cons (o := _) (by simp only [hA, hB, hC]; rfl) (fun K hK => ?_) AllReadyH.nil
   go_simp
   refine (toEngine_T a1_1 a1_2 a1_7 (.slice c1_0 x1_0.length k1_0) (.slice c1_3 x1_3.length k1_3) (.slice c1_4 x1_4.length k1_4) (.slice c1_5 x1_5.length k1_5) (.slice c1_6 x1_6.length k1_6) x1_0 x1_3 x1_4 x1_5 x1_6 (v14.drew) (slR_below tVersionS_law A1_0.out d.out) (slR_below tInt_law A1_3.out d.out) (slR_below tActive_law A1_4.out d.out) (slR_below tFinished_law A1_5.out d.out) (slR_below tCharge_law A1_6.out d.out) S1_0.out S1_3.out S1_4.out S1_5.out S1_6.out).mono ?_
   rintro e v16 ⟨cs, rfl, ow, c16⟩
   replace B0 := Lib.hid ((c16.block w.heap.size (Array.getElem?_eq_some_iff.1 B0.out).1).trans B0.out)
   replace B1 := Lib.hid ((c16.block (w.heap.size + 1) (Array.getElem?_eq_some_iff.1 B1.out).1).trans B1.out)
   replace X1 := Lib.hid ((c16.block v7.heap.size (Array.getElem?_eq_some_iff.1 X1.out).1).trans X1.out)
   replace X2 := Lib.hid ((c16.block v9.heap.size (Array.getElem?_eq_some_iff.1 X2.out).1).trans X2.out)
   replace P4_0 := Lib.hid (slO_fresh tVersionS_law P4_0.out c16)
   replace P4_3 := Lib.hid (slO_fresh tInt_law P4_3.out c16)
   replace P4_4 := Lib.hid (slO_fresh tActive_law P4_4.out c16)
   replace P4_5 := Lib.hid (slO_fresh tFinished_law P4_5.out c16)
   replace P4_6 := Lib.hid (slO_fresh tCharge_law P4_6.out c16)
   replace P5_0 := Lib.hid (slO_fresh tVersionS_law P5_0.out c16)
   replace P5_3 := Lib.hid (slO_fresh tInt_law P5_3.out c16)
   replace P5_4 := Lib.hid (slO_fresh tActive_law P5_4.out c16)
   replace P5_5 := Lib.hid (slO_fresh tFinished_law P5_5.out c16)
   replace P5_6 := Lib.hid (slO_fresh tCharge_law P5_6.out c16)
   replace P7_0 := Lib.hid (slO_fresh tVersionS_law P7_0.out c16)
   replace P7_3 := Lib.hid (slO_fresh tInt_law P7_3.out c16)
   replace P7_4 := Lib.hid (slO_fresh tActive_law P7_4.out c16)
   replace P7_5 := Lib.hid (slO_fresh tFinished_law P7_5.out c16)
   replace P7_6 := Lib.hid (slO_fresh tCharge_law P7_6.out c16)
   replace P9_0 := Lib.hid (slO_fresh tVersionS_law P9_0.out c16)
   replace P9_3 := Lib.hid (slO_fresh tInt_law P9_3.out c16)
   replace P9_4 := Lib.hid (slO_fresh tActive_law P9_4.out c16)
   replace P9_5 := Lib.hid (slO_fresh tFinished_law P9_5.out c16)
   replace P9_6 := Lib.hid (slO_fresh tCharge_law P9_6.out c16)
   replace d := Lib.hid (d.out.trans (c16.mono d.out.size))
   have Z_v16 := Lib.hid (show v14.heap.size ≤ v16.heap.size from c16.size)
   clear c16
   replace ow := tEngine_law.lt ow
   obtain ⟨y16_0, y16_3, y16_4, y16_5, y16_6, K16_0, K16_3, K16_4, K16_5, K16_6, rfl, p16_0, p16_3, p16_4, p16_5, p16_6, w16_0, w16_3, w16_4, w16_5, w16_6, d16_0_3, d16_0_4, d16_0_5, d16_0_6, d16_3_4, d16_3_5, d16_3_6, d16_4_5, d16_4_6, d16_5_6⟩ := tEngine_O ow
   obtain ⟨ya16_0, yc16_0, rfl⟩ := slO_len p16_0
   have P16_0 := Lib.hid p16_0
   have Q16_0 := Lib.hid (fun b h => (show (v14.drew).heap.size ≤ b ∧ b < v16.heap.size from w16_0 b h))
   obtain ⟨ya16_3, yc16_3, rfl⟩ := slO_len p16_3
   have P16_3 := Lib.hid p16_3
   have Q16_3 := Lib.hid (fun b h => (show (v14.drew).heap.size ≤ b ∧ b < v16.heap.size from w16_3 b h))
   obtain ⟨ya16_4, yc16_4, rfl⟩ := slO_len p16_4
   have P16_4 := Lib.hid p16_4
   have Q16_4 := Lib.hid (fun b h => (show (v14.drew).heap.size ≤ b ∧ b < v16.heap.size from w16_4 b h))
   obtain ⟨ya16_5, yc16_5, rfl⟩ := slO_len p16_5
   have P16_5 := Lib.hid p16_5
   have Q16_5 := Lib.hid (fun b h => (show (v14.drew).heap.size ≤ b ∧ b < v16.heap.size from w16_5 b h))
   obtain ⟨ya16_6, yc16_6, rfl⟩ := slO_len p16_6
   have P16_6 := Lib.hid p16_6
   have Q16_6 := Lib.hid (fun b h => (show (v14.drew).heap.size ≤ b ∧ b < v16.heap.size from w16_6 b h))
   have D16_0_3 := Lib.hid d16_0_3
   clear d16_0_3
   have D16_0_4 := Lib.hid d16_0_4
   clear d16_0_4
   have D16_0_5 := Lib.hid d16_0_5
   clear d16_0_5
   have D16_0_6 := Lib.hid d16_0_6
   clear d16_0_6
   have D16_3_4 := Lib.hid d16_3_4
   clear d16_3_4
   have D16_3_5 := Lib.hid d16_3_5
   clear d16_3_5
   have D16_3_6 := Lib.hid d16_3_6
   clear d16_3_6
   have D16_4_5 := Lib.hid d16_4_5
   clear d16_4_5
   have D16_4_6 := Lib.hid d16_4_6
   clear d16_4_6
   have D16_5_6 := Lib.hid d16_5_6
   clear d16_5_6
   clear p16_0 w16_0 p16_3 w16_3 p16_4 w16_4 p16_5 w16_5 p16_6 w16_6 ow
   obtain ⟨p_B1_0, p_B1_1, p_B1_2, p_B1_3, p_B1_4, p_B1_5, p_B1_6, p_B1_7⟩ := cls8 B1.out
   obtain ⟨p_X2_0, p_X2_1, p_X2_2, p_X2_3, p_X2_4, p_X2_5, p_X2_6, p_X2_7⟩ := cls8 X2.out
   refine hK.out _ _ ⟨p_B1_0, p_B1_1, p_B1_2, p_B1_3, p_B1_4, p_B1_5, p_B1_6, p_B1_7, p_X2_0, p_X2_1, p_X2_2, p_X2_3, p_X2_4, p_X2_5, p_X2_6, p_X2_7⟩ (fun hHeld => ?_)
   clear p_B1_0 p_B1_1 p_B1_2 p_B1_3 p_B1_4 p_B1_5 p_B1_6 p_B1_7 p_X2_0 p_X2_1 p_X2_2 p_X2_3 p_X2_4 p_X2_5 p_X2_6 p_X2_7
   clear hK K
   try simp only [Act.put, lA, lB, lC]
   refine wpAnyH_ready (rs := [3]) (by kernel_rfl) (by simp) ?_
   refine AllReadyH.cons (o := _) (by simp only [hA, hB, hC]; rfl) (fun K hK => ?_) AllReadyH.nil
   go_simp
   refine (eqEngine_T a1_1 a1_2 a1_7 (.slice ya9_0 x1_0.length yc9_0) (.slice ya9_3 x1_3.length yc9_3) (.slice ya9_4 x1_4.length yc9_4) (.slice ya9_5 x1_5.length yc9_5) (.slice ya9_6 x1_6.length yc9_6) x1_0 x1_3 x1_4 x1_5 x1_6 (.slice ya16_0 x1_0.length yc16_0) (.slice ya16_3 x1_3.length yc16_3) (.slice ya16_4 x1_4.length yc16_4) (.slice ya16_5 x1_5.length yc16_5) (.slice ya16_6 x1_6.length yc16_6) v16 (slO_reads tVersionS_law P9_0.out) (slO_reads tInt_law P9_3.out) (slO_reads tActive_law P9_4.out) (slO_reads tFinished_law P9_5.out) (slO_reads tCharge_law P9_6.out) (slO_reads tVersionS_law P16_0.out) (slO_reads tInt_law P16_3.out) (slO_reads tActive_law P16_4.out) (slO_reads tFinished_law P16_5.out) (slO_reads tCharge_law P16_6.out) S1_0.out S1_3.out S1_4.out S1_5.out S1_6.out).mono ?_
   rintro e v17 ⟨rfl, c17⟩
   replace B0 := Lib.hid ((c17.block w.heap.size (Array.getElem?_eq_some_iff.1 B0.out).1).trans B0.out)
   replace B1 := Lib.hid ((c17.block (w.heap.size + 1) (Array.getElem?_eq_some_iff.1 B1.out).1).trans B1.out)
   replace X1 := Lib.hid ((c17.block v7.heap.size (Array.getElem?_eq_some_iff.1 X1.out).1).trans X1.out)
   replace X2 := Lib.hid ((c17.block v9.heap.size (Array.getElem?_eq_some_iff.1 X2.out).1).trans X2.out)
   replace P4_0 := Lib.hid (slO_fresh tVersionS_law P4_0.out c17)
   replace P4_3 := Lib.hid (slO_fresh tInt_law P4_3.out c17)
   replace P4_4 := Lib.hid (slO_fresh tActive_law P4_4.out c17)
   replace P4_5 := Lib.hid (slO_fresh tFinished_law P4_5.out c17)
   replace P4_6 := Lib.hid (slO_fresh tCharge_law P4_6.out c17)
   replace P5_0 := Lib.hid (slO_fresh tVersionS_law P5_0.out c17)
   replace P5_3 := Lib.hid (slO_fresh tInt_law P5_3.out c17)
   replace P5_4 := Lib.hid (slO_fresh tActive_law P5_4.out c17)
   replace P5_5 := Lib.hid (slO_fresh tFinished_law P5_5.out c17)
   replace P5_6 := Lib.hid (slO_fresh tCharge_law P5_6.out c17)
   replace P7_0 := Lib.hid (slO_fresh tVersionS_law P7_0.out c17)
   replace P7_3 := Lib.hid (slO_fresh tInt_law P7_3.out c17)
   replace P7_4 := Lib.hid (slO_fresh tActive_law P7_4.out c17)
   replace P7_5 := Lib.hid (slO_fresh tFinished_law P7_5.out c17)
   replace P7_6 := Lib.hid (slO_fresh tCharge_law P7_6.out c17)
   replace P9_0 := Lib.hid (slO_fresh tVersionS_law P9_0.out c17)
   replace P9_3 := Lib.hid (slO_fresh tInt_law P9_3.out c17)
   replace P9_4 := Lib.hid (slO_fresh tActive_law P9_4.out c17)
   replace P9_5 := Lib.hid (slO_fresh tFinished_law P9_5.out c17)
   replace P9_6 := Lib.hid (slO_fresh tCharge_law P9_6.out c17)
   replace P16_0 := Lib.hid (slO_fresh tVersionS_law P16_0.out c17)
   replace P16_3 := Lib.hid (slO_fresh tInt_law P16_3.out c17)
   replace P16_4 := Lib.hid (slO_fresh tActive_law P16_4.out c17)
   replace P16_5 := Lib.hid (slO_fresh tFinished_law P16_5.out c17)
   replace P16_6 := Lib.hid (slO_fresh tCharge_law P16_6.out c17)
   replace d := Lib.hid (d.out.trans (c17.mono d.out.size))
   have Z_v17 := Lib.hid (show v16.heap.size ≤ v17.heap.size from c17.size)
   clear c17
   clear P16_0 P16_3 P16_4 P16_5 P16_6
   obtain ⟨p_B1_0, p_B1_1, p_B1_2, p_B1_3, p_B1_4, p_B1_5, p_B1_6, p_B1_7⟩ := cls8 B1.out
   obtain ⟨p_X2_0, p_X2_1, p_X2_2, p_X2_3, p_X2_4, p_X2_5, p_X2_6, p_X2_7⟩ := cls8 X2.out
   refine hK.out _ _ ⟨p_B1_0, p_B1_1, p_B1_2, p_B1_3, p_B1_4, p_B1_5, p_B1_6, p_B1_7, p_X2_0, p_X2_1, p_X2_2, p_X2_3, p_X2_4, p_X2_5, p_X2_6, p_X2_7⟩ (fun hHeld => ?_)
   clear p_B1_0 p_B1_1 p_B1_2 p_B1_3 p_B1_4 p_B1_5 p_B1_6 p_B1_7 p_X2_0 p_X2_1 p_X2_2 p_X2_3 p_X2_4 p_X2_5 p_X2_6 p_X2_7
   clear hK K
   try simp only [Act.put, lA, lB, lC]
   refine tR (i := 4) (v := ?_) ?_ ?_; rotate_left
   ·
    intro w hSw; (try dsimp only at hSw); go_simp; try (with_reducible rfl)
   try simp only [Act.put, lA, lB, lC]
   refine wpAnyH_done (by kernel_rfl) ?_ _
   clear hHeld
   go_wp2
   go_ret
   exact ⟨rfl, HB0.out.trans (d.out.mono HB0.out.size)⟩
  ·
   have HZ0 : Hid (((zL tVersionS x0_0 + zL tInt x0_3 + zL tActive x0_4 + zL tFinished x0_5 + zL tCharge x0_6 : Nat) : Int) ≤ (1048576 : Int)) := Lib.hid c0
   have HK0 : Hid ((1048576 : Int) ≤ 1048576) := Lib.hid (by omega)
   have hn0 : ¬ (1048576 : Int) - ((zL tVersionS x0_0 + zL tInt x0_3 + zL tActive x0_4 + zL tFinished x0_5 + zL tCharge x0_6 : Nat) : Int) < 0 := by omega
   have HZ1 : Hid ((1048576 : Int) - ((zL tVersionS x0_0 + zL tInt x0_3 + zL tActive x0_4 + zL tFinished x0_5 + zL tCharge x0_6 : Nat) : Int) < ((zL tVersionS x1_0 + zL tInt x1_3 + zL tActive x1_4 + zL tFinished x1_5 + zL tCharge x1_6 : Nat) : Int)) := Lib.hid (by omega)
   have HP1 : Hid (0 ≤ (1048576 : Int) - ((zL tVersionS x0_0 + zL tInt x0_3 + zL tActive x0_4 + zL tFinished x0_5 + zL tCharge x0_6 : Nat) : Int)) := Lib.hid (by omega)
   have HK1 : Hid ((1048576 : Int) - ((zL tVersionS x0_0 + zL tInt x0_3 + zL tActive x0_4 + zL tFinished x0_5 + zL tCharge x0_6 : Nat) : Int) ≤ 1048576) := Lib.hid (by omega)
   clear c1
   go_enter Try.func6, Try.ntmps6
   go_wp2_with fail
   have Y_W : Hid (w.heap.size + 2 ≤ ((w.alloc (.cells #[.slice c0_0 x0_0.length k0_0, .int .i64 a0_1, .int .i64 a0_2, .slice c0_3 x0_3.length k0_3, .slice c0_4 x0_4.length k0_4, .slice c0_5 x0_5.length k0_5, .slice c0_6 x0_6.length k0_6, .int .i64 a0_7] 52)).alloc (.cells #[.slice c1_0 x1_0.length k1_0, .int .i64 a1_1, .int .i64 a1_2, .slice c1_3 x1_3.length k1_3, .slice c1_4 x1_4.length k1_4, .slice c1_5 x1_5.length k1_5, .slice c1_6 x1_6.length k1_6, .int .i64 a1_7] 52)).heap.size) := Lib.hid (by simp [World.size_alloc])
   generalize ((w.alloc (.cells #[.slice c0_0 x0_0.length k0_0, .int .i64 a0_1, .int .i64 a0_2, .slice c0_3 x0_3.length k0_3, .slice c0_4 x0_4.length k0_4, .slice c0_5 x0_5.length k0_5, .slice c0_6 x0_6.length k0_6, .int .i64 a0_7] 52)).alloc (.cells #[.slice c1_0 x1_0.length k1_0, .int .i64 a1_1, .int .i64 a1_2, .slice c1_3 x1_3.length k1_3, .slice c1_4 x1_4.length k1_4, .slice c1_5 x1_5.length k1_5, .slice c1_6 x1_6.length k1_6, .int .i64 a1_7] 52)) = W at *
   have d := Lib.hid (Below.refl W.heap.size W)
   refine (szEngine_Y a0_1 a0_2 a0_7 (.slice c0_0 x0_0.length k0_0) (.slice c0_3 x0_3.length k0_3) (.slice c0_4 x0_4.length k0_4) (.slice c0_5 x0_5.length k0_5) (.slice c0_6 x0_6.length k0_6) x0_0 x0_3 x0_4 x0_5 x0_6 ((1048576 : Int)) W (slR_below tVersionS_law A0_0.out d.out) (slR_below tInt_law A0_3.out d.out) (slR_below tActive_law A0_4.out d.out) (slR_below tFinished_law A0_5.out d.out) (slR_below tCharge_law A0_6.out d.out) HZ0.out HK0.out).mono ?_
   rintro e v1 ⟨rfl, c1⟩
   replace B0 := Lib.hid ((c1.block w.heap.size (Array.getElem?_eq_some_iff.1 B0.out).1).trans B0.out)
   replace B1 := Lib.hid ((c1.block (w.heap.size + 1) (Array.getElem?_eq_some_iff.1 B1.out).1).trans B1.out)
   replace d := Lib.hid (d.out.trans (c1.mono d.out.size))
   have Z_v1 := Lib.hid (show W.heap.size ≤ v1.heap.size from c1.size)
   clear c1
   obtain ⟨p_B1_0, p_B1_1, p_B1_2, p_B1_3, p_B1_4, p_B1_5, p_B1_6, p_B1_7⟩ := cls8 B1.out
   go_wp2_with fail
   clear p_B1_0 p_B1_1 p_B1_2 p_B1_3 p_B1_4 p_B1_5 p_B1_6 p_B1_7
   refine (szEngine_N a1_1 a1_2 a1_7 (.slice c1_0 x1_0.length k1_0) (.slice c1_3 x1_3.length k1_3) (.slice c1_4 x1_4.length k1_4) (.slice c1_5 x1_5.length k1_5) (.slice c1_6 x1_6.length k1_6) x1_0 x1_3 x1_4 x1_5 x1_6 ((1048576 : Int) - ((zL tVersionS x0_0 + zL tInt x0_3 + zL tActive x0_4 + zL tFinished x0_5 + zL tCharge x0_6 : Nat) : Int)) v1 (slR_below tVersionS_law A1_0.out d.out) (slR_below tInt_law A1_3.out d.out) (slR_below tActive_law A1_4.out d.out) (slR_below tFinished_law A1_5.out d.out) (slR_below tCharge_law A1_6.out d.out) HZ1.out HK1.out HP1.out O1_0.out O1_3.out O1_4.out O1_5.out O1_6.out).mono ?_
   rintro e v2 ⟨rfl, c2⟩
   replace B0 := Lib.hid ((c2.block w.heap.size (Array.getElem?_eq_some_iff.1 B0.out).1).trans B0.out)
   replace B1 := Lib.hid ((c2.block (w.heap.size + 1) (Array.getElem?_eq_some_iff.1 B1.out).1).trans B1.out)
   replace d := Lib.hid (d.out.trans (c2.mono d.out.size))
   have Z_v2 := Lib.hid (show v1.heap.size ≤ v2.heap.size from c2.size)
   clear c2
   go_wp2
   go_ret
   exact ⟨rfl, HB0.out.trans (d.out.mono HB0.out.size)⟩
 ·
  have HZ0 : Hid ((1048576 : Int) < ((zL tVersionS x0_0 + zL tInt x0_3 + zL tActive x0_4 + zL tFinished x0_5 + zL tCharge x0_6 : Nat) : Int)) := Lib.hid (by omega)
  have HP0 : Hid (0 ≤ (1048576 : Int)) := Lib.hid (by omega)
  have HK0 : Hid ((1048576 : Int) ≤ 1048576) := Lib.hid (by omega)
  clear c0
  go_enter Try.func6, Try.ntmps6
  go_wp2_with fail
  have Y_W : Hid (w.heap.size + 2 ≤ ((w.alloc (.cells #[.slice c0_0 x0_0.length k0_0, .int .i64 a0_1, .int .i64 a0_2, .slice c0_3 x0_3.length k0_3, .slice c0_4 x0_4.length k0_4, .slice c0_5 x0_5.length k0_5, .slice c0_6 x0_6.length k0_6, .int .i64 a0_7] 52)).alloc (.cells #[.slice c1_0 x1_0.length k1_0, .int .i64 a1_1, .int .i64 a1_2, .slice c1_3 x1_3.length k1_3, .slice c1_4 x1_4.length k1_4, .slice c1_5 x1_5.length k1_5, .slice c1_6 x1_6.length k1_6, .int .i64 a1_7] 52)).heap.size) := Lib.hid (by simp [World.size_alloc])
  generalize ((w.alloc (.cells #[.slice c0_0 x0_0.length k0_0, .int .i64 a0_1, .int .i64 a0_2, .slice c0_3 x0_3.length k0_3, .slice c0_4 x0_4.length k0_4, .slice c0_5 x0_5.length k0_5, .slice c0_6 x0_6.length k0_6, .int .i64 a0_7] 52)).alloc (.cells #[.slice c1_0 x1_0.length k1_0, .int .i64 a1_1, .int .i64 a1_2, .slice c1_3 x1_3.length k1_3, .slice c1_4 x1_4.length k1_4, .slice c1_5 x1_5.length k1_5, .slice c1_6 x1_6.length k1_6, .int .i64 a1_7] 52)) = W at *
  have d := Lib.hid (Below.refl W.heap.size W)
  refine (szEngine_N a0_1 a0_2 a0_7 (.slice c0_0 x0_0.length k0_0) (.slice c0_3 x0_3.length k0_3) (.slice c0_4 x0_4.length k0_4) (.slice c0_5 x0_5.length k0_5) (.slice c0_6 x0_6.length k0_6) x0_0 x0_3 x0_4 x0_5 x0_6 ((1048576 : Int)) W (slR_below tVersionS_law A0_0.out d.out) (slR_below tInt_law A0_3.out d.out) (slR_below tActive_law A0_4.out d.out) (slR_below tFinished_law A0_5.out d.out) (slR_below tCharge_law A0_6.out d.out) HZ0.out HK0.out HP0.out O0_0.out O0_3.out O0_4.out O0_5.out O0_6.out).mono ?_
  rintro e v1 ⟨rfl, c1⟩
  replace B0 := Lib.hid ((c1.block w.heap.size (Array.getElem?_eq_some_iff.1 B0.out).1).trans B0.out)
  replace B1 := Lib.hid ((c1.block (w.heap.size + 1) (Array.getElem?_eq_some_iff.1 B1.out).1).trans B1.out)
  replace d := Lib.hid (d.out.trans (c1.mono d.out.size))
  have Z_v1 := Lib.hid (show W.heap.size ≤ v1.heap.size from c1.size)
  clear c1
  go_wp2
  go_ret
  exact ⟨rfl, HB0.out.trans (d.out.mono HB0.out.size)⟩
end Go.Proofs.Ytdhglmoanpkeoaa
