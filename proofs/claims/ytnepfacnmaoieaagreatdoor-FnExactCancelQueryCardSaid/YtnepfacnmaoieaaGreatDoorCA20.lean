/-
 Texts of the proof, merged: KEngine.
-/
import Derived.Test.YtnepfacnmaoieaaGreatDoorCA4
import Derived.Test.YtnepfacnmaoieaaGreatDoorCA15
namespace Go.Proofs.YtnepfacnmaoieaaGreatDoor
open Go.RowKit
set_option linter.unusedVariables false
set_option linter.unusedSimpArgs false
theorem markK_Engine {cs : List Value} {x : _} {F : Nat → Prop} (k : Int) {w : World} (h : Kf.O w F cs x) (hs : Ev x) (k0 : 0 ≤ k) (k1 : k ≤ 268435456) :
  Calls Tryz.prog 28 #[.agg cs.toArray, .int .i64 k] w fun e w' => e = .returned (.int .i64 (k + (Kf.nv x : Int))) ∧ Kf.O w' F cs (Kf.mv x k) ∧ Kb F w w' := by
 obtain ⟨⟨x0, a1⟩, a2, x3, x4, x5, x6, a7⟩ := x
 obtain ⟨v0, v3, v4, v5, v6, ety3, F0, F3, F4, F5, F6, rfl, h0, h3, h4, h5, h6, q0, q3, q4, q5, q6, d0_3, d0_4, d0_5, d0_6, d3_4, d3_5, d3_6, d4_5, d4_6, d5_6⟩ := tEngine_O h
 obtain ⟨l0, l3, l4, l5, l6⟩ := hs
 refine (markEngine_T _ _ _ _ _ _ _ _ _ _ _ _ _ F _ _ _ _ _ k _ h0 h3 h4 h5 h6 q0 q3 q4 q5 q6 d0_3 d0_4 d0_5 d0_6 d3_4 d3_5 d3_6 d4_5 d4_6 d5_6 l0 l3 l4 l5 l6 k0 (by omega)).mono ?_
 rintro e w' ⟨rfl, ⟨m0, m3, m4, m5, m6⟩, c⟩
 refine ⟨Vc (by rw [tEngine_nv]; omega), ?_, c⟩
 rw [tEngine_mv]
 exact tEngine_mkO m0 m3 m4 m5 m6 q0 q3 q4 q5 q6 d0_3 d0_4 d0_5 d0_6 d3_4 d3_5 d3_6 d4_5 d4_6 d5_6
theorem heldK_Engine {cs : List Value} {x : _} (k : Int) {w : World} (h : Kf.R w cs (Kf.mv x k)) (hs : Ev x) (k0 : 0 ≤ k) (k1 : k ≤ 268435456) :
  Calls Tryz.prog 34 #[.agg cs.toArray, .int .i64 k] w fun e w' => e = .returned (.int .i64 (k + (Kf.nv x : Int))) ∧ Below w w w' := by
 obtain ⟨⟨x0, a1⟩, a2, x3, x4, x5, x6, a7⟩ := x
 rw [tEngine_mv] at h
 obtain ⟨v0, v3, v4, v5, v6, rfl, h0, h3, h4, h5, h6⟩ := tEngine_R h
 obtain ⟨l0, l3, l4, l5, l6⟩ := hs
 refine (heldEngine_T _ _ _ _ _ _ _ _ _ _ _ _ _ k _ h0 h3 h4 h5 h6 l0 l3 l4 l5 l6 k0 (by omega)).mono ?_
 rintro e w' ⟨rfl, c⟩
 exact ⟨Vc (by rw [tEngine_nv]; omega), c⟩
theorem nvEngine_le {x : (List (List (Int × List Int × Int × Int)) × Int) × Int × List Int × List ((Int × Int × List (Int × Int × Int) × List Int) × Int × List Int × Int × Int × Int × List (Int × List Int)) × List ((Int × Int × List (Int × Int × Int) × List Int) × Int × Int × List (Int × List Int)) × List (Int × Int × List Int × List Int × List Int) × Int} (hs : Ev x) : Kf.nv x ≤ 83886080 := by
 obtain ⟨⟨x0, a1⟩, a2, x3, x4, x5, x6, a7⟩ := x
 obtain ⟨l0, l3, l4, l5, l6⟩ := hs
 rw [tEngine_nv]
 have := Vd Jf (by decide) x0; have l0 : zL Jd x0 ≤ 1048576 := l0
 have := Vd Jc (by decide) x3; have l3 : zL Je x3 ≤ 1048576 := l3
 have := Vd Jj (by decide) x4; have l4 : zL Ji x4 ≤ 1048576 := l4
 have := Vd Jn (by decide) x5; have l5 : zL Jg x5 ≤ 1048576 := l5
 have := Vd Jr (by decide) x6; have l6 : zL Jo x6 ≤ 1048576 := l6
 omega
end Go.Proofs.YtnepfacnmaoieaaGreatDoor
