/-
  For every argument, EqualEngines answers as the specification does, in memory of its own, and writes no argument; no condition.
-/
import Derived.Test.YtdhglmoanpkeoaaEQ10
import Derived.Test.YtdhglmoanpkeoaaEQ11
import Derived.Test.YtdhglmoanpkeoaaEQ12
import Derived.WalkKit
import Derived.ProofKit
import Derived.OpenShut
namespace Go.Proofs.Ytdhglmoanpkeoaa
open Go.ChangeShapes Go.WideShapes Go.ChangeAt Go.WideMaps Go.WideElems Go.RowKit
open Go.ChangeMaps (open_string shut_string)
set_option linter.unusedVariables false
namespace fnExactEqualEngines
theorem own : ownKnob Try.prog.godebug = none := by kernel_rfl
set_option maxRecDepth 100000 in
theorem lifted (os : Os) (started : os.Started) (H : Type) (enc : TypeId × Value → H) :
    ReturnsInHanded {} Try.checked os 6 .any (Rows.fnExactEqualEnginesSpec.pre6 enc Try.prog Try.f6 Rows.fnExactEqualEnginesRow.domain false) (Rows.fnExactEqualEnginesSpec.post enc Try.prog Try.f6 false true false false) := by
  refine returnsInHanded_of_change (C := Try.checked) own started (by kernel_rfl) Try.func6
    (ChangeSpec.witness6 (enc := enc) (C := Try.checked) false ⟨#[], #[.agg #[.slice none 0 0, .int .i64 0, .int .i64 0, .slice none 0 0, .slice none 0 0, .slice none 0 0, .slice none 0 0, .int .i64 0], .agg #[.slice none 0 0, .int .i64 0, .int .i64 0, .slice none 0 0, .slice none 0 0, .slice none 0 0, .slice none 0 0, .int .i64 0]], []⟩ 8 (by kernel_rfl) (by kernel_rfl) (by kernel_rfl) (by kernel_rfl)) ?_
  intro W base args ds gs before hval0 hW hcnd _
  have hval : ∀ (j : Nat) t v, Try.f6.params[j]? = some t → args[j]? = some v → Value.okWide Try.prog W .any base t v := hval0
  have hW' := hW
  obtain ⟨p, q, hA0, hV, rfl, hfz, hnd⟩ := hW
  have hA : DataW.TrodAll enc Try.prog W 0 (fun _ => true) true Try.f6.params.toList args.toList ds p := hA0
  rw [Try.params6] at hA hval
  obtain ⟨v0, vs0, d0, ds0, p0, q0, hargs, rfl, rfl, h0, r0⟩ := trodAll_cons hA
  obtain ⟨v1, vs1, d1, ds1, p1, q1, rfl, rfl, rfl, h1, r1⟩ := trodAll_cons r0
  obtain ⟨rfl, rfl, rfl⟩ := trodAll_nil r1
  obtain rfl : args = #[v0, v1] := by cases args; simp_all
  obtain ⟨rfl, rfl⟩ := trodVars_none hV
  obtain ⟨cs0, x0, rfl, g0, m0⟩ := stA_open opn_Engine Try.underlying52 (hval 0 52 v0 rfl rfl) h0
  obtain ⟨⟨x0_0, a0_1⟩, a0_2, x0_3, x0_4, x0_5, x0_6, a0_7⟩ := x0
  obtain ⟨v0_0, v0_3, v0_4, v0_5, v0_6, k0⟩ := tEngine_R g0
  obtain ⟨rfl, h0_0, h0_3, h0_4, h0_5, h0_6⟩ := k0
  obtain ⟨⟨o0_0, _⟩, ⟨_, ⟨o0_3, ⟨o0_4, ⟨o0_5, ⟨o0_6, _⟩⟩⟩⟩⟩⟩ := m0
  obtain ⟨cs1, x1, rfl, g1, m1⟩ := stA_open opn_Engine Try.underlying52 (hval 1 52 v1 rfl rfl) h1
  obtain ⟨⟨x1_0, a1_1⟩, a1_2, x1_3, x1_4, x1_5, x1_6, a1_7⟩ := x1
  obtain ⟨v1_0, v1_3, v1_4, v1_5, v1_6, k1⟩ := tEngine_R g1
  obtain ⟨rfl, h1_0, h1_3, h1_4, h1_5, h1_6⟩ := k1
  obtain ⟨⟨o1_0, _⟩, ⟨_, ⟨o1_3, ⟨o1_4, ⟨o1_5, ⟨o1_6, _⟩⟩⟩⟩⟩⟩ := m1
  clear hA0 hval0
  simp only [List.append_nil] at hW'
  have l0 : ∀ x ∈ p0, x.block < W.heap.size := fun x hx => by simpa using hW'.lt x (by simp [hx])
  have l1 : ∀ x ∈ p1, x.block < W.heap.size := fun x hx => by simpa using hW'.lt x (by simp [hx])
  refine (law_fnExactEqualEngines a0_1 a0_2 a0_7 v0_0 v0_3 v0_4 v0_5 v0_6 x0_0 x0_3 x0_4 x0_5 x0_6 a1_1 a1_2 a1_7 v1_0 v1_3 v1_4 v1_5 v1_6 x1_0 x1_3 x1_4 x1_5 x1_6 (decide ((((x0_0, a0_1), a0_2, x0_3, x0_4, x0_5, x0_6, a0_7) : EngD) = ((x1_0, a1_1), a1_2, x1_3, x1_4, x1_5, x1_6, a1_7))) W h0_0 h0_3 h0_4 h0_5 h0_6 h1_0 h1_3 h1_4 h1_5 h1_6 o0_0 o0_3 o0_4 o0_5 o0_6 o1_0 o1_3 o1_4 o1_5 o1_6  (fun v0 v3 v4 v5 v6 u0 u3 u4 u5 u6 w h0 h3 h4 h5 h6 g0 g3 g4 g5 g6 hz => specEqualEngines a0_1 a0_2 a0_7 a1_1 a1_2 a1_7 v0 v3 v4 v5 v6 u0 u3 u4 u5 u6 x0_0 x1_0 x0_3 x1_3 x0_4 x1_4 x0_5 x1_5 x0_6 x1_6 w h0 h3 h4 h5 h6 (by omega) g0 g3 g4 g5 g6 (by omega)) (fun v0 v3 v4 v5 v6 u0 u3 u4 u5 u6 w h0 h3 h4 h5 h6 g0 g3 g4 g5 g6 hz => implEqualEngines a0_1 a0_2 a0_7 a1_1 a1_2 a1_7 v0 v3 v4 v5 v6 u0 u3 u4 u5 u6 x0_0 x1_0 x0_3 x1_3 x0_4 x1_4 x0_5 x1_5 x0_6 x1_6 w h0 h3 h4 h5 h6 (by omega) g0 g3 g4 g5 g6 (by omega))).mono fun e W' ⟨he, hb⟩ => ?_
  subst he
  exact ⟨_, rfl, _, _, _, [], _, [], hW', (trodAll_cons_mk (shut_bool Try.underlying4 _) trodAll_mk0), (trodAll_cons_mk (shut_Engine h0 hb l0) (trodAll_cons_mk (shut_Engine h1 hb l1) trodAll_mk0)), rfl, hb.frame _, fun h => by cases h⟩
theorem proved : Rows.FnExactEqualEnginesSaid :=
  OpenClaim.holds_of_wide 6 Try.f6 rfl rfl rfl rfl rfl rfl rfl ⟨rfl, rfl, rfl, rfl, rfl⟩ rfl rfl rfl rfl rfl (by kernel_rfl) Try.func6 (by kernel_rfl)
    (of_decide_eq_true (by kernel_rfl)) (by unfold Func.isWrapper; first | (rw [if_pos (by decide +kernel)]; kernel_rfl) | (rw [if_neg (by decide +kernel)]; exact ⟨rfl, rfl⟩))
    (fun os started H enc _ => lifted os started H enc)
end fnExactEqualEngines
end Go.Proofs.Ytdhglmoanpkeoaa
