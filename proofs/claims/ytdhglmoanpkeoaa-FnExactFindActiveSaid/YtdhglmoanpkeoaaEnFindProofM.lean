/-
  For every argument, FindActive answers as the specification does, in memory of its own, and writes no argument; no condition.
-/
import Derived.Test.YtdhglmoanpkeoaaFA3
import Derived.WalkKit
import Derived.ProofKit
import Derived.OpenShut
namespace Go.Proofs.Ytdhglmoanpkeoaa
open Go.ChangeShapes Go.WideShapes Go.ChangeAt Go.WideMaps Go.WideElems Go.RowKit
open Go.ChangeMaps (open_string shut_string)
set_option linter.unusedVariables false
namespace fnExactFindActive
theorem own : ownKnob Try.prog.godebug = none := by kernel_rfl
set_option maxRecDepth 100000 in
theorem lifted (os : Os) (started : os.Started) (H : Type) (enc : TypeId × Value → H) :
    ReturnsInHanded {} Try.checked os 5 .any (Rows.fnExactFindActiveSpec.pre6 enc Try.prog Try.f5 Rows.fnExactFindActiveRow.domain false) (Rows.fnExactFindActiveSpec.post enc Try.prog Try.f5 false true false false) := by
  refine returnsInHanded_of_change (C := Try.checked) own started (by kernel_rfl) Try.func5
    (ChangeSpec.witness6 (enc := enc) (C := Try.checked) false ⟨#[], #[.agg #[.slice none 0 0, .int .i64 0, .int .i64 0, .slice none 0 0, .slice none 0 0, .slice none 0 0, .slice none 0 0, .int .i64 0], .int .i64 0], []⟩ 8 (by kernel_rfl) (by kernel_rfl) (by kernel_rfl) (by kernel_rfl)) ?_
  intro W base args ds gs before hval0 hW hcnd _
  have hval : ∀ (j : Nat) t v, Try.f5.params[j]? = some t → args[j]? = some v → Value.okWide Try.prog W .any base t v := hval0
  have hW' := hW
  obtain ⟨p, q, hA0, hV, rfl, hfz, hnd⟩ := hW
  have hA : DataW.TrodAll enc Try.prog W 0 (fun _ => true) true Try.f5.params.toList args.toList ds p := hA0
  rw [Try.params5] at hA hval
  obtain ⟨v0, vs0, d0, ds0, p0, q0, hargs, rfl, rfl, h0, r0⟩ := trodAll_cons hA
  obtain ⟨v1, vs1, d1, ds1, p1, q1, rfl, rfl, rfl, h1, r1⟩ := trodAll_cons r0
  obtain ⟨rfl, rfl, rfl⟩ := trodAll_nil r1
  obtain rfl : args = #[v0, v1] := by cases args; simp_all
  obtain ⟨rfl, rfl⟩ := trodVars_none hV
  obtain ⟨cs0, x0, rfl, g0, m0⟩ := stA_open opn_Engine Try.underlying52 (hval 0 52 v0 rfl rfl) h0
  obtain ⟨⟨x0_0, a0_1⟩, a0_2, x0_3, x0_4, x0_5, x0_6, a0_7⟩ := x0
  obtain ⟨v0_0, v0_3, v0_4, v0_5, v0_6, k0⟩ := tEngine_R g0
  obtain ⟨rfl, h0_0, h0_3, h0_4, h0_5, h0_6⟩ := k0
  obtain ⟨⟨o0_0, _⟩, ⟨_, ⟨o0_3, ⟨o0_4, ⟨o0_5, ⟨o0_6, _⟩⟩⟩⟩⟩⟩ := m0
  obtain ⟨n1, rfl, rfl, rfl, w1⟩ := open_int Try.underlying3 (hval 1 3 v1 rfl rfl) h1
  clear hA0 hval0
  simp only [List.append_nil] at hW'
  have l0 : ∀ x ∈ p0, x.block < W.heap.size := fun x hx => by simpa using hW'.lt x (by simp [hx])
  refine (law_fnExactFindActive a0_1 a0_2 a0_7 v0_0 v0_3 v0_4 v0_5 v0_6 x0_0 x0_3 x0_4 x0_5 x0_6 n1 w1 (findA x0_4 n1) W h0_0 h0_3 h0_4 h0_5 h0_6 o0_0 o0_3 o0_4 o0_5 o0_6  (fun v0 v3 v4 v5 v6 w h0 h3 h4 h5 h6 hz => specFindActive a0_1 a0_2 a0_7 n1 v0 v3 v4 v5 v6 x0_4 w h4 (zL_len (show zL tActive x0_4 ≤ 1048576 by omega))) (fun v0 v3 v4 v5 v6 w h0 h3 h4 h5 h6 hz => implFindActive a0_1 a0_2 a0_7 n1 v0 v3 v4 v5 v6 x0_4 w h4 (zL_len (show zL tActive x0_4 ≤ 1048576 by omega)))).mono fun e W' ⟨he, hb⟩ => ?_
  subst he
  exact ⟨_, rfl, _, _, _, [], _, [], hW', (trodAll_cons_mk (shut_bool Try.underlying4 _) trodAll_mk0), (trodAll_cons_mk (shut_Engine h0 hb l0) (trodAll_cons_mk (shut_int Try.underlying3 w1) trodAll_mk0)), rfl, hb.frame _, fun h => by cases h⟩
theorem proved : Rows.FnExactFindActiveSaid :=
  OpenClaim.holds_of_wide 5 Try.f5 rfl rfl rfl rfl rfl rfl rfl ⟨rfl, rfl, rfl, rfl, rfl⟩ rfl rfl rfl rfl rfl (by kernel_rfl) Try.func5 (by kernel_rfl)
    (of_decide_eq_true (by kernel_rfl)) (by unfold Func.isWrapper; first | (rw [if_pos (by decide +kernel)]; kernel_rfl) | (rw [if_neg (by decide +kernel)]; exact ⟨rfl, rfl⟩))
    (fun os started H enc _ => lifted os started H enc)
end fnExactFindActive
end Go.Proofs.Ytdhglmoanpkeoaa
