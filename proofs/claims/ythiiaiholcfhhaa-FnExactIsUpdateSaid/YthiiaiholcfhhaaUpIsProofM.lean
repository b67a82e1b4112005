/-
  For every argument, IsUpdate answers as the specification does, in memory of its own, and writes no argument; no condition.
-/
import Derived.Test.YthiiaiholcfhhaaUA3
import Derived.WalkKit
import Derived.ProofKit
import Derived.OpenShut
namespace Go.Proofs.Ythiiaiholcfhhaa
open Go.ChangeShapes Go.WideShapes Go.ChangeAt Go.WideMaps Go.WideElems Go.RowKit
open Go.ChangeMaps (open_string shut_string)
set_option linter.unusedVariables false
namespace fnExactIsUpdate
theorem own : ownKnob Try.prog.godebug = none := by kernel_rfl
set_option maxRecDepth 100000 in
theorem lifted (os : Os) (started : os.Started) (H : Type) (enc : TypeId × Value → H) :
    ReturnsInHanded {} Try.checked os 3 .any (Rows.fnExactIsUpdateSpec.pre6 enc Try.prog Try.f3 Rows.fnExactIsUpdateRow.domain false) (Rows.fnExactIsUpdateSpec.post enc Try.prog Try.f3 false true false false) := by
  refine returnsInHanded_of_change (C := Try.checked) own started (by kernel_rfl) Try.func3
    (ChangeSpec.witness6 (enc := enc) (C := Try.checked) false ⟨#[], #[.agg #[.int .i64 0, .int .i64 0, .slice none 0 0, .int .i64 0, .int .i64 0]], []⟩ 8 (by kernel_rfl) (by kernel_rfl) (by kernel_rfl) (by kernel_rfl)) ?_
  intro W base args ds gs before hval0 hW hcnd _
  have hval : ∀ (j : Nat) t v, Try.f3.params[j]? = some t → args[j]? = some v → Value.okWide Try.prog W .any base t v := hval0
  have hW' := hW
  obtain ⟨p, q, hA0, hV, rfl, hfz, hnd⟩ := hW
  have hA : DataW.TrodAll enc Try.prog W 0 (fun _ => true) true Try.f3.params.toList args.toList ds p := hA0
  rw [Try.params3] at hA hval
  obtain ⟨v0, vs0, d0, ds0, p0, q0, hargs, rfl, rfl, h0, r0⟩ := trodAll_cons hA
  obtain ⟨rfl, rfl, rfl⟩ := trodAll_nil r0
  obtain rfl : args = #[v0] := by cases args; simp_all
  obtain ⟨rfl, rfl⟩ := trodVars_none hV
  obtain ⟨cs0, x0, rfl, g0, m0⟩ := stA_open opn_Update Try.underlying26 (hval 0 26 v0 rfl rfl) h0
  obtain ⟨a0_0, ⟨a0_1, x0_2⟩, a0_3, a0_4⟩ := x0
  obtain ⟨v0_2, k0⟩ := tUpdate_R g0
  obtain ⟨rfl, h0_2⟩ := k0
  obtain ⟨_, ⟨⟨_, o0_2⟩, ⟨_, _⟩⟩⟩ := m0
  clear hA0 hval0
  simp only [List.append_nil] at hW'
  have l0 : ∀ x ∈ p0, x.block < W.heap.size := fun x hx => by simpa using hW'.lt x (by simp [hx])
  refine (law_fnExactIsUpdate a0_0 a0_1 a0_3 a0_4 v0_2 x0_2 (updB (a0_0, (a0_1, x0_2), a0_3, a0_4)) W h0_2 o0_2  (fun v w h hz => specIsUpdate a0_0 a0_1 a0_3 a0_4 v x0_2 w (slR_ints h) (zL_len hz)) (fun v w h hz => implIsUpdate a0_0 a0_1 a0_3 a0_4 v x0_2 w (slR_ints h) (zL_len hz))).mono fun e W' ⟨he, hb⟩ => ?_
  subst he
  exact ⟨_, rfl, _, _, _, [], _, [], hW', (trodAll_cons_mk (shut_bool Try.underlying4 _) trodAll_mk0), (trodAll_cons_mk (shut_Update h0 hb l0) trodAll_mk0), rfl, hb.frame _, fun h => by cases h⟩
theorem proved : Rows.FnExactIsUpdateSaid :=
  OpenClaim.holds_of_wide 3 Try.f3 rfl rfl rfl rfl rfl rfl rfl ⟨rfl, rfl, rfl, rfl, rfl⟩ rfl rfl rfl rfl rfl (by kernel_rfl) Try.func3 (by kernel_rfl)
    (of_decide_eq_true (by kernel_rfl)) (by unfold Func.isWrapper; first | (rw [if_pos (by decide +kernel)]; kernel_rfl) | (rw [if_neg (by decide +kernel)]; exact ⟨rfl, rfl⟩))
    (fun os started H enc _ => lifted os started H enc)
end fnExactIsUpdate
end Go.Proofs.Ythiiaiholcfhhaa
