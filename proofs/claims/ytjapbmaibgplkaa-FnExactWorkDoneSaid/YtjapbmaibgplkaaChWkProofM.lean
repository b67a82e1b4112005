/-
  For every argument, WorkDone answers as the specification does, in memory of its own, and writes no argument; no condition.
-/
import Derived.Test.YtjapbmaibgplkaaCH3
import Derived.WalkKit
import Derived.ProofKit
import Derived.OpenShut
namespace Go.Proofs.Ytjapbmaibgplkaa
open Go.ChangeShapes Go.WideShapes Go.ChangeAt Go.WideMaps Go.WideElems Go.RowKit
open Go.ChangeMaps (open_string shut_string)
set_option linter.unusedVariables false
namespace fnExactWorkDone
theorem own : ownKnob Try.prog.godebug = none := by kernel_rfl
set_option maxRecDepth 100000 in
theorem lifted (os : Os) (started : os.Started) (H : Type) (enc : TypeId × Value → H) :
    ReturnsInHanded {} Try.checked os 4 .any (Rows.fnExactWorkDoneSpec.pre6 enc Try.prog Try.f4 Rows.fnExactWorkDoneRow.domain false) (Rows.fnExactWorkDoneSpec.post enc Try.prog Try.f4 false true false false) := by
  refine returnsInHanded_of_change (C := Try.checked) own started (by kernel_rfl) Try.func4
    (ChangeSpec.witness6 (enc := enc) (C := Try.checked) false ⟨#[], #[.agg #[.int .i64 0, .int .i64 0, .slice none 0 0, .slice none 0 0, .slice none 0 0]], []⟩ 8 (by kernel_rfl) (by kernel_rfl) (by kernel_rfl) (by kernel_rfl)) ?_
  intro W base args ds gs before hval0 hW hcnd _
  have hval : ∀ (j : Nat) t v, Try.f4.params[j]? = some t → args[j]? = some v → Value.okWide Try.prog W .any base t v := hval0
  have hW' := hW
  obtain ⟨p, q, hA0, hV, rfl, hfz, hnd⟩ := hW
  have hA : DataW.TrodAll enc Try.prog W 0 (fun _ => true) true Try.f4.params.toList args.toList ds p := hA0
  rw [Try.params4] at hA hval
  obtain ⟨v0, vs0, d0, ds0, p0, q0, hargs, rfl, rfl, h0, r0⟩ := trodAll_cons hA
  obtain ⟨rfl, rfl, rfl⟩ := trodAll_nil r0
  obtain rfl : args = #[v0] := by cases args; simp_all
  obtain ⟨rfl, rfl⟩ := trodVars_none hV
  obtain ⟨cs0, x0, rfl, g0, m0⟩ := stA_open opn_Charge Try.underlying24 (hval 0 24 v0 rfl rfl) h0
  obtain ⟨a0_0, a0_1, x0_2, x0_3, x0_4⟩ := x0
  obtain ⟨v0_2, v0_3, v0_4, k0⟩ := tCharge_R g0
  obtain ⟨rfl, h0_2, h0_3, h0_4⟩ := k0
  obtain ⟨_, ⟨_, ⟨o0_2, ⟨o0_3, o0_4⟩⟩⟩⟩ := m0
  clear hA0 hval0
  simp only [List.append_nil] at hW'
  have l0 : ∀ x ∈ p0, x.block < W.heap.size := fun x hx => by simpa using hW'.lt x (by simp [hx])
  refine (law_fnExactWorkDone a0_0 a0_1 v0_2 v0_3 v0_4 x0_2 x0_3 x0_4 (workX (a0_0, a0_1, x0_2, x0_3, x0_4)) W h0_2 h0_3 h0_4 o0_2 o0_3 o0_4  (fun v2 v3 v4 w h2 h3 h4 hz => specWorkDone a0_0 a0_1 v2 v3 v4 x0_2 x0_3 x0_4 w h2 h3 h4 (zL_len (show zL tInt x0_2 ≤ 1048576 by omega)) (zL_len (show zL tInt x0_3 ≤ 1048576 by omega)) (zL_len (show zL tInt x0_4 ≤ 1048576 by omega))) (fun v2 v3 v4 w h2 h3 h4 hz => implWorkDone a0_0 a0_1 v2 v3 v4 x0_2 x0_3 x0_4 w h2 h3 h4 (by omega) (by omega) (by omega))).mono fun e W' ⟨he, hb⟩ => ?_
  subst he
  exact ⟨_, rfl, _, _, _, [], _, [], hW', (trodAll_cons_mk (shut_bool Try.underlying4 _) trodAll_mk0), (trodAll_cons_mk (shut_Charge h0 hb l0) trodAll_mk0), rfl, hb.frame _, fun h => by cases h⟩
theorem proved : Rows.FnExactWorkDoneSaid :=
  OpenClaim.holds_of_wide 4 Try.f4 rfl rfl rfl rfl rfl rfl rfl ⟨rfl, rfl, rfl, rfl, rfl⟩ rfl rfl rfl rfl rfl (by kernel_rfl) Try.func4 (by kernel_rfl)
    (of_decide_eq_true (by kernel_rfl)) (by unfold Func.isWrapper; first | (rw [if_pos (by decide +kernel)]; kernel_rfl) | (rw [if_neg (by decide +kernel)]; exact ⟨rfl, rfl⟩))
    (fun os started H enc _ => lifted os started H enc)
end fnExactWorkDone
end Go.Proofs.Ytjapbmaibgplkaa
