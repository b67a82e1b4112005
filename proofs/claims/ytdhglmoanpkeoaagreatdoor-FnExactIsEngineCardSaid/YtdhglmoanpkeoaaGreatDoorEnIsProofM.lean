/-
  For every argument, IsEngine answers as the specification does, in memory of its own, and writes no argument; the table of orders is laid as the card ties it; no condition else.
-/
import Derived.Test.YtdhglmoanpkeoaaGreatDoorIE7
import Derived.Test.YtdhglmoanpkeoaaGreatDoorTie
import Derived.Test.YtdhglmoanpkeoaaGreatDoorCards
import Derived.LaidMore
import Derived.Stop.Joined
import Derived.Stop.LaidErr
import Derived.SevenTiedAt
import Derived.WalkKit
import Derived.ProofKit
import Derived.OpenShut
namespace Go.Proofs.YtdhglmoanpkeoaaGreatDoor
open Go.ChangeShapes Go.WideShapes Go.ChangeAt Go.WideMaps Go.WideElems Go.RowKit
open Go.ChangeMaps (open_string shut_string)
set_option linter.unusedVariables false
namespace fnExactIsEngine
theorem own : ownKnob Tryz.prog.godebug = none := by kernel_rfl
theorem door_met (os : Os) (args : Array Value) : laidMetH Tryz.prog Rows.fnExactIsEngineRow.laid ((World.doorLaid Tryz.prog 24 os).forCall (fun _ _ => 0) ⟨#[], args, []⟩).memory :=
  laidMetH_of_parts3 (fuel := 8) (laidMet_of_run' 8 (by kernel_rfl) (by kernel_rfl)) (by kernel_rfl) (by kernel_rfl)
theorem of_laid {W : World} (h : laidMetH Tryz.prog Rows.fnExactIsEngineRow.laid W) : OrdT W := by
  rw [MakeChecks.laidMetH_plain _ _ _ (by kernel_rfl)] at h
  exact ordT_of_head h
set_option maxRecDepth 100000 in
theorem lifted (os : Os) (started : os.Started) (H : Type) (enc : TypeId × Value → H) :
    ReturnsInHanded {} Tryz.checked os 3 .any (fun w args => (Rows.fnExactIsEngineSpec.pre enc Tryz.prog Tryz.f3 [] false w args ∧ laidMetH Tryz.prog Rows.fnExactIsEngineRow.laid w) ∧ sizedMet enc Tryz.prog Tryz.f3 (OpenSpec.ofChange Rows.fnExactIsEngineSpec) false w args)
      (Rows.fnExactIsEngineSpec.post enc Tryz.prog Tryz.f3 false true false false) := by
  refine returnsInHanded_of_change_and (C := Tryz.checked) (X := fun w _ => laidMetH Tryz.prog Rows.fnExactIsEngineRow.laid w) (fun _ _ _ hh h => h.of_heap hh) own started (by kernel_rfl) Tryz.func3
    (ChangeSpec.witness_shaped (enc := enc) (C := Tryz.checked) (os := os) (X := fun w _ => laidMetH Tryz.prog Rows.fnExactIsEngineRow.laid w) false (World.doorLaid Tryz.prog 24 os) #[.agg #[.slice none 0 0, .int .i64 0, .int .i64 0, .slice none 0 0, .slice none 0 0, .slice none 0 0, .slice none 0 0, .int .i64 0]] 8 rfl (World.shaped_of_RefB (by kernel_rfl) (by kernel_rfl)) (by kernel_rfl) (by kernel_rfl) (by kernel_rfl) (door_met os _)) ?_
  intro W base args ds gs before hval0 hW _ hreach hL _
  have hval : ∀ (j : Nat) t v, Tryz.f3.params[j]? = some t → args[j]? = some v → Value.okWide Tryz.prog W .any base t v := hval0
  have hW' := hW
  obtain ⟨p, q, hA0, hV, rfl, hfz, hnd⟩ := hW
  have hA : DataW.TrodAll enc Tryz.prog W 0 (fun _ => true) true Tryz.f3.params.toList args.toList ds p := hA0
  rw [Tryz.params3] at hA hval
  obtain ⟨v0, vs0, d0, ds0, p0, q0, hargs, rfl, rfl, h0, r0⟩ := trodAll_cons hA
  obtain ⟨rfl, rfl, rfl⟩ := trodAll_nil r0
  obtain rfl : args = #[v0] := by cases args; simp_all
  have hV1 : DataW.TrodVars enc Tryz.prog W (fun _ => true) ["loop.example/g01986/impl.probeOrders"] gs q := hV
  obtain ⟨gv, tv, csv, fuelv, dv, pv, rfl, hgv, htv, hvarv, hdv, rfl⟩ := trodVars_one hV1
  obtain ⟨cs0, x0, rfl, g0, m0⟩ := stA_open opn_Engine Tryz.underlying30 (hval 0 30 v0 rfl rfl) h0
  obtain ⟨⟨x0_0, a0_1⟩, a0_2, x0_3, x0_4, x0_5, x0_6, a0_7⟩ := x0
  obtain ⟨v0_0, v0_3, v0_4, v0_5, v0_6, k0⟩ := tEngine_R g0
  obtain ⟨rfl, h0_0, h0_3, h0_4, h0_5, h0_6⟩ := k0
  obtain ⟨⟨o0_0, _⟩, ⟨_, ⟨o0_3, ⟨o0_4, ⟨o0_5, ⟨o0_6, _⟩⟩⟩⟩⟩⟩ := m0
  have htab := (of_laid hL)
  clear hA0 hval0
  simp only [List.append_nil] at hW'
  have l0 : ∀ x ∈ p0, x.block < W.heap.size := fun x hx => by simpa using hW'.lt x (by simp [hx])
  refine (law_fnExactIsEngine a0_1 a0_2 a0_7 v0_0 v0_3 v0_4 v0_5 v0_6 x0_0 x0_3 x0_4 x0_5 x0_6 (engB ((x0_0, a0_1), a0_2, x0_3, x0_4, x0_5, x0_6, a0_7)) W h0_0 h0_3 h0_4 h0_5 h0_6 o0_0 o0_3 o0_4 o0_5 o0_6  (fun v0 v3 v4 v5 v6 w h0 h3 h4 h5 h6 hz => specIsEngine a0_1 a0_2 a0_7 v0 v3 v4 v5 v6 x0_0 x0_3 x0_4 x0_5 x0_6 w h0 h3 h4 h5 h6 hz) (fun v0 v3 v4 v5 v6 u hB h0 h3 h4 h5 h6 hz => implIsEngine a0_1 a0_2 a0_7 v0 v3 v4 v5 v6 x0_0 x0_3 x0_4 x0_5 x0_6 u (htab.on hB) h0 h3 h4 h5 h6 hz)).mono fun e W' ⟨he, hb⟩ => ?_
  subst he
  have hvb : W'.var? Tryz.prog "loop.example/g01986/impl.probeOrders" = some csv := var_below hgv hvarv hb
  obtain rfl : 158 = tv := Option.some.inj (tOrd.symm.trans (by rw [Option.some.inj (gOrd.symm.trans hgv)]; exact htv))
  obtain ⟨fw, hdw⟩ := Below.trod (v := .agg csv) (by kernel_rfl) (by kernel_rfl) (of_decide_eq_true (by kernel_rfl)) ⟨fuelv, hdv⟩ hb (fun x hx => by simpa using hW'.lt x (by simp [hx]))
  have hvars := trodVars_mk1 hgv htv hvb hdw
  exact ⟨_, rfl, _, _, _, [], _, _, hW', (trodAll_cons_mk (shut_bool Tryz.underlying4 _) trodAll_mk0), (trodAll_cons_mk (shut_Engine h0 hb l0) trodAll_mk0), hvars, hb.frame _, fun h => by cases h⟩
theorem row_holds : Rows.FnExactIsEngineSaid :=
  OpenClaim.holds_of_wide 3 Tryz.f3 rfl rfl rfl rfl rfl rfl rfl ⟨rfl, rfl, rfl, rfl, rfl⟩ rfl rfl rfl rfl rfl (by kernel_rfl) Tryz.func3 (by kernel_rfl)
    (of_decide_eq_true (by kernel_rfl)) (by unfold Func.isWrapper; first | (rw [if_pos (by decide +kernel)]; kernel_rfl) | (rw [if_neg (by decide +kernel)]; exact ⟨rfl, rfl⟩))
    (fun os started H enc _ => lifted os started H enc)
theorem proved : Rows.FnExactIsEngineCardSaid :=
  Claim7.holds_tied_plain_at .later [] Rows.fnExactIsEngineCard.laidKinds true Rows.fnExactIsEngineCard.stood.harness false
    row_holds (fun _ h => by cases h) (by kernel_rfl) (fun _ h => by cases h) fnExactIsEngine_row_tie rfl ⟨rfl, rfl⟩ (by kernel_rfl) rfl
    (fun f fn hf hfn => by
      obtain rfl : f = 3 := Option.some.inj ((show Tryz.prog.funcNamed "loop.example/g01986/laws.FnExactIsEngine" = some 3 by kernel_rfl).symm.trans hf) |>.symm
      obtain rfl : fn = Tryz.f3 := (Option.some.inj (Tryz.func3.symm.trans hfn)).symm
      exact ⟨by kernel_rfl, fun j t ht => by
        rw [Tryz.params3] at ht
        have hm : t ∈ [30] := by simpa using Array.mem_of_getElem? ht
        have hall : ([30].all fun u => !Tryz.prog.wantsStandIn u) = true := by kernel_rfl
        exact (show Tryz.prog.wantsStandIn t = false by simpa using List.all_eq_true.1 hall t hm)⟩)
    (by kernel_rfl)
end fnExactIsEngine
end Go.Proofs.YtdhglmoanpkeoaaGreatDoor
