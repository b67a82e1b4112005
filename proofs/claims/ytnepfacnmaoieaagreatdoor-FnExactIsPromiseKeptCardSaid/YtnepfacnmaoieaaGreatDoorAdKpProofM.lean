/-
  For every argument, IsPromiseKept answers as the specification does, in memory of its own, and writes no argument; the table of orders is laid as the card ties it; no condition else.
-/
import Derived.Test.YtnepfacnmaoieaaGreatDoorPK18
import Derived.Test.YtnepfacnmaoieaaGreatDoorPK21
import Derived.Test.YtnepfacnmaoieaaGreatDoorFactP1
import Derived.Test.YtnepfacnmaoieaaGreatDoorFactP2
import Derived.Test.YtnepfacnmaoieaaGreatDoorFactP3
import Derived.Test.YtnepfacnmaoieaaGreatDoorAdKpProofF1
import Derived.Test.YtnepfacnmaoieaaGreatDoorAdKpProofF2
import Derived.Test.YtnepfacnmaoieaaGreatDoorPK20
import Derived.Test.YtnepfacnmaoieaaGreatDoorTie
import Derived.Test.YtnepfacnmaoieaaGreatDoorCards
import Derived.LaidMore
import Derived.Stop.Joined
import Derived.Stop.LaidErr
import Derived.SevenTiedAt
import Derived.WalkKit
import Derived.ProofKit
import Derived.OpenShut
namespace Go.Proofs.YtnepfacnmaoieaaGreatDoor
open Go.ChangeShapes Go.WideShapes Go.ChangeAt Go.WideMaps Go.WideElems Go.RowKit
open Go.ChangeMaps (open_string shut_string)
set_option linter.unusedVariables false
namespace fnExactIsPromiseKept
theorem own : ownKnob Tryz.prog.godebug = none := by kernel_rfl
theorem door_met (os : Os) (args : Array Value) : laidMetH Tryz.prog Rows.fnExactIsPromiseKeptRow.laid ((World.doorLaid Tryz.prog 24 os).forCall (fun _ _ => 0) ⟨#[], args, []⟩).memory :=
  laidMetH_of_parts3 (fuel := 8) (laidMet_of_run' 8 (by kernel_rfl) (by kernel_rfl)) (by kernel_rfl) (by kernel_rfl)
theorem of_laid {W : World} (h : laidMetH Tryz.prog Rows.fnExactIsPromiseKeptRow.laid W) : OrdT W := by
  rw [MakeChecks.laidMetH_plain _ _ _ (by kernel_rfl)] at h
  exact ordT_of_head h
set_option maxRecDepth 100000 in
theorem lifted (os : Os) (started : os.Started) (H : Type) (enc : TypeId × Value → H) :
    ReturnsInHanded {} Tryz.checked os 4 .any (fun w args => (Rows.fnExactIsPromiseKeptSpec.pre enc Tryz.prog Tryz.f4 [] false w args ∧ laidMetH Tryz.prog Rows.fnExactIsPromiseKeptRow.laid w) ∧ sizedMet enc Tryz.prog Tryz.f4 (OpenSpec.ofChange Rows.fnExactIsPromiseKeptSpec) false w args)
      (Rows.fnExactIsPromiseKeptSpec.post enc Tryz.prog Tryz.f4 false true false false) := by
  refine returnsInHanded_of_change_and (C := Tryz.checked) (X := fun w _ => laidMetH Tryz.prog Rows.fnExactIsPromiseKeptRow.laid w) (fun _ _ _ hh h => h.of_heap hh) own started (by kernel_rfl) Tryz.func4
    (ChangeSpec.witness_shaped (enc := enc) (C := Tryz.checked) (os := os) (X := fun w _ => laidMetH Tryz.prog Rows.fnExactIsPromiseKeptRow.laid w) false (World.doorLaid Tryz.prog 24 os) #[.agg #[.slice none 0 0, .int .i64 0, .int .i64 0, .slice none 0 0, .slice none 0 0, .slice none 0 0, .slice none 0 0, .int .i64 0]] 8 rfl (World.shaped_of_RefB (by kernel_rfl) (by kernel_rfl)) (by kernel_rfl) (by kernel_rfl) (by kernel_rfl) (door_met os _)) ?_
  intro W base args ds gs before hval0 hW _ hreach hL _
  have hval : ∀ (j : Nat) t v, Tryz.f4.params[j]? = some t → args[j]? = some v → Value.okWide Tryz.prog W .any base t v := hval0
  have hW' := hW
  obtain ⟨p, q, hA0, hV, rfl, hfz, hnd⟩ := hW
  have hA : DataW.TrodAll enc Tryz.prog W 0 (fun _ => true) true Tryz.f4.params.toList args.toList ds p := hA0
  rw [Tryz.params4] at hA hval
  obtain ⟨v0, vs0, d0, ds0, p0, q0, hargs, rfl, rfl, h0, r0⟩ := trodAll_cons hA
  obtain ⟨rfl, rfl, rfl⟩ := trodAll_nil r0
  obtain rfl : args = #[v0] := by cases args; simp_all
  have hV1 : DataW.TrodVars enc Tryz.prog W (fun _ => true) ["loop.example/g01986/impl.probeOrders"] gs q := hV
  obtain ⟨gv, tv, csv, fuelv, dv, pv, rfl, hgv, htv, hvarv, hdv, rfl⟩ := trodVars_one hV1
  obtain ⟨cs0, x0, rfl, g0, m0⟩ := stA_open opn_Engine Tryz.underlying30 (hval 0 30 v0 rfl rfl) h0
  have htab := (of_laid hL)
  clear hA0 hval0
  simp only [List.append_nil] at hW'
  have l0 : ∀ x ∈ p0, x.block < W.heap.size := fun x hx => by simpa using hW'.lt x (by simp [hx])
  refine (law_fnExactIsPromiseKept cs0 x0 (keptB x0) W g0 m0  (fun c w h hz => fitSpecKpt x0 c w h hz) (fun c u hB h hz => fitImplKpt x0 c u (htab.on hB) h hz)).mono fun e W' ⟨he, hb⟩ => ?_
  subst he
  have hvb : W'.var? Tryz.prog "loop.example/g01986/impl.probeOrders" = some csv := var_below hgv hvarv hb
  obtain rfl : 233 = tv := Option.some.inj (tOrd.symm.trans (by rw [Option.some.inj (gOrd.symm.trans hgv)]; exact htv))
  obtain ⟨fw, hdw⟩ := Below.trod (v := .agg csv) (by kernel_rfl) (by kernel_rfl) (of_decide_eq_true (by kernel_rfl)) ⟨fuelv, hdv⟩ hb (fun x hx => by simpa using hW'.lt x (by simp [hx]))
  have hvars := trodVars_mk1 hgv htv hvb hdw
  exact ⟨_, rfl, _, _, _, [], _, _, hW', (trodAll_cons_mk (shut_bool Tryz.underlying4 _) trodAll_mk0), (trodAll_cons_mk (shut_Engine h0 hb l0) trodAll_mk0), hvars, hb.frame _, fun h => by cases h⟩
theorem closed : joinedFacts Tryz.prog 4 Tryz.f4 Rows.fnExactIsPromiseKeptSpec Rows.fnExactIsPromiseKeptRow = true := by
  unfold joinedFacts
  rw [a1, fp_a2, fp_a3, a4, a5, a6, a7, a8, a9, b0, b1, b2, b3, b4, b5, b6, b7, b8, c1, c2, c3, c4, (fp_c5 Rows.fnExactIsPromiseKeptRow rfl), c6, fp_c7, fp_c8, (fp_c9 Rows.fnExactIsPromiseKeptRow rfl), (fp_d1 Rows.fnExactIsPromiseKeptRow rfl), d3, d4, d5]
  kernel_rfl
theorem inst : Tryz.f4.isInstance Tryz.prog Rows.fnExactIsPromiseKeptRow.origin Rows.fnExactIsPromiseKeptRow.targs := of_decide_eq_true (by kernel_rfl)
theorem wrap : Tryz.f4.isWrapper Tryz.prog Rows.fnExactIsPromiseKeptRow.wrapper Rows.fnExactIsPromiseKeptRow.mainSum := by unfold Func.isWrapper; first | (rw [if_pos (by decide +kernel)]; kernel_rfl) | (rw [if_neg (by decide +kernel)]; exact ⟨rfl, rfl⟩)
theorem row_holds : Rows.FnExactIsPromiseKeptSaid :=
  OpenClaim.holds_of_wide 4 Tryz.f4 rfl rfl rfl rfl rfl rfl rfl ⟨rfl, rfl, rfl, rfl, rfl⟩ rfl rfl rfl rfl rfl fnamed Tryz.func4 closed inst wrap
    (fun os started H enc _ => lifted os started H enc)
theorem byText : Rows.fnExactIsPromiseKeptRow.wfByText (OpenSpec.ofChange Rows.fnExactIsPromiseKeptSpec) = true := by kernel_rfl
theorem mainOf : Tryz.prog.mainIs = some (Rows.fnExactIsPromiseKeptCard.stood.harness.1, Rows.fnExactIsPromiseKeptCard.stood.harness.2.toList) := by kernel_rfl
theorem proved : Rows.FnExactIsPromiseKeptCardSaid :=
  Claim7.holds_tied_plain_at .later [] Rows.fnExactIsPromiseKeptCard.laidKinds true Rows.fnExactIsPromiseKeptCard.stood.harness true
    row_holds (fun _ h => by cases h) byText (fun _ h => by cases h) fnExactIsPromiseKept_row_tie rfl ⟨rfl, rfl⟩ mainOf rfl
    (fun f fn hf hfn => by
      obtain rfl : f = 4 := Option.some.inj (fnamed.symm.trans hf) |>.symm
      obtain rfl : fn = Tryz.f4 := (Option.some.inj (Tryz.func4.symm.trans hfn)).symm
      exact ⟨fp_looks, fun j t ht => by
        rw [Tryz.params4] at ht
        have hm : t ∈ [30] := by simpa using Array.mem_of_getElem? ht
        have hall : ([30].all fun u => !Tryz.prog.wantsStandIn u) = true := by kernel_rfl
        exact (show Tryz.prog.wantsStandIn t = false by simpa using List.all_eq_true.1 hall t hm)⟩)
    goesSo
end fnExactIsPromiseKept
end Go.Proofs.YtnepfacnmaoieaaGreatDoor
