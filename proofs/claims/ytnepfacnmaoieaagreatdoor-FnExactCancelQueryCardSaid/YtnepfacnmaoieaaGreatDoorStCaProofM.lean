/-
  For every argument, CancelQuery answers as the specification does, in memory of its own, and writes no argument; the table of orders is laid as the card ties it; no condition else.
-/
import Derived.Test.YtnepfacnmaoieaaGreatDoorCA21
import Derived.Test.YtnepfacnmaoieaaGreatDoorCA22
import Derived.Test.YtnepfacnmaoieaaGreatDoorFactP1
import Derived.Test.YtnepfacnmaoieaaGreatDoorFactP2
import Derived.Test.YtnepfacnmaoieaaGreatDoorFactP3
import Derived.Test.YtnepfacnmaoieaaGreatDoorStCaProofF1
import Derived.Test.YtnepfacnmaoieaaGreatDoorStCaProofF2
import Derived.Test.YtnepfacnmaoieaaGreatDoorCA23
import Derived.Test.YtnepfacnmaoieaaGreatDoorTie
import Derived.Test.YtnepfacnmaoieaaGreatDoorCards
import Derived.LaidMore
import Derived.Stop.Joined
import Derived.Stop.LaidErr
import Derived.SevenTiedAt
import Derived.WalkKit
import Derived.ProofKit
import Derived.OpenShut
namespace Go.Proofs.YtnepfacnmaoieaaGreatDoor
open Go.ChangeShapes Go.WideShapes Go.ChangeAt Go.WideMaps Go.WideElems Go.RowKit
open Go.ChangeMaps (open_string shut_string)
set_option linter.unusedVariables false
namespace fnExactCancelQuery
open ZD0
theorem own : ownKnob Tryz.prog.godebug = none := by kernel_rfl
theorem door_met (os : Os) (args : Array Value) : laidMetH Tryz.prog Rows.fnExactCancelQueryRow.laid ((World.doorLaid Tryz.prog 24 os).forCall (fun _ _ => 0) ⟨#[], args, []⟩).memory :=
  laidMetH_of_parts3 (fuel := 8) (laidMet_of_run' 8 (by kernel_rfl) (by kernel_rfl)) (by kernel_rfl) (by kernel_rfl)
theorem of_laid {W : World} (h : laidMetH Tryz.prog Rows.fnExactCancelQueryRow.laid W) : OrdT W := by
  rw [MakeChecks.laidMetH_plain _ _ _ (by kernel_rfl)] at h
  exact ordT_of_head h
set_option maxRecDepth 100000 in
theorem lifted (os : Os) (started : os.Started) (H : Type) (enc : TypeId × Value → H) :
    ReturnsInHanded {} Tryz.checked os 8 .any (fun w args => (Rows.fnExactCancelQuerySpec.pre enc Tryz.prog Tryz.f8 [] false w args ∧ laidMetH Tryz.prog Rows.fnExactCancelQueryRow.laid w) ∧ sizedMet enc Tryz.prog Tryz.f8 (OpenSpec.ofChange Rows.fnExactCancelQuerySpec) false w args)
      (Rows.fnExactCancelQuerySpec.post enc Tryz.prog Tryz.f8 false true false false) := by
  refine returnsInHanded_of_change_and (C := Tryz.checked) (X := fun w _ => laidMetH Tryz.prog Rows.fnExactCancelQueryRow.laid w) (fun _ _ _ hh h => h.of_heap hh) own started (by kernel_rfl) Tryz.func8
    (ChangeSpec.witness_shaped (enc := enc) (C := Tryz.checked) (os := os) (X := fun w _ => laidMetH Tryz.prog Rows.fnExactCancelQueryRow.laid w) false (World.doorLaid Tryz.prog 24 os) #[.agg #[(), Ja, Ja, (), (), (), (), Ja], Ja] 8 rfl (World.shaped_of_RefB (by kernel_rfl) (by kernel_rfl)) (by kernel_rfl) (by kernel_rfl) (by kernel_rfl) (door_met os _)) ?_
  intro W base args ds gs before hval0 hW _ hreach hL _
  have hval : ∀ (j : Nat) t v, Tryz.f8.params[j]? = some t → args[j]? = some v → Value.okWide Tryz.prog W .any base t v := hval0
  have hW' := hW
  obtain ⟨p, q, hA0, hV, rfl, hfz, hnd⟩ := hW
  have hA : DataW.TrodAll enc Tryz.prog W 0 (fun _ => true) true Tryz.f8.params.toList args.toList ds p := hA0
  rw [Tryz.params8] at hA hval
  obtain ⟨v0, vs0, d0, ds0, p0, q0, hargs, rfl, rfl, h0, r0⟩ := trodAll_cons hA
  obtain ⟨v1, vs1, d1, ds1, p1, q1, rfl, rfl, rfl, h1, r1⟩ := trodAll_cons r0
  obtain ⟨rfl, rfl, rfl⟩ := trodAll_nil r1
  obtain rfl : args = #[v0, v1] := by cases args; simp_all
  have hV1 : DataW.TrodVars enc Tryz.prog W (fun _ => true) ["loop.example/g01986/impl.probeOrders"] gs q := hV
  obtain ⟨gv, tv, csv, fuelv, dv, pv, rfl, hgv, htv, hvarv, hdv, rfl⟩ := trodVars_one hV1
  obtain ⟨cs0, x0, rfl, g0, m0⟩ := stA_open opn_Engine Tryz.underlying30 (hval 0 30 v0 rfl rfl) h0
  obtain ⟨n1, rfl, rfl, rfl, w1⟩ := open_int Tryz.underlying3 (hval 1 3 v1 rfl rfl) h1
  have htab := (of_laid hL)
  clear hA0 hval0
  simp only [List.append_nil] at hW'
  have l0 : ∀ x ∈ p0, x.block < W.heap.size := fun x hx => by simpa using hW'.lt x (by simp [hx])
  refine (law_fnExactCancelQuery cs0 x0 n1 w1 (fitC x0 n1) (Ut x0 n1).2 W g0 m0 (fitC_size x0 n1) (fun c w h hz => fitSpecCan x0 n1 c w h hz) (fun c u hB h hz => fitImplCan x0 n1 c u (htab.on hB) h hz)).mono fun e W' ⟨he, hb⟩ => ?_
  subst he
  have hvb : W'.var? Tryz.prog "loop.example/g01986/impl.probeOrders" = some csv := var_below hgv hvarv hb
  obtain rfl : 233 = tv := Option.some.inj (tOrd.symm.trans (by rw [Option.some.inj (gOrd.symm.trans hgv)]; exact htv))
  obtain ⟨fw, hdw⟩ := Below.trod (v := .agg csv) (by kernel_rfl) (by kernel_rfl) (of_decide_eq_true (by kernel_rfl)) ⟨fuelv, hdv⟩ hb (fun x hx => by simpa using hW'.lt x (by simp [hx]))
  have hvars := trodVars_mk1 hgv htv hvb hdw
  exact ⟨_, rfl, _, _, _, [], _, _, hW', (trodAll_cons_mk (shut_bool Tryz.underlying4 _) trodAll_mk0), (trodAll_cons_mk (shut_Engine h0 hb l0) (trodAll_cons_mk (shut_int Tryz.underlying3 w1) trodAll_mk0)), hvars, hb.frame _, fun h => by cases h⟩
theorem closed : joinedFacts Tryz.prog 8 Tryz.f8 Rows.fnExactCancelQuerySpec Rows.fnExactCancelQueryRow = true := by
  unfold joinedFacts
  rw [a1, fp_a2, fp_a3, a4, a5, a6, a7, a8, a9, b0, b1, b2, b3, b4, b5, b6, b7, b8, c1, c2, c3, c4, (fp_c5 Rows.fnExactCancelQueryRow rfl), c6, fp_c7, fp_c8, (fp_c9 Rows.fnExactCancelQueryRow rfl), (fp_d1 Rows.fnExactCancelQueryRow rfl), d3, d4, d5]
  kernel_rfl
theorem inst : Tryz.f8.isInstance Tryz.prog Rows.fnExactCancelQueryRow.origin Rows.fnExactCancelQueryRow.targs := of_decide_eq_true (by kernel_rfl)
theorem wrap : Tryz.f8.isWrapper Tryz.prog Rows.fnExactCancelQueryRow.wrapper Rows.fnExactCancelQueryRow.mainSum := by unfold Func.isWrapper; first | (rw [if_pos (by decide +kernel)]; kernel_rfl) | (rw [if_neg (by decide +kernel)]; exact ⟨rfl, rfl⟩)
theorem row_holds : Rows.FnExactCancelQuerySaid :=
  OpenClaim.holds_of_wide 8 Tryz.f8 rfl rfl rfl rfl rfl rfl rfl ⟨rfl, rfl, rfl, rfl, rfl⟩ rfl rfl rfl rfl rfl fnamed Tryz.func8 closed inst wrap
    (fun os started H enc _ => lifted os started H enc)
theorem byText : Rows.fnExactCancelQueryRow.wfByText (OpenSpec.ofChange Rows.fnExactCancelQuerySpec) = true := by kernel_rfl
theorem mainOf : Tryz.prog.mainIs = some (Rows.fnExactCancelQueryCard.stood.harness.1, Rows.fnExactCancelQueryCard.stood.harness.2.toList) := by kernel_rfl
theorem proved : Rows.FnExactCancelQueryCardSaid :=
  Claim7.holds_tied_plain_at .later [] Rows.fnExactCancelQueryCard.laidKinds true Rows.fnExactCancelQueryCard.stood.harness true
    row_holds (fun _ h => by cases h) byText (fun _ h => by cases h) fnExactCancelQuery_row_tie rfl ⟨rfl, rfl⟩ mainOf rfl
    (fun f fn hf hfn => by
      obtain rfl : f = 8 := Option.some.inj (fnamed.symm.trans hf) |>.symm
      obtain rfl : fn = Tryz.f8 := (Option.some.inj (Tryz.func8.symm.trans hfn)).symm
      exact ⟨fp_looks, fun j t ht => by
        rw [Tryz.params8] at ht
        have hm : t ∈ [30, 3] := by simpa using Array.mem_of_getElem? ht
        have hall : ([30, 3].all fun u => !Tryz.prog.wantsStandIn u) = true := by kernel_rfl
        exact (show Tryz.prog.wantsStandIn t = false by simpa using List.all_eq_true.1 hall t hm)⟩)
    goesSo
end fnExactCancelQuery
end Go.Proofs.YtnepfacnmaoieaaGreatDoor
