/-
  For every index, row or slice of rows, and order, ProbeSet, MatchSet and WorkOf answer as the specification does, in memory of their own, and write no argument; the table of orders is laid as the card ties it; no condition else.
-/
import Derived.Test.YtidhmgboknffkaaDoorG11
import Derived.Test.YtidhmgboknffkaaDoorTie
import Derived.Test.YtidhmgboknffkaaDoorCards
import Derived.LaidMore
import Derived.Stop.Joined
import Derived.Stop.LaidErr
import Derived.SevenTiedAt
import Derived.WalkKit
import Derived.ProofKit
import Derived.OpenShut
namespace Go.Proofs.YtidhmgboknffkaaDoor
open Go.ChangeShapes Go.WideShapes Go.ChangeAt Go.WideMaps Go.WideElems Go.RowKit
open Go.ChangeMaps (open_string shut_string)
set_option linter.unusedVariables false
namespace fnExactProbeSet
theorem own : ownKnob Tryd.prog.godebug = none := by kernel_rfl
theorem door_met (os : Os) (args : Array Value) : laidMetH Tryd.prog Rows.fnExactProbeSetRow.laid ((World.doorLaid Tryd.prog 24 os).forCall (fun _ _ => 0) ⟨#[], args, []⟩).memory :=
  laidMetH_of_parts3 (fuel := 8) (laidMet_of_run' 8 (by kernel_rfl) (by kernel_rfl)) (by kernel_rfl) (by kernel_rfl)
theorem of_laid {W : World} (h : laidMetH Tryd.prog Rows.fnExactProbeSetRow.laid W) : OrdT W := by
  rw [MakeChecks.laidMetH_plain _ _ _ (by kernel_rfl)] at h
  exact ordT_of_head h
set_option maxRecDepth 100000 in
theorem lifted (os : Os) (started : os.Started) (H : Type) (enc : TypeId × Value → H) :
    ReturnsInHanded {} Tryd.checked os 5 .any (fun w args => (Rows.fnExactProbeSetSpec.pre enc Tryd.prog Tryd.f5 [] false w args ∧ laidMetH Tryd.prog Rows.fnExactProbeSetRow.laid w) ∧ sizedMet enc Tryd.prog Tryd.f5 (OpenSpec.ofChange Rows.fnExactProbeSetSpec) false w args)
      (Rows.fnExactProbeSetSpec.post enc Tryd.prog Tryd.f5 false true false false) := by
  refine returnsInHanded_of_change_and (C := Tryd.checked) (X := fun w _ => laidMetH Tryd.prog Rows.fnExactProbeSetRow.laid w) (fun _ _ _ hh h => h.of_heap hh) own started (by kernel_rfl) Tryd.func5
    (ChangeSpec.witness_shaped (enc := enc) (C := Tryd.checked) (os := os) (X := fun w _ => laidMetH Tryd.prog Rows.fnExactProbeSetRow.laid w) false (World.doorLaid Tryd.prog 24 os) #[.agg #[.slice none 0 0, .slice none 0 0], .agg #[.int .i64 0, .slice none 0 0], .slice none 0 0] 8 rfl (World.shaped_of_RefB (by kernel_rfl) (by kernel_rfl)) (by kernel_rfl) (by kernel_rfl) (by kernel_rfl) (door_met os _)) ?_
  intro W base args ds gs before hval0 hW _ hreach hL _
  have hval : ∀ (j : Nat) t v, Tryd.f5.params[j]? = some t → args[j]? = some v → Value.okWide Tryd.prog W .any base t v := hval0
  have hW' := hW
  obtain ⟨p, q, hA0, hV, rfl, hfz, hnd⟩ := hW
  have hA : DataW.TrodAll enc Tryd.prog W 0 (fun _ => true) true Tryd.f5.params.toList args.toList ds p := hA0
  rw [Tryd.params5] at hA hval
  obtain ⟨v0, vs0, d0, ds0, p0, q0, hargs, rfl, rfl, h0, r0⟩ := trodAll_cons hA
  obtain ⟨v1, vs1, d1, ds1, p1, q1, rfl, rfl, rfl, h1, r1⟩ := trodAll_cons r0
  obtain ⟨v2, vs2, d2, ds2, p2, q2, rfl, rfl, rfl, h2, r2⟩ := trodAll_cons r1
  obtain ⟨rfl, rfl, rfl⟩ := trodAll_nil r2
  obtain rfl : args = #[v0, v1, v2] := by cases args; simp_all
  have hV1 : DataW.TrodVars enc Tryd.prog W (fun _ => true) ["loop.example/g01986/impl.probeOrders"] gs q := hV
  obtain ⟨gv, tv, csv, fuelv, dv, pv, rfl, hgv, htv, hvarv, hdv, rfl⟩ := trodVars_one hV1
  obtain ⟨cs0, x0, rfl, g0, m0⟩ := stA_open opn_Index Tryd.underlying56 (hval 0 56 v0 rfl rfl) h0
  obtain ⟨x0_0, x0_1⟩ := x0
  obtain ⟨v0_0, v0_1, k0⟩ := tIndex_R g0
  obtain ⟨rfl, h0_0, h0_1⟩ := k0
  obtain ⟨o0_0, o0_1⟩ := m0
  obtain ⟨cs1, x1, rfl, g1, m1⟩ := stA_open opn_Row Tryd.underlying57 (hval 1 57 v1 rfl rfl) h1
  obtain ⟨a1_0, x1_1⟩ := x1
  obtain ⟨v1_1, k1⟩ := tRow_R g1
  obtain ⟨rfl, h1_1⟩ := k1
  obtain ⟨_, o1_1⟩ := m1
  obtain ⟨x2_0, h2_0, o2_0⟩ := slA_open (opn_ints 3) Tryd.underlying28 (hval 2 28 v2 rfl rfl) h2
  have htab := (of_laid hL)
  clear hA0 hval0
  simp only [List.append_nil] at hW'
  have l0 : ∀ x ∈ p0, x.block < W.heap.size := fun x hx => by simpa using hW'.lt x (by simp [hx])
  have l1 : ∀ x ∈ p1, x.block < W.heap.size := fun x hx => by simpa using hW'.lt x (by simp [hx])
  have l2 : ∀ x ∈ p2, x.block < W.heap.size := fun x hx => by simpa using hW'.lt x (by simp [hx])
  refine (law_fnExactProbeSet v0_0 v0_1 x0_0 x0_1 a1_0 v1_1 x1_1 v2 x2_0 (probeB x0_0 x0_1 (a1_0, x1_1) x2_0).1 (probeB x0_0 x0_1 (a1_0, x1_1) x2_0).2 W h0_0 h0_1 h1_1 h2_0 o0_0 o0_1 o1_1 o2_0 (probe_size x0_0 x0_1 a1_0 x1_1 x2_0) (fitProbeSet x0_0 x0_1 a1_0 x1_1 x2_0) (resProbeSet htab x0_0 x0_1 a1_0 x1_1 x2_0)).mono fun e W' ⟨he, hb⟩ => ?_
  subst he
  have hvb : W'.var? Tryd.prog "loop.example/g01986/impl.probeOrders" = some csv := var_below hgv hvarv hb
  obtain rfl : 119 = tv := Option.some.inj (tOrd.symm.trans (by rw [Option.some.inj (gOrd.symm.trans hgv)]; exact htv))
  obtain ⟨fw, hdw⟩ := Below.trod (v := .agg csv) (by kernel_rfl) (by kernel_rfl) (of_decide_eq_true (by kernel_rfl)) ⟨fuelv, hdv⟩ hb (fun x hx => by simpa using hW'.lt x (by simp [hx]))
  have hvars := trodVars_mk1 hgv htv hvb hdw
  exact ⟨_, rfl, _, _, _, [], _, _, hW', (trodAll_cons_mk (shut_bool Tryd.underlying4 _) trodAll_mk0), (trodAll_cons_mk (shut_Index h0 hb l0) (trodAll_cons_mk (shut_Row h1 hb l1) (trodAll_cons_mk (ints_shut h2 hb l2) trodAll_mk0))), hvars, hb.frame _, fun h => by cases h⟩
theorem row_holds : Rows.FnExactProbeSetSaid :=
  OpenClaim.holds_of_wide 5 Tryd.f5 rfl rfl rfl rfl rfl rfl rfl ⟨rfl, rfl, rfl, rfl, rfl⟩ rfl rfl rfl rfl rfl (by kernel_rfl) Tryd.func5 (by kernel_rfl)
    (of_decide_eq_true (by kernel_rfl)) (by unfold Func.isWrapper; first | (rw [if_pos (by decide +kernel)]; kernel_rfl) | (rw [if_neg (by decide +kernel)]; exact ⟨rfl, rfl⟩))
    (fun os started H enc _ => lifted os started H enc)
theorem proved : Rows.FnExactProbeSetCardSaid :=
  Claim7.holds_tied_plain_at .later [] Rows.fnExactProbeSetCard.laidKinds true Rows.fnExactProbeSetCard.stood.harness false
    row_holds (fun _ h => by cases h) (by kernel_rfl) (fun _ h => by cases h) fnExactProbeSet_row_tie rfl ⟨rfl, rfl⟩ (by kernel_rfl) rfl
    (fun f fn hf hfn => by
      obtain rfl : f = 5 := Option.some.inj ((show Tryd.prog.funcNamed "loop.example/g01986/laws.FnExactProbeSet" = some 5 by kernel_rfl).symm.trans hf) |>.symm
      obtain rfl : fn = Tryd.f5 := (Option.some.inj (Tryd.func5.symm.trans hfn)).symm
      exact ⟨by kernel_rfl, fun j t ht => by
        rw [Tryd.params5] at ht
        have hm : t ∈ [56, 57, 28] := by simpa using Array.mem_of_getElem? ht
        have hall : ([56, 57, 28].all fun u => !Tryd.prog.wantsStandIn u) = true := by kernel_rfl
        exact (show Tryd.prog.wantsStandIn t = false by simpa using List.all_eq_true.1 hall t hm)⟩)
    (by kernel_rfl)
end fnExactProbeSet
namespace fnExactMatchSet
theorem own : ownKnob Tryd.prog.godebug = none := by kernel_rfl
theorem door_met (os : Os) (args : Array Value) : laidMetH Tryd.prog Rows.fnExactMatchSetRow.laid ((World.doorLaid Tryd.prog 24 os).forCall (fun _ _ => 0) ⟨#[], args, []⟩).memory :=
  laidMetH_of_parts3 (fuel := 8) (laidMet_of_run' 8 (by kernel_rfl) (by kernel_rfl)) (by kernel_rfl) (by kernel_rfl)
theorem of_laid {W : World} (h : laidMetH Tryd.prog Rows.fnExactMatchSetRow.laid W) : OrdT W := by
  rw [MakeChecks.laidMetH_plain _ _ _ (by kernel_rfl)] at h
  exact ordT_of_head h
set_option maxRecDepth 100000 in
theorem lifted (os : Os) (started : os.Started) (H : Type) (enc : TypeId × Value → H) :
    ReturnsInHanded {} Tryd.checked os 4 .any (fun w args => (Rows.fnExactMatchSetSpec.pre enc Tryd.prog Tryd.f4 [] false w args ∧ laidMetH Tryd.prog Rows.fnExactMatchSetRow.laid w) ∧ sizedMet enc Tryd.prog Tryd.f4 (OpenSpec.ofChange Rows.fnExactMatchSetSpec) false w args)
      (Rows.fnExactMatchSetSpec.post enc Tryd.prog Tryd.f4 false true false false) := by
  refine returnsInHanded_of_change_and (C := Tryd.checked) (X := fun w _ => laidMetH Tryd.prog Rows.fnExactMatchSetRow.laid w) (fun _ _ _ hh h => h.of_heap hh) own started (by kernel_rfl) Tryd.func4
    (ChangeSpec.witness_shaped (enc := enc) (C := Tryd.checked) (os := os) (X := fun w _ => laidMetH Tryd.prog Rows.fnExactMatchSetRow.laid w) false (World.doorLaid Tryd.prog 24 os) #[.agg #[.slice none 0 0, .slice none 0 0], .agg #[.int .i64 0, .slice none 0 0]] 8 rfl (World.shaped_of_RefB (by kernel_rfl) (by kernel_rfl)) (by kernel_rfl) (by kernel_rfl) (by kernel_rfl) (door_met os _)) ?_
  intro W base args ds gs before hval0 hW _ hreach hL _
  have hval : ∀ (j : Nat) t v, Tryd.f4.params[j]? = some t → args[j]? = some v → Value.okWide Tryd.prog W .any base t v := hval0
  have hW' := hW
  obtain ⟨p, q, hA0, hV, rfl, hfz, hnd⟩ := hW
  have hA : DataW.TrodAll enc Tryd.prog W 0 (fun _ => true) true Tryd.f4.params.toList args.toList ds p := hA0
  rw [Tryd.params4] at hA hval
  obtain ⟨v0, vs0, d0, ds0, p0, q0, hargs, rfl, rfl, h0, r0⟩ := trodAll_cons hA
  obtain ⟨v1, vs1, d1, ds1, p1, q1, rfl, rfl, rfl, h1, r1⟩ := trodAll_cons r0
  obtain ⟨rfl, rfl, rfl⟩ := trodAll_nil r1
  obtain rfl : args = #[v0, v1] := by cases args; simp_all
  have hV1 : DataW.TrodVars enc Tryd.prog W (fun _ => true) ["loop.example/g01986/impl.probeOrders"] gs q := hV
  obtain ⟨gv, tv, csv, fuelv, dv, pv, rfl, hgv, htv, hvarv, hdv, rfl⟩ := trodVars_one hV1
  obtain ⟨cs0, x0, rfl, g0, m0⟩ := stA_open opn_Index Tryd.underlying56 (hval 0 56 v0 rfl rfl) h0
  obtain ⟨x0_0, x0_1⟩ := x0
  obtain ⟨v0_0, v0_1, k0⟩ := tIndex_R g0
  obtain ⟨rfl, h0_0, h0_1⟩ := k0
  obtain ⟨o0_0, o0_1⟩ := m0
  obtain ⟨cs1, x1, rfl, g1, m1⟩ := stA_open opn_Row Tryd.underlying57 (hval 1 57 v1 rfl rfl) h1
  obtain ⟨a1_0, x1_1⟩ := x1
  obtain ⟨v1_1, k1⟩ := tRow_R g1
  obtain ⟨rfl, h1_1⟩ := k1
  obtain ⟨_, o1_1⟩ := m1
  have htab := (of_laid hL)
  clear hA0 hval0
  simp only [List.append_nil] at hW'
  have l0 : ∀ x ∈ p0, x.block < W.heap.size := fun x hx => by simpa using hW'.lt x (by simp [hx])
  have l1 : ∀ x ∈ p1, x.block < W.heap.size := fun x hx => by simpa using hW'.lt x (by simp [hx])
  refine (law_fnExactMatchSet v0_0 v0_1 x0_0 x0_1 a1_0 v1_1 x1_1 (probeB x0_0 x0_1 (a1_0, x1_1) [0, 1, 2]).1 W h0_0 h0_1 h1_1 o0_0 o0_1 o1_1 (probe_size x0_0 x0_1 a1_0 x1_1 [0, 1, 2]) (fitMatchSet x0_0 x0_1 a1_0 x1_1) (resMatchSet htab x0_0 x0_1 a1_0 x1_1)).mono fun e W' ⟨he, hb⟩ => ?_
  subst he
  have hvb : W'.var? Tryd.prog "loop.example/g01986/impl.probeOrders" = some csv := var_below hgv hvarv hb
  obtain rfl : 119 = tv := Option.some.inj (tOrd.symm.trans (by rw [Option.some.inj (gOrd.symm.trans hgv)]; exact htv))
  obtain ⟨fw, hdw⟩ := Below.trod (v := .agg csv) (by kernel_rfl) (by kernel_rfl) (of_decide_eq_true (by kernel_rfl)) ⟨fuelv, hdv⟩ hb (fun x hx => by simpa using hW'.lt x (by simp [hx]))
  have hvars := trodVars_mk1 hgv htv hvb hdw
  exact ⟨_, rfl, _, _, _, [], _, _, hW', (trodAll_cons_mk (shut_bool Tryd.underlying4 _) trodAll_mk0), (trodAll_cons_mk (shut_Index h0 hb l0) (trodAll_cons_mk (shut_Row h1 hb l1) trodAll_mk0)), hvars, hb.frame _, fun h => by cases h⟩
theorem row_holds : Rows.FnExactMatchSetSaid :=
  OpenClaim.holds_of_wide 4 Tryd.f4 rfl rfl rfl rfl rfl rfl rfl ⟨rfl, rfl, rfl, rfl, rfl⟩ rfl rfl rfl rfl rfl (by kernel_rfl) Tryd.func4 (by kernel_rfl)
    (of_decide_eq_true (by kernel_rfl)) (by unfold Func.isWrapper; first | (rw [if_pos (by decide +kernel)]; kernel_rfl) | (rw [if_neg (by decide +kernel)]; exact ⟨rfl, rfl⟩))
    (fun os started H enc _ => lifted os started H enc)
theorem proved : Rows.FnExactMatchSetCardSaid :=
  Claim7.holds_tied_plain_at .later [] Rows.fnExactMatchSetCard.laidKinds true Rows.fnExactMatchSetCard.stood.harness false
    row_holds (fun _ h => by cases h) (by kernel_rfl) (fun _ h => by cases h) fnExactMatchSet_row_tie rfl ⟨rfl, rfl⟩ (by kernel_rfl) rfl
    (fun f fn hf hfn => by
      obtain rfl : f = 4 := Option.some.inj ((show Tryd.prog.funcNamed "loop.example/g01986/laws.FnExactMatchSet" = some 4 by kernel_rfl).symm.trans hf) |>.symm
      obtain rfl : fn = Tryd.f4 := (Option.some.inj (Tryd.func4.symm.trans hfn)).symm
      exact ⟨by kernel_rfl, fun j t ht => by
        rw [Tryd.params4] at ht
        have hm : t ∈ [56, 57] := by simpa using Array.mem_of_getElem? ht
        have hall : ([56, 57].all fun u => !Tryd.prog.wantsStandIn u) = true := by kernel_rfl
        exact (show Tryd.prog.wantsStandIn t = false by simpa using List.all_eq_true.1 hall t hm)⟩)
    (by kernel_rfl)
end fnExactMatchSet
namespace fnExactWorkOf
theorem own : ownKnob Tryd.prog.godebug = none := by kernel_rfl
theorem door_met (os : Os) (args : Array Value) : laidMetH Tryd.prog Rows.fnExactWorkOfRow.laid ((World.doorLaid Tryd.prog 24 os).forCall (fun _ _ => 0) ⟨#[], args, []⟩).memory :=
  laidMetH_of_parts3 (fuel := 8) (laidMet_of_run' 8 (by kernel_rfl) (by kernel_rfl)) (by kernel_rfl) (by kernel_rfl)
theorem of_laid {W : World} (h : laidMetH Tryd.prog Rows.fnExactWorkOfRow.laid W) : OrdT W := by
  rw [MakeChecks.laidMetH_plain _ _ _ (by kernel_rfl)] at h
  exact ordT_of_head h
set_option maxRecDepth 100000 in
theorem lifted (os : Os) (started : os.Started) (H : Type) (enc : TypeId × Value → H) :
    ReturnsInHanded {} Tryd.checked os 6 .any (fun w args => (Rows.fnExactWorkOfSpec.pre enc Tryd.prog Tryd.f6 [] false w args ∧ laidMetH Tryd.prog Rows.fnExactWorkOfRow.laid w) ∧ sizedMet enc Tryd.prog Tryd.f6 (OpenSpec.ofChange Rows.fnExactWorkOfSpec) false w args)
      (Rows.fnExactWorkOfSpec.post enc Tryd.prog Tryd.f6 false true false false) := by
  refine returnsInHanded_of_change_and (C := Tryd.checked) (X := fun w _ => laidMetH Tryd.prog Rows.fnExactWorkOfRow.laid w) (fun _ _ _ hh h => h.of_heap hh) own started (by kernel_rfl) Tryd.func6
    (ChangeSpec.witness_shaped (enc := enc) (C := Tryd.checked) (os := os) (X := fun w _ => laidMetH Tryd.prog Rows.fnExactWorkOfRow.laid w) false (World.doorLaid Tryd.prog 24 os) #[.agg #[.slice none 0 0, .slice none 0 0], .slice none 0 0, .slice none 0 0] 8 rfl (World.shaped_of_RefB (by kernel_rfl) (by kernel_rfl)) (by kernel_rfl) (by kernel_rfl) (by kernel_rfl) (door_met os _)) ?_
  intro W base args ds gs before hval0 hW _ hreach hL _
  have hval : ∀ (j : Nat) t v, Tryd.f6.params[j]? = some t → args[j]? = some v → Value.okWide Tryd.prog W .any base t v := hval0
  have hW' := hW
  obtain ⟨p, q, hA0, hV, rfl, hfz, hnd⟩ := hW
  have hA : DataW.TrodAll enc Tryd.prog W 0 (fun _ => true) true Tryd.f6.params.toList args.toList ds p := hA0
  rw [Tryd.params6] at hA hval
  obtain ⟨v0, vs0, d0, ds0, p0, q0, hargs, rfl, rfl, h0, r0⟩ := trodAll_cons hA
  obtain ⟨v1, vs1, d1, ds1, p1, q1, rfl, rfl, rfl, h1, r1⟩ := trodAll_cons r0
  obtain ⟨v2, vs2, d2, ds2, p2, q2, rfl, rfl, rfl, h2, r2⟩ := trodAll_cons r1
  obtain ⟨rfl, rfl, rfl⟩ := trodAll_nil r2
  obtain rfl : args = #[v0, v1, v2] := by cases args; simp_all
  have hV1 : DataW.TrodVars enc Tryd.prog W (fun _ => true) ["loop.example/g01986/impl.probeOrders"] gs q := hV
  obtain ⟨gv, tv, csv, fuelv, dv, pv, rfl, hgv, htv, hvarv, hdv, rfl⟩ := trodVars_one hV1
  obtain ⟨cs0, x0, rfl, g0, m0⟩ := stA_open opn_Index Tryd.underlying56 (hval 0 56 v0 rfl rfl) h0
  obtain ⟨x0_0, x0_1⟩ := x0
  obtain ⟨v0_0, v0_1, k0⟩ := tIndex_R g0
  obtain ⟨rfl, h0_0, h0_1⟩ := k0
  obtain ⟨o0_0, o0_1⟩ := m0
  obtain ⟨x1_0, h1_0, o1_0⟩ := slA_open opn_RowS Tryd.underlying70 (hval 1 70 v1 rfl rfl) h1
  obtain ⟨x2_0, h2_0, o2_0⟩ := slA_open (opn_ints 3) Tryd.underlying28 (hval 2 28 v2 rfl rfl) h2
  have htab := (of_laid hL)
  clear hA0 hval0
  simp only [List.append_nil] at hW'
  have l0 : ∀ x ∈ p0, x.block < W.heap.size := fun x hx => by simpa using hW'.lt x (by simp [hx])
  have l1 : ∀ x ∈ p1, x.block < W.heap.size := fun x hx => by simpa using hW'.lt x (by simp [hx])
  have l2 : ∀ x ∈ p2, x.block < W.heap.size := fun x hx => by simpa using hW'.lt x (by simp [hx])
  refine (law_fnExactWorkOf v0_0 v0_1 x0_0 x0_1 v1 x1_0 v2 x2_0 (workL x0_0 x0_1 x1_0 x2_0) W h0_0 h0_1 h1_0 h2_0 o0_0 o0_1 o1_0 o2_0  (fitWorkOf x0_0 x0_1 x1_0 x2_0) (resWorkOf htab x0_0 x0_1 x1_0 x2_0)).mono fun e W' ⟨he, hb⟩ => ?_
  subst he
  have hvb : W'.var? Tryd.prog "loop.example/g01986/impl.probeOrders" = some csv := var_below hgv hvarv hb
  obtain rfl : 119 = tv := Option.some.inj (tOrd.symm.trans (by rw [Option.some.inj (gOrd.symm.trans hgv)]; exact htv))
  obtain ⟨fw, hdw⟩ := Below.trod (v := .agg csv) (by kernel_rfl) (by kernel_rfl) (of_decide_eq_true (by kernel_rfl)) ⟨fuelv, hdv⟩ hb (fun x hx => by simpa using hW'.lt x (by simp [hx]))
  have hvars := trodVars_mk1 hgv htv hvb hdw
  exact ⟨_, rfl, _, _, _, [], _, _, hW', (trodAll_cons_mk (shut_bool Tryd.underlying4 _) trodAll_mk0), (trodAll_cons_mk (shut_Index h0 hb l0) (trodAll_cons_mk (shut_RowS h1 hb l1) (trodAll_cons_mk (ints_shut h2 hb l2) trodAll_mk0))), hvars, hb.frame _, fun h => by cases h⟩
theorem row_holds : Rows.FnExactWorkOfSaid :=
  OpenClaim.holds_of_wide 6 Tryd.f6 rfl rfl rfl rfl rfl rfl rfl ⟨rfl, rfl, rfl, rfl, rfl⟩ rfl rfl rfl rfl rfl (by kernel_rfl) Tryd.func6 (by kernel_rfl)
    (of_decide_eq_true (by kernel_rfl)) (by unfold Func.isWrapper; first | (rw [if_pos (by decide +kernel)]; kernel_rfl) | (rw [if_neg (by decide +kernel)]; exact ⟨rfl, rfl⟩))
    (fun os started H enc _ => lifted os started H enc)
theorem proved : Rows.FnExactWorkOfCardSaid :=
  Claim7.holds_tied_plain_at .later [] Rows.fnExactWorkOfCard.laidKinds true Rows.fnExactWorkOfCard.stood.harness false
    row_holds (fun _ h => by cases h) (by kernel_rfl) (fun _ h => by cases h) fnExactWorkOf_row_tie rfl ⟨rfl, rfl⟩ (by kernel_rfl) rfl
    (fun f fn hf hfn => by
      obtain rfl : f = 6 := Option.some.inj ((show Tryd.prog.funcNamed "loop.example/g01986/laws.FnExactWorkOf" = some 6 by kernel_rfl).symm.trans hf) |>.symm
      obtain rfl : fn = Tryd.f6 := (Option.some.inj (Tryd.func6.symm.trans hfn)).symm
      exact ⟨by kernel_rfl, fun j t ht => by
        rw [Tryd.params6] at ht
        have hm : t ∈ [56, 70, 28] := by simpa using Array.mem_of_getElem? ht
        have hall : ([56, 70, 28].all fun u => !Tryd.prog.wantsStandIn u) = true := by kernel_rfl
        exact (show Tryd.prog.wantsStandIn t = false by simpa using List.all_eq_true.1 hall t hm)⟩)
    (by kernel_rfl)
end fnExactWorkOf
end Go.Proofs.YtidhmgboknffkaaDoor
