/-
  For every argument, SetOrder answers as the specification does, in memory of its own, and writes no argument; the table of orders is laid as the card ties it; no condition else.
-/
import Derived.Test.YtcolddalajoheaaGreatDoorSO17
import Derived.Test.YtcolddalajoheaaGreatDoorSO18
import Derived.Test.YtcolddalajoheaaGreatDoorSO19
import Derived.Test.YtcolddalajoheaaGreatDoorTie
import Derived.Test.YtcolddalajoheaaGreatDoorCards
import Derived.LaidMore
import Derived.Stop.Joined
import Derived.Stop.LaidErr
import Derived.SevenTiedAt
import Derived.WalkKit
import Derived.ProofKit
import Derived.OpenShut
namespace Go.Proofs.YtcolddalajoheaaGreatDoor
open Go.ChangeShapes Go.WideShapes Go.ChangeAt Go.WideMaps Go.WideElems Go.RowKit
open Go.ChangeMaps (open_string shut_string)
set_option linter.unusedVariables false
namespace fnExactSetOrder
open ZD0
theorem own : ownKnob Tryz.prog.godebug = none := by kernel_rfl
theorem door_met (os : Os) (args : Array Value) : laidMetH Tryz.prog Rows.fnExactSetOrderRow.laid ((World.doorLaid Tryz.prog 24 os).forCall (fun _ _ => 0) ⟨#[], args, []⟩).memory :=
  laidMetH_of_parts3 (fuel := 8) (laidMet_of_run' 8 (by kernel_rfl) (by kernel_rfl)) (by kernel_rfl) (by kernel_rfl)
theorem of_laid {W : World} (h : laidMetH Tryz.prog Rows.fnExactSetOrderRow.laid W) : OrdT W := by
  rw [MakeChecks.laidMetH_plain _ _ _ (by kernel_rfl)] at h
  exact ordT_of_head h
set_option maxRecDepth 100000 in
theorem lifted (os : Os) (started : os.Started) (H : Type) (enc : TypeId × Value → H) :
    ReturnsInHanded {} Tryz.checked os 6 .any (fun w args => (Rows.fnExactSetOrderSpec.pre enc Tryz.prog Tryz.f6 [] false w args ∧ laidMetH Tryz.prog Rows.fnExactSetOrderRow.laid w) ∧ sizedMet enc Tryz.prog Tryz.f6 (OpenSpec.ofChange Rows.fnExactSetOrderSpec) false w args)
      (Rows.fnExactSetOrderSpec.post enc Tryz.prog Tryz.f6 false true false false) := by
  refine returnsInHanded_of_change_and (C := Tryz.checked) (X := fun w _ => laidMetH Tryz.prog Rows.fnExactSetOrderRow.laid w) (fun _ _ _ hh h => h.of_heap hh) own started (by kernel_rfl) Tryz.func6
    (ChangeSpec.witness_shaped (enc := enc) (C := Tryz.checked) (os := os) (X := fun w _ => laidMetH Tryz.prog Rows.fnExactSetOrderRow.laid w) false (World.doorLaid Tryz.prog 24 os) #[.agg #[(), Ja, Ja, (), (), (), (), Ja], ()] 8 rfl (World.shaped_of_RefB (by kernel_rfl) (by kernel_rfl)) (by kernel_rfl) (by kernel_rfl) (by kernel_rfl) (door_met os _)) ?_
  intro W base args ds gs before hval0 hW _ hreach hL _
  have hval : ∀ (j : Nat) t v, Tryz.f6.params[j]? = some t → args[j]? = some v → Value.okWide Tryz.prog W .any base t v := hval0
  have hW' := hW
  obtain ⟨p, q, hA0, hV, rfl, hfz, hnd⟩ := hW
  have hA : DataW.TrodAll enc Tryz.prog W 0 (fun _ => true) true Tryz.f6.params.toList args.toList ds p := hA0
  rw [Tryz.params6] at hA hval
  obtain ⟨v0, vs0, d0, ds0, p0, q0, hargs, rfl, rfl, h0, r0⟩ := trodAll_cons hA
  obtain ⟨v1, vs1, d1, ds1, p1, q1, rfl, rfl, rfl, h1, r1⟩ := trodAll_cons r0
  obtain ⟨rfl, rfl, rfl⟩ := trodAll_nil r1
  obtain rfl : args = #[v0, v1] := by cases args; simp_all
  have hV1 : DataW.TrodVars enc Tryz.prog W (fun _ => true) ["loop.example/g01986/impl.probeOrders"] gs q := hV
  obtain ⟨gv, tv, csv, fuelv, dv, pv, rfl, hgv, htv, hvarv, hdv, rfl⟩ := trodVars_one hV1
  obtain ⟨cs0, x0, rfl, g0, m0⟩ := stA_open opn_Engine Tryz.underlying30 (hval 0 30 v0 rfl rfl) h0
  obtain ⟨⟨x0_0, a0_1⟩, a0_2, x0_3, x0_4, x0_5, x0_6, a0_7⟩ := x0
  obtain ⟨v0_0, v0_3, v0_4, v0_5, v0_6, k0⟩ := tEngine_R g0
  obtain ⟨rfl, h0_0, h0_3, h0_4, h0_5, h0_6⟩ := k0
  obtain ⟨⟨o0_0, _⟩, ⟨_, ⟨o0_3, ⟨o0_4, ⟨o0_5, ⟨o0_6, _⟩⟩⟩⟩⟩⟩ := m0
  obtain ⟨x1_0, h1_0, o1_0⟩ := slA_open (Up 3) Tryz.underlying25 (hval 1 25 v1 rfl rfl) h1
  have htab := (of_laid hL)
  clear hA0 hval0
  simp only [List.append_nil] at hW'
  have l0 : ∀ x ∈ p0, x.block < W.heap.size := fun x hx => by simpa using hW'.lt x (by simp [hx])
  have l1 : ∀ x ∈ p1, x.block < W.heap.size := fun x hx => by simpa using hW'.lt x (by simp [hx])
  refine (law_fnExactSetOrder a0_1 a0_2 a0_7 v0_0 v0_3 v0_4 v0_5 v0_6 x0_0 x0_3 x0_4 x0_5 x0_6 v1 x1_0 (fitE ((x0_0, a0_1), a0_2, x0_3, x0_4, x0_5, x0_6, a0_7) (Yf ((x0_0, a0_1), a0_2, x0_3, x0_4, x0_5, x0_6, a0_7) x1_0).1) (Yf ((x0_0, a0_1), a0_2, x0_3, x0_4, x0_5, x0_6, a0_7) x1_0).2 W h0_0 h0_3 h0_4 h0_5 h0_6 h1_0 o0_0 o0_3 o0_4 o0_5 o0_6 o1_0 (ord_size ((x0_0, a0_1), a0_2, x0_3, x0_4, x0_5, x0_6, a0_7) x1_0) (fun v0 v3 v4 v5 v6 kv w h0 h3 h4 h5 h6 hk hz nk => fitSpecOrder a0_1 a0_2 a0_7 x0_0 x0_3 x0_4 x0_5 x0_6 x1_0 v0 v3 v4 v5 v6 kv w h0 h3 h4 h5 h6 hk hz nk) (fun v0 v3 v4 v5 v6 kv u hB h0 h3 h4 h5 h6 hk hz nk => fitImplOrder a0_1 a0_2 a0_7 x0_0 x0_3 x0_4 x0_5 x0_6 x1_0 v0 v3 v4 v5 v6 kv u (htab.on hB) h0 h3 h4 h5 h6 hk hz nk)).mono fun e W' ⟨he, hb⟩ => ?_
  subst he
  have hvb : W'.var? Tryz.prog "loop.example/g01986/impl.probeOrders" = some csv := var_below hgv hvarv hb
  obtain rfl : 183 = tv := Option.some.inj (tOrd.symm.trans (by rw [Option.some.inj (gOrd.symm.trans hgv)]; exact htv))
  obtain ⟨fw, hdw⟩ := Below.trod (v := .agg csv) (by kernel_rfl) (by kernel_rfl) (of_decide_eq_true (by kernel_rfl)) ⟨fuelv, hdv⟩ hb (fun x hx => by simpa using hW'.lt x (by simp [hx]))
  have hvars := trodVars_mk1 hgv htv hvb hdw
  exact ⟨_, rfl, _, _, _, [], _, _, hW', (trodAll_cons_mk (shut_bool Tryz.underlying4 _) trodAll_mk0), (trodAll_cons_mk (shut_Engine h0 hb l0) (trodAll_cons_mk (ints_shut h1 hb l1) trodAll_mk0)), hvars, hb.frame _, fun h => by cases h⟩
theorem row_holds : Rows.FnExactSetOrderSaid :=
  OpenClaim.holds_of_wide 6 Tryz.f6 rfl rfl rfl rfl rfl rfl rfl ⟨rfl, rfl, rfl, rfl, rfl⟩ rfl rfl rfl rfl rfl (by kernel_rfl) Tryz.func6 (by kernel_rfl)
    (of_decide_eq_true (by kernel_rfl)) (by unfold Func.isWrapper; first | (rw [if_pos (by decide +kernel)]; kernel_rfl) | (rw [if_neg (by decide +kernel)]; exact ⟨rfl, rfl⟩))
    (fun os started H enc _ => lifted os started H enc)
theorem proved : Rows.FnExactSetOrderCardSaid :=
  Claim7.holds_tied_plain_at .later [] Rows.fnExactSetOrderCard.laidKinds true Rows.fnExactSetOrderCard.stood.harness false
    row_holds (fun _ h => by cases h) (by kernel_rfl) (fun _ h => by cases h) fnExactSetOrder_row_tie rfl ⟨rfl, rfl⟩ (by kernel_rfl) rfl
    (fun f fn hf hfn => by
      obtain rfl : f = 6 := Option.some.inj ((show Tryz.prog.funcNamed "loop.example/g01986/laws.FnExactSetOrder" = some 6 by kernel_rfl).symm.trans hf) |>.symm
      obtain rfl : fn = Tryz.f6 := (Option.some.inj (Tryz.func6.symm.trans hfn)).symm
      exact ⟨by kernel_rfl, fun j t ht => by
        rw [Tryz.params6] at ht
        have hm : t ∈ [30, 25] := by simpa using Array.mem_of_getElem? ht
        have hall : ([30, 25].all fun u => !Tryz.prog.wantsStandIn u) = true := by kernel_rfl
        exact (show Tryz.prog.wantsStandIn t = false by simpa using List.all_eq_true.1 hall t hm)⟩)
    (by kernel_rfl)
end fnExactSetOrder
end Go.Proofs.YtcolddalajoheaaGreatDoor
