/-
  For every charge, FormatCharge answers as the specification does, and writes no argument; the tables of the library are laid as the card ties them; no condition else.
-/
import Derived.Test.YtjapbmaibgplkaaDoorCF2
import Derived.Test.YtjapbmaibgplkaaDoorTie
import Derived.Test.YtjapbmaibgplkaaDoorCards
import Derived.LaidMore
import Derived.Stop.Joined
import Derived.Stop.LaidErr
import Derived.SevenTiedAt
import Derived.WalkKit
import Derived.ProofKit
import Derived.OpenShut
namespace Go.Proofs.YtjapbmaibgplkaaDoor
open Go.ChangeShapes Go.WideShapes Go.ChangeAt Go.WideMaps Go.WideElems Go.RowKit
open Go.ChangeMaps (open_string shut_string)
set_option linter.unusedVariables false
theorem gTab : Tryd.prog.globalNamed "internal/strconv.uint64pow10" = some 1 := by kernel_rfl
theorem tTab : (Tryd.prog.globals[1]?).map (·.type) = some 69 := by kernel_rfl
theorem uTab : Tryd.prog.underlying 69 = some (.array 20 62) := Tryd.underlying69
theorem cU64 : Tryd.prog.cellsOf 62 = 1 := by kernel_rfl
theorem cTab : Tryd.prog.cellsOf 69 = 20 := by kernel_rfl
theorem gTz : Tryd.prog.globalNamed "math/bits.deBruijn32tab" = some 2 := by kernel_rfl
theorem tTz : (Tryd.prog.globals[2]?).map (·.type) = some 74 := by kernel_rfl
theorem uTz : Tryd.prog.underlying 74 = some (.array 32 5) := Tryd.underlying74
theorem cU8 : Tryd.prog.cellsOf 5 = 1 := by kernel_rfl
theorem cTz : Tryd.prog.cellsOf 74 = 32 := by kernel_rfl
namespace fnExactFormatCharge
theorem own : ownKnob Tryd.prog.godebug = none := by kernel_rfl
theorem door_met (os : Os) (args : Array Value) : laidMetH Tryd.prog Rows.fnExactFormatChargeRow.laid ((World.doorLaid Tryd.prog 24 os).forCall (fun _ _ => 0) ⟨#[], args, []⟩).memory :=
  laidMetH_of_parts3 (fuel := 8) (laidMet_of_run' 8 (by kernel_rfl) (by kernel_rfl)) (by kernel_rfl) (by kernel_rfl)
theorem of_laid {W : World} (h : laidMetH Tryd.prog Rows.fnExactFormatChargeRow.laid W) : TabZ W ∧ Tab W := by
  rw [MakeChecks.laidMetH_plain _ _ _ (by kernel_rfl)] at h
  exact ⟨Lib.tabIs_of_head gTz tTz uTz Tryd.underlying5 cU8 cTz h, Lib.tabIs_of_head gTab tTab uTab Tryd.underlying62 cU64 cTab h.tail.tail⟩
set_option maxRecDepth 100000 in
theorem lifted (os : Os) (started : os.Started) (H : Type) (enc : TypeId × Value → H) :
    ReturnsInHanded {} Tryd.checked os 3 .any (fun w args => (Rows.fnExactFormatChargeSpec.pre enc Tryd.prog Tryd.f3 [] false w args ∧ laidMetH Tryd.prog Rows.fnExactFormatChargeRow.laid w) ∧ sizedMet enc Tryd.prog Tryd.f3 (OpenSpec.ofChange Rows.fnExactFormatChargeSpec) false w args)
      (Rows.fnExactFormatChargeSpec.post enc Tryd.prog Tryd.f3 false true false false) := by
  refine returnsInHanded_of_change_and (C := Tryd.checked) (X := fun w _ => laidMetH Tryd.prog Rows.fnExactFormatChargeRow.laid w) (fun _ _ _ hh h => h.of_heap hh) own started (by kernel_rfl) Tryd.func3
    (ChangeSpec.witness_shaped (enc := enc) (C := Tryd.checked) (os := os) (X := fun w _ => laidMetH Tryd.prog Rows.fnExactFormatChargeRow.laid w) false (World.doorLaid Tryd.prog 24 os) #[.agg #[.int .i64 0, .int .i64 0, .slice none 0 0, .slice none 0 0, .slice none 0 0]] 8 rfl (World.shaped_of_RefB (by kernel_rfl) (by kernel_rfl)) (by kernel_rfl) (by kernel_rfl) (by kernel_rfl) (door_met os _)) ?_
  intro W base args ds gs before hval0 hW _ hreach hL _
  have hval : ∀ (j : Nat) t v, Tryd.f3.params[j]? = some t → args[j]? = some v → Value.okWide Tryd.prog W .any base t v := hval0
  have hW' := hW
  obtain ⟨p, q, hA0, hV, rfl, hfz, hnd⟩ := hW
  have hA : DataW.TrodAll enc Tryd.prog W 0 (fun _ => true) true Tryd.f3.params.toList args.toList ds p := hA0
  rw [Tryd.params3] at hA hval
  obtain ⟨v0, vs0, d0, ds0, p0, q0, hargs, rfl, rfl, h0, r0⟩ := trodAll_cons hA
  obtain ⟨rfl, rfl, rfl⟩ := trodAll_nil r0
  obtain rfl : args = #[v0] := by cases args; simp_all
  obtain ⟨rfl, rfl⟩ := trodVars_none hV
  obtain ⟨cs0, x0, rfl, g0, m0⟩ := stA_open opn_Charge Tryd.underlying24 (hval 0 24 v0 rfl rfl) h0
  obtain ⟨a0_0, a0_1, x0_2, x0_3, x0_4⟩ := x0
  obtain ⟨v0_2, v0_3, v0_4, k0⟩ := tCharge_R g0
  obtain ⟨rfl, h0_2, h0_3, h0_4⟩ := k0
  obtain ⟨_, ⟨_, ⟨o0_2, ⟨o0_3, o0_4⟩⟩⟩⟩ := m0
  have htab := (of_laid hL).2
  clear hA0 hval0
  simp only [List.append_nil] at hW'
  have l0 : ∀ x ∈ p0, x.block < W.heap.size := fun x hx => by simpa using hW'.lt x (by simp [hx])
  refine (law_fnExactFormatCharge a0_0 a0_1 v0_2 v0_3 v0_4 x0_2 x0_3 x0_4 (fmtC (a0_0, a0_1, x0_2, x0_3, x0_4)) W h0_2 h0_3 h0_4 o0_2 o0_3 o0_4  (fun v2 v3 v4 w h2 h3 h4 hz => specFormatCharge a0_0 a0_1 v2 v3 v4 x0_2 x0_3 x0_4 w h2 h3 h4 (zL_len (show zL tInt x0_2 ≤ 1048576 by omega)) (zL_len (show zL tInt x0_3 ≤ 1048576 by omega)) (zL_len (show zL tInt x0_4 ≤ 1048576 by omega))) (fun v2 v3 v4 u hB h2 h3 h4 hz => implFormatCharge a0_0 a0_1 v2 v3 v4 x0_2 x0_3 x0_4 u h2 h3 h4 (by omega) (by omega) (by omega) (htab.on hB))).mono fun e W' ⟨he, hb⟩ => ?_
  subst he
  exact ⟨_, rfl, _, _, _, [], _, [], hW', (trodAll_cons_mk (shut_bool Tryd.underlying4 _) trodAll_mk0), (trodAll_cons_mk (shut_Charge h0 hb l0) trodAll_mk0), rfl, hb.frame _, fun h => by cases h⟩
theorem row_holds : Rows.FnExactFormatChargeSaid :=
  OpenClaim.holds_of_wide 3 Tryd.f3 rfl rfl rfl rfl rfl rfl rfl ⟨rfl, rfl, rfl, rfl, rfl⟩ rfl rfl rfl rfl rfl (by kernel_rfl) Tryd.func3 (by kernel_rfl)
    (of_decide_eq_true (by kernel_rfl)) (by unfold Func.isWrapper; first | (rw [if_pos (by decide +kernel)]; kernel_rfl) | (rw [if_neg (by decide +kernel)]; exact ⟨rfl, rfl⟩))
    (fun os started H enc _ => lifted os started H enc)
theorem proved : Rows.FnExactFormatChargeCardSaid :=
  Claim7.holds_tied_plain_at .later [] Rows.fnExactFormatChargeCard.laidKinds true Rows.fnExactFormatChargeCard.stood.harness false
    row_holds (fun _ h => by cases h) (by kernel_rfl) (fun _ h => by cases h) fnExactFormatCharge_row_tie rfl ⟨rfl, rfl⟩ (by kernel_rfl) rfl
    (fun f fn hf hfn => by
      obtain rfl : f = 3 := Option.some.inj ((show Tryd.prog.funcNamed "loop.example/g01986/laws.FnExactFormatCharge" = some 3 by kernel_rfl).symm.trans hf) |>.symm
      obtain rfl : fn = Tryd.f3 := (Option.some.inj (Tryd.func3.symm.trans hfn)).symm
      exact ⟨by kernel_rfl, fun j t ht => by
        rw [Tryd.params3] at ht
        have hm : t ∈ [24] := by simpa using Array.mem_of_getElem? ht
        have hall : ([24].all fun u => !Tryd.prog.wantsStandIn u) = true := by kernel_rfl
        exact (show Tryd.prog.wantsStandIn t = false by simpa using List.all_eq_true.1 hall t hm)⟩)
    (by kernel_rfl)
end fnExactFormatCharge
end Go.Proofs.YtjapbmaibgplkaaDoor
