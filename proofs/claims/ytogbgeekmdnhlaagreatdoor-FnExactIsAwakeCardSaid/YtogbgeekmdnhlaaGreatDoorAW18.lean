/-
 Texts of the proof, merged: KStore, KEngine.
-/
import Derived.Test.YtogbgeekmdnhlaaGreatDoorAW1
import Derived.Test.YtogbgeekmdnhlaaGreatDoorAW7
import Derived.Test.YtogbgeekmdnhlaaGreatDoorAW13
namespace Go.Proofs.YtogbgeekmdnhlaaGreatDoor
open Go.RowKit
set_option linter.unusedVariables false
set_option linter.unusedSimpArgs false
theorem tStore_one : tStore.One := (tPair_one (tSl_one _ _) tInt_one)
theorem tIntES_one : tIntES.One := fun {w cs x} h v hv => by
 obtain ⟨u, rfl, h⟩ := h
 obtain ⟨a, c, rfl⟩ := slR_len h
 simp at hv; subst hv; rfl
theorem tEngine_one : tEngine.One := (tPair_one tStore_one (tPair_one tInt_one (tPair_one tIntES_one (tPair_one (tSl_one _ _) (tPair_one (tSl_one _ _) (tPair_one (tSl_one _ _) tInt_one))))))
theorem szK_Engine_Y {cs : List Value} {x : _} {k0 : Int} {w : World} (h : tEngine.R w cs x) (hs : ((tEngine.sz x : Nat) : Int) ≤ k0) (hk : k0 ≤ 1048576) :
  Calls Tryz.prog 12 #[.agg cs.toArray, .int .i64 k0] w fun e w' => e = .returned (.int .i64 (k0 - ((tEngine.sz x : Nat) : Int))) ∧ Below w.heap.size w w' := by
 obtain ⟨⟨x0, a1⟩, a2, x3, x4, x5, x6, a7⟩ := x
 obtain ⟨v0, v3, v4, v5, v6, rfl, h0, h3, h4, h5, h6⟩ := tEngine_R h
 rw [tEngine_sz] at hs ⊢
 exact szEngine_Y _ _ _ _ _ _ _ _ _ _ _ _ _ _ _ h0 h3 h4 h5 h6 hs hk
theorem szK_Engine_N {cs : List Value} {x : _} {k0 : Int} {w : World} (h : tEngine.R w cs x) (hs : k0 < ((tEngine.sz x : Nat) : Int)) (hk : k0 ≤ 1048576) (hp : 0 ≤ k0) (ho : tEngine.ok x) :
  Calls Tryz.prog 12 #[.agg cs.toArray, .int .i64 k0] w fun e w' => e = .returned (.int .i64 (-1)) ∧ Below w.heap.size w w' := by
 obtain ⟨⟨x0, a1⟩, a2, x3, x4, x5, x6, a7⟩ := x
 obtain ⟨v0, v3, v4, v5, v6, rfl, h0, h3, h4, h5, h6⟩ := tEngine_R h
 obtain ⟨⟨o0, _⟩, ⟨_, ⟨o3, ⟨o4, ⟨o5, ⟨o6, _⟩⟩⟩⟩⟩⟩ := ho
 rw [tEngine_sz] at hs
 exact szEngine_N _ _ _ _ _ _ _ _ _ _ _ _ _ _ _ h0 h3 h4 h5 h6 hs hk hp o0 o3 o4 o5 o6
theorem toK_Engine {cs : List Value} {x : _} {w : World} (h : tEngine.R w cs x) (hs : tEngine.sz x ≤ 1048576) :
  Calls Tryz.prog 14 #[.agg cs.toArray] w (FreshT tEngine (fun cs => .agg cs.toArray) w x) := by
 obtain ⟨⟨x0, a1⟩, a2, x3, x4, x5, x6, a7⟩ := x
 obtain ⟨v0, v3, v4, v5, v6, rfl, h0, h3, h4, h5, h6⟩ := tEngine_R h
 rw [tEngine_sz] at hs
 exact toEngine_T _ _ _ _ _ _ _ _ _ _ _ _ _ _ h0 h3 h4 h5 h6 (by omega) (by omega) (by omega) (by omega) (by omega)
theorem eqK_Engine {cs ds : List Value} {x : _} {w : World} (h : tEngine.R w cs x) (g : tEngine.R w ds x) (hs : tEngine.sz x ≤ 1048576) :
  Calls Tryz.prog 16 #[.agg cs.toArray, .agg ds.toArray] w fun e w' => e = .returned (.bool true) ∧ Below w.heap.size w w' := by
 obtain ⟨⟨x0, a1⟩, a2, x3, x4, x5, x6, a7⟩ := x
 obtain ⟨v0, v3, v4, v5, v6, rfl, h0, h3, h4, h5, h6⟩ := tEngine_R h
 obtain ⟨u0, u3, u4, u5, u6, rfl, g0, g3, g4, g5, g6⟩ := tEngine_R g
 rw [tEngine_sz] at hs
 exact eqEngine_T _ _ _ _ _ _ _ _ _ _ _ _ _ _ _ _ _ _ _ h0 h3 h4 h5 h6 g0 g3 g4 g5 g6 (by omega) (by omega) (by omega) (by omega) (by omega)
theorem markK_Engine {cs : List Value} {x : _} {F : Nat → Prop} (k : Int) {w : World} (h : tEngine.O w F cs x) (hs : tEngine.sz x ≤ 1048576) (k0 : 0 ≤ k) (k1 : k ≤ 268435456) :
  Calls Tryz.prog 20 #[.agg cs.toArray, .int .i64 k] w fun e w' => e = .returned (.int .i64 (k + (tEngine.nv x : Int))) ∧ tEngine.O w' F cs (tEngine.mv x k) ∧ Turn F w w' := by
 obtain ⟨⟨x0, a1⟩, a2, x3, x4, x5, x6, a7⟩ := x
 obtain ⟨v0, v3, v4, v5, v6, ety3, F0, F3, F4, F5, F6, rfl, h0, h3, h4, h5, h6, q0, q3, q4, q5, q6, d0_3, d0_4, d0_5, d0_6, d3_4, d3_5, d3_6, d4_5, d4_6, d5_6⟩ := tEngine_O h
 rw [tEngine_sz] at hs
 refine (markEngine_T _ _ _ _ _ _ _ _ _ _ _ _ _ F _ _ _ _ _ k _ h0 h3 h4 h5 h6 q0 q3 q4 q5 q6 d0_3 d0_4 d0_5 d0_6 d3_4 d3_5 d3_6 d4_5 d4_6 d5_6 (by omega) (by omega) (by omega) (by omega) (by omega) k0 (by omega)).mono ?_
 rintro e w' ⟨rfl, ⟨m0, m3, m4, m5, m6⟩, c⟩
 refine ⟨ty_ret (by rw [tEngine_nv]; omega), ?_, c⟩
 rw [tEngine_mv]
 exact tEngine_mkO m0 m3 m4 m5 m6 q0 q3 q4 q5 q6 d0_3 d0_4 d0_5 d0_6 d3_4 d3_5 d3_6 d4_5 d4_6 d5_6
end Go.Proofs.YtogbgeekmdnhlaaGreatDoor
