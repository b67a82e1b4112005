/-
  Texts of the proof, merged: LawIsEngine, OpenInts, OpnT, OVersion, OVersionS, OVersionSS, OStore, OCond, OCondS, OQuery, ORow, ORowS, OActive, OActiveS, OFinished, OFinishedS, OCharge, OChargeS, OEngine.
-/
import Derived.Test.YtdhglmoanpkeoaaGreatDoorIE6
import Derived.ProofKit
import Derived.OpenShut
import Derived.Carry
import Derived.Lib.SmallJoins
import Derived.Deep.Slices
namespace Go.Proofs.YtdhglmoanpkeoaaGreatDoor
open Go.RowKit
set_option linter.unusedVariables false
set_option linter.unusedSimpArgs false
set_option maxHeartbeats 32000000 in
set_option maxRecDepth 100000 in
theorem law_fnExactIsEngine (a0_1 a0_2 a0_7 : Int) (v0_0 v0_3 v0_4 v0_5 v0_6 : Value) (x0_0 : List (List (Int × List Int × Int × Int))) (x0_3 : List Int) (x0_4 : List ((Int × Int × List (Int × Int × Int) × List Int) × Int × List Int × Int × Int × Int × List (Int × List Int))) (x0_5 : List ((Int × Int × List (Int × Int × Int) × List Int) × Int × Int × List (Int × List Int))) (x0_6 : List (Int × Int × List Int × List Int × List Int)) (r0 : Bool) (w : World) (h0_0 : SlR tVersionS w v0_0 x0_0) (h0_3 : SlR tInt w v0_3 x0_3) (h0_4 : SlR tActive w v0_4 x0_4) (h0_5 : SlR tFinished w v0_5 x0_5) (h0_6 : SlR tCharge w v0_6 x0_6) (o0_0 : tVersionSS.ok x0_0) (o0_3 : tIntS.ok x0_3) (o0_4 : tActiveS.ok x0_4) (o0_5 : tFinishedS.ok x0_5) (o0_6 : tChargeS.ok x0_6) 
    (hspec : ∀ (v0_0 v0_3 v0_4 v0_5 v0_6 : Value) (w : World), SlR tVersionS w v0_0 x0_0 → SlR tInt w v0_3 x0_3 → SlR tActive w v0_4 x0_4 → SlR tFinished w v0_5 x0_5 → SlR tCharge w v0_6 x0_6 → zL tVersionS x0_0 + zL tInt x0_3 + zL tActive x0_4 + zL tFinished x0_5 + zL tCharge x0_6 ≤ 1048576 → Calls Tryz.prog 9 #[.agg #[v0_0, .int .i64 a0_1, .int .i64 a0_2, v0_3, v0_4, v0_5, v0_6, .int .i64 a0_7]] w (fun e w' => e = .returned (.bool r0) ∧ Below w.heap.size w w'))
    (himpl : ∀ (v0_0 v0_3 v0_4 v0_5 v0_6 : Value) (u : World), Below w.heap.size w u → SlR tVersionS u v0_0 x0_0 → SlR tInt u v0_3 x0_3 → SlR tActive u v0_4 x0_4 → SlR tFinished u v0_5 x0_5 → SlR tCharge u v0_6 x0_6 → zL tVersionS x0_0 + zL tInt x0_3 + zL tActive x0_4 + zL tFinished x0_5 + zL tCharge x0_6 ≤ 1048576 → Calls Tryz.prog 11 #[.agg #[v0_0, .int .i64 a0_1, .int .i64 a0_2, v0_3, v0_4, v0_5, v0_6, .int .i64 a0_7]] u (fun e w' => e = .returned (.bool r0) ∧ Below u.heap.size u w')) :
    Calls Tryz.prog 3 #[.agg #[v0_0, .int .i64 a0_1, .int .i64 a0_2, v0_3, v0_4, v0_5, v0_6, .int .i64 a0_7]] w fun e w' => e = .returned (.bool true) ∧ Below w.heap.size w w' := by
  obtain ⟨c0_0, k0_0, rfl⟩ := slR_len h0_0
  obtain ⟨c0_3, k0_3, rfl⟩ := slR_len h0_3
  obtain ⟨c0_4, k0_4, rfl⟩ := slR_len h0_4
  obtain ⟨c0_5, k0_5, rfl⟩ := slR_len h0_5
  obtain ⟨c0_6, k0_6, rfl⟩ := slR_len h0_6
  have HB0 : Hid (Below w.heap.size w (w.alloc (.cells #[.slice c0_0 x0_0.length k0_0, .int .i64 a0_1, .int .i64 a0_2, .slice c0_3 x0_3.length k0_3, .slice c0_4 x0_4.length k0_4, .slice c0_5 x0_5.length k0_5, .slice c0_6 x0_6.length k0_6, .int .i64 a0_7] 30))) := Lib.hid ((Below.refl _ w).alloc (Nat.le_refl _) _)
  have B0 : Hid ((w.alloc (.cells #[.slice c0_0 x0_0.length k0_0, .int .i64 a0_1, .int .i64 a0_2, .slice c0_3 x0_3.length k0_3, .slice c0_4 x0_4.length k0_4, .slice c0_5 x0_5.length k0_5, .slice c0_6 x0_6.length k0_6, .int .i64 a0_7] 30)).heap[w.heap.size]? = some (.cells #[.slice c0_0 x0_0.length k0_0, .int .i64 a0_1, .int .i64 a0_2, .slice c0_3 x0_3.length k0_3, .slice c0_4 x0_4.length k0_4, .slice c0_5 x0_5.length k0_5, .slice c0_6 x0_6.length k0_6, .int .i64 a0_7] 30 (0, 0))) := Lib.hid (by have := heap_alloc_new w (.cells #[.slice c0_0 x0_0.length k0_0, .int .i64 a0_1, .int .i64 a0_2, .slice c0_3 x0_3.length k0_3, .slice c0_4 x0_4.length k0_4, .slice c0_5 x0_5.length k0_5, .slice c0_6 x0_6.length k0_6, .int .i64 a0_7] 30); simpa only [World.size_alloc] using this)
  have A0_0 : Hid (SlR tVersionS (w.alloc (.cells #[.slice c0_0 x0_0.length k0_0, .int .i64 a0_1, .int .i64 a0_2, .slice c0_3 x0_3.length k0_3, .slice c0_4 x0_4.length k0_4, .slice c0_5 x0_5.length k0_5, .slice c0_6 x0_6.length k0_6, .int .i64 a0_7] 30)) (.slice c0_0 x0_0.length k0_0) x0_0) := Lib.hid (slR_below tVersionS_law h0_0 HB0.out)
  have A0_3 : Hid (SlR tInt (w.alloc (.cells #[.slice c0_0 x0_0.length k0_0, .int .i64 a0_1, .int .i64 a0_2, .slice c0_3 x0_3.length k0_3, .slice c0_4 x0_4.length k0_4, .slice c0_5 x0_5.length k0_5, .slice c0_6 x0_6.length k0_6, .int .i64 a0_7] 30)) (.slice c0_3 x0_3.length k0_3) x0_3) := Lib.hid (slR_below tInt_law h0_3 HB0.out)
  have A0_4 : Hid (SlR tActive (w.alloc (.cells #[.slice c0_0 x0_0.length k0_0, .int .i64 a0_1, .int .i64 a0_2, .slice c0_3 x0_3.length k0_3, .slice c0_4 x0_4.length k0_4, .slice c0_5 x0_5.length k0_5, .slice c0_6 x0_6.length k0_6, .int .i64 a0_7] 30)) (.slice c0_4 x0_4.length k0_4) x0_4) := Lib.hid (slR_below tActive_law h0_4 HB0.out)
  have A0_5 : Hid (SlR tFinished (w.alloc (.cells #[.slice c0_0 x0_0.length k0_0, .int .i64 a0_1, .int .i64 a0_2, .slice c0_3 x0_3.length k0_3, .slice c0_4 x0_4.length k0_4, .slice c0_5 x0_5.length k0_5, .slice c0_6 x0_6.length k0_6, .int .i64 a0_7] 30)) (.slice c0_5 x0_5.length k0_5) x0_5) := Lib.hid (slR_below tFinished_law h0_5 HB0.out)
  have A0_6 : Hid (SlR tCharge (w.alloc (.cells #[.slice c0_0 x0_0.length k0_0, .int .i64 a0_1, .int .i64 a0_2, .slice c0_3 x0_3.length k0_3, .slice c0_4 x0_4.length k0_4, .slice c0_5 x0_5.length k0_5, .slice c0_6 x0_6.length k0_6, .int .i64 a0_7] 30)) (.slice c0_6 x0_6.length k0_6) x0_6) := Lib.hid (slR_below tCharge_law h0_6 HB0.out)
  have O0_0 := Lib.hid o0_0
  have O0_3 := Lib.hid o0_3
  have O0_4 := Lib.hid o0_4
  have O0_5 := Lib.hid o0_5
  have O0_6 := Lib.hid o0_6
  clear h0_0 o0_0 h0_3 o0_3 h0_4 o0_4 h0_5 o0_5 h0_6 o0_6
  have HSP := Lib.hid hspec
  have HIM := Lib.hid himpl
  clear hspec himpl
  by_cases c0 : ((zL tVersionS x0_0 + zL tInt x0_3 + zL tActive x0_4 + zL tFinished x0_5 + zL tCharge x0_6 : Nat) : Int) ≤ (1048576 : Int)
  ·
    have HZ0 : Hid (((zL tVersionS x0_0 + zL tInt x0_3 + zL tActive x0_4 + zL tFinished x0_5 + zL tCharge x0_6 : Nat) : Int) ≤ (1048576 : Int)) := Lib.hid c0
    have HK0 : Hid ((1048576 : Int) ≤ 1048576) := Lib.hid (by omega)
    have hn0 : ¬ (1048576 : Int) - ((zL tVersionS x0_0 + zL tInt x0_3 + zL tActive x0_4 + zL tFinished x0_5 + zL tCharge x0_6 : Nat) : Int) < 0 := by omega
    have HT : Hid (zL tVersionS x0_0 + zL tInt x0_3 + zL tActive x0_4 + zL tFinished x0_5 + zL tCharge x0_6 ≤ 1048576) := Lib.hid (by omega)
    have S0_0 : Hid (zL tVersionS x0_0 ≤ 1048576) := Lib.hid (by omega)
    have S0_3 : Hid (zL tInt x0_3 ≤ 1048576) := Lib.hid (by omega)
    have S0_4 : Hid (zL tActive x0_4 ≤ 1048576) := Lib.hid (by omega)
    have S0_5 : Hid (zL tFinished x0_5 ≤ 1048576) := Lib.hid (by omega)
    have S0_6 : Hid (zL tCharge x0_6 ≤ 1048576) := Lib.hid (by omega)
    have N0_0 := ndL_le tVersionS_law (by decide) x0_0
    have N0_3 := ndL_le tInt_law (by decide) x0_3
    have N0_4 := ndL_le tActive_law (by decide) x0_4
    have N0_5 := ndL_le tFinished_law (by decide) x0_5
    have N0_6 := ndL_le tCharge_law (by decide) x0_6
    clear N0_0 N0_3 N0_4 N0_5 N0_6
    have e0 : (r0 != r0) = false := by simp
    clear c0
    go_enter Tryz.func3, Tryz.ntmps3
    go_wp2_with fail
    have Y_W : Hid (w.heap.size + 1 ≤ (w.alloc (.cells #[.slice c0_0 x0_0.length k0_0, .int .i64 a0_1, .int .i64 a0_2, .slice c0_3 x0_3.length k0_3, .slice c0_4 x0_4.length k0_4, .slice c0_5 x0_5.length k0_5, .slice c0_6 x0_6.length k0_6, .int .i64 a0_7] 30)).heap.size) := Lib.hid (by simp [World.size_alloc])
    generalize (w.alloc (.cells #[.slice c0_0 x0_0.length k0_0, .int .i64 a0_1, .int .i64 a0_2, .slice c0_3 x0_3.length k0_3, .slice c0_4 x0_4.length k0_4, .slice c0_5 x0_5.length k0_5, .slice c0_6 x0_6.length k0_6, .int .i64 a0_7] 30)) = W at *
    have d := Lib.hid (Below.refl W.heap.size W)
    refine (szEngine_Y a0_1 a0_2 a0_7 (.slice c0_0 x0_0.length k0_0) (.slice c0_3 x0_3.length k0_3) (.slice c0_4 x0_4.length k0_4) (.slice c0_5 x0_5.length k0_5) (.slice c0_6 x0_6.length k0_6) x0_0 x0_3 x0_4 x0_5 x0_6 ((1048576 : Int)) W (slR_below tVersionS_law A0_0.out d.out) (slR_below tInt_law A0_3.out d.out) (slR_below tActive_law A0_4.out d.out) (slR_below tFinished_law A0_5.out d.out) (slR_below tCharge_law A0_6.out d.out) HZ0.out HK0.out).mono ?_
    rintro e v1 ⟨rfl, c1⟩
    replace B0 := Lib.hid ((c1.block w.heap.size (Array.getElem?_eq_some_iff.1 B0.out).1).trans B0.out)
    replace d := Lib.hid (d.out.trans (c1.mono d.out.size))
    have Z_v1 := Lib.hid (show W.heap.size ≤ v1.heap.size from c1.size)
    clear c1
    have p_B0_0 := (cell_of_row v1 _ 0 _ _ _ B0.out).trans (show _ = some (Value.slice c0_0 x0_0.length k0_0) from rfl)
    have p_B0_1 := (cell_of_row v1 _ 1 _ _ _ B0.out).trans (show _ = some (Value.int .i64 a0_1) from rfl)
    have p_B0_2 := (cell_of_row v1 _ 2 _ _ _ B0.out).trans (show _ = some (Value.int .i64 a0_2) from rfl)
    have p_B0_3 := (cell_of_row v1 _ 3 _ _ _ B0.out).trans (show _ = some (Value.slice c0_3 x0_3.length k0_3) from rfl)
    have p_B0_4 := (cell_of_row v1 _ 4 _ _ _ B0.out).trans (show _ = some (Value.slice c0_4 x0_4.length k0_4) from rfl)
    have p_B0_5 := (cell_of_row v1 _ 5 _ _ _ B0.out).trans (show _ = some (Value.slice c0_5 x0_5.length k0_5) from rfl)
    have p_B0_6 := (cell_of_row v1 _ 6 _ _ _ B0.out).trans (show _ = some (Value.slice c0_6 x0_6.length k0_6) from rfl)
    have p_B0_7 := (cell_of_row v1 _ 7 _ _ _ B0.out).trans (show _ = some (Value.int .i64 a0_7) from rfl)
    go_wp2_with fail
    clear p_B0_0 p_B0_1 p_B0_2 p_B0_3 p_B0_4 p_B0_5 p_B0_6 p_B0_7
    refine (toEngine_T a0_1 a0_2 a0_7 (.slice c0_0 x0_0.length k0_0) (.slice c0_3 x0_3.length k0_3) (.slice c0_4 x0_4.length k0_4) (.slice c0_5 x0_5.length k0_5) (.slice c0_6 x0_6.length k0_6) x0_0 x0_3 x0_4 x0_5 x0_6 v1 (slR_below tVersionS_law A0_0.out d.out) (slR_below tInt_law A0_3.out d.out) (slR_below tActive_law A0_4.out d.out) (slR_below tFinished_law A0_5.out d.out) (slR_below tCharge_law A0_6.out d.out) S0_0.out S0_3.out S0_4.out S0_5.out S0_6.out).mono ?_
    rintro e v2 ⟨cs, rfl, ow, c2⟩
    replace B0 := Lib.hid ((c2.block w.heap.size (Array.getElem?_eq_some_iff.1 B0.out).1).trans B0.out)
    replace d := Lib.hid (d.out.trans (c2.mono d.out.size))
    have Z_v2 := Lib.hid (show v1.heap.size ≤ v2.heap.size from c2.size)
    clear c2
    replace ow := tEngine_law.lt ow
    obtain ⟨y2_0, y2_3, y2_4, y2_5, y2_6, K2_0, K2_3, K2_4, K2_5, K2_6, rfl, p2_0, p2_3, p2_4, p2_5, p2_6, w2_0, w2_3, w2_4, w2_5, w2_6, d2_0_3, d2_0_4, d2_0_5, d2_0_6, d2_3_4, d2_3_5, d2_3_6, d2_4_5, d2_4_6, d2_5_6⟩ := tEngine_O ow
    obtain ⟨ya2_0, yc2_0, rfl⟩ := slO_len p2_0
    have P2_0 := Lib.hid p2_0
    have Q2_0 := Lib.hid (fun b h => (show v1.heap.size ≤ b ∧ b < v2.heap.size from w2_0 b h))
    obtain ⟨ya2_3, yc2_3, rfl⟩ := slO_len p2_3
    have P2_3 := Lib.hid p2_3
    have Q2_3 := Lib.hid (fun b h => (show v1.heap.size ≤ b ∧ b < v2.heap.size from w2_3 b h))
    obtain ⟨ya2_4, yc2_4, rfl⟩ := slO_len p2_4
    have P2_4 := Lib.hid p2_4
    have Q2_4 := Lib.hid (fun b h => (show v1.heap.size ≤ b ∧ b < v2.heap.size from w2_4 b h))
    obtain ⟨ya2_5, yc2_5, rfl⟩ := slO_len p2_5
    have P2_5 := Lib.hid p2_5
    have Q2_5 := Lib.hid (fun b h => (show v1.heap.size ≤ b ∧ b < v2.heap.size from w2_5 b h))
    obtain ⟨ya2_6, yc2_6, rfl⟩ := slO_len p2_6
    have P2_6 := Lib.hid p2_6
    have Q2_6 := Lib.hid (fun b h => (show v1.heap.size ≤ b ∧ b < v2.heap.size from w2_6 b h))
    have D2_0_3 := Lib.hid d2_0_3
    clear d2_0_3
    have D2_0_4 := Lib.hid d2_0_4
    clear d2_0_4
    have D2_0_5 := Lib.hid d2_0_5
    clear d2_0_5
    have D2_0_6 := Lib.hid d2_0_6
    clear d2_0_6
    have D2_3_4 := Lib.hid d2_3_4
    clear d2_3_4
    have D2_3_5 := Lib.hid d2_3_5
    clear d2_3_5
    have D2_3_6 := Lib.hid d2_3_6
    clear d2_3_6
    have D2_4_5 := Lib.hid d2_4_5
    clear d2_4_5
    have D2_4_6 := Lib.hid d2_4_6
    clear d2_4_6
    have D2_5_6 := Lib.hid d2_5_6
    clear d2_5_6
    clear p2_0 w2_0 p2_3 w2_3 p2_4 w2_4 p2_5 w2_5 p2_6 w2_6 ow
    go_wp2_with fail
    refine (HSP.out (.slice ya2_0 x0_0.length yc2_0) (.slice ya2_3 x0_3.length yc2_3) (.slice ya2_4 x0_4.length yc2_4) (.slice ya2_5 x0_5.length yc2_5) (.slice ya2_6 x0_6.length yc2_6) v2 (slO_reads tVersionS_law P2_0.out) (slO_reads tInt_law P2_3.out) (slO_reads tActive_law P2_4.out) (slO_reads tFinished_law P2_5.out) (slO_reads tCharge_law P2_6.out) HT.out ).mono ?_
    rintro e v3 ⟨rfl, c3⟩
    replace B0 := Lib.hid ((c3.block w.heap.size (Array.getElem?_eq_some_iff.1 B0.out).1).trans B0.out)
    replace P2_0 := Lib.hid (slO_fresh tVersionS_law P2_0.out c3)
    replace P2_3 := Lib.hid (slO_fresh tInt_law P2_3.out c3)
    replace P2_4 := Lib.hid (slO_fresh tActive_law P2_4.out c3)
    replace P2_5 := Lib.hid (slO_fresh tFinished_law P2_5.out c3)
    replace P2_6 := Lib.hid (slO_fresh tCharge_law P2_6.out c3)
    replace d := Lib.hid (d.out.trans (c3.mono d.out.size))
    have Z_v3 := Lib.hid (show v2.heap.size ≤ v3.heap.size from c3.size)
    clear c3
    have p_B0_0 := (cell_of_row v3 _ 0 _ _ _ B0.out).trans (show _ = some (Value.slice c0_0 x0_0.length k0_0) from rfl)
    have p_B0_1 := (cell_of_row v3 _ 1 _ _ _ B0.out).trans (show _ = some (Value.int .i64 a0_1) from rfl)
    have p_B0_2 := (cell_of_row v3 _ 2 _ _ _ B0.out).trans (show _ = some (Value.int .i64 a0_2) from rfl)
    have p_B0_3 := (cell_of_row v3 _ 3 _ _ _ B0.out).trans (show _ = some (Value.slice c0_3 x0_3.length k0_3) from rfl)
    have p_B0_4 := (cell_of_row v3 _ 4 _ _ _ B0.out).trans (show _ = some (Value.slice c0_4 x0_4.length k0_4) from rfl)
    have p_B0_5 := (cell_of_row v3 _ 5 _ _ _ B0.out).trans (show _ = some (Value.slice c0_5 x0_5.length k0_5) from rfl)
    have p_B0_6 := (cell_of_row v3 _ 6 _ _ _ B0.out).trans (show _ = some (Value.slice c0_6 x0_6.length k0_6) from rfl)
    have p_B0_7 := (cell_of_row v3 _ 7 _ _ _ B0.out).trans (show _ = some (Value.int .i64 a0_7) from rfl)
    go_wp2_with fail
    clear p_B0_0 p_B0_1 p_B0_2 p_B0_3 p_B0_4 p_B0_5 p_B0_6 p_B0_7
    refine (toEngine_T a0_1 a0_2 a0_7 (.slice c0_0 x0_0.length k0_0) (.slice c0_3 x0_3.length k0_3) (.slice c0_4 x0_4.length k0_4) (.slice c0_5 x0_5.length k0_5) (.slice c0_6 x0_6.length k0_6) x0_0 x0_3 x0_4 x0_5 x0_6 v3 (slR_below tVersionS_law A0_0.out d.out) (slR_below tInt_law A0_3.out d.out) (slR_below tActive_law A0_4.out d.out) (slR_below tFinished_law A0_5.out d.out) (slR_below tCharge_law A0_6.out d.out) S0_0.out S0_3.out S0_4.out S0_5.out S0_6.out).mono ?_
    rintro e v4 ⟨cs, rfl, ow, c4⟩
    replace B0 := Lib.hid ((c4.block w.heap.size (Array.getElem?_eq_some_iff.1 B0.out).1).trans B0.out)
    replace P2_0 := Lib.hid (slO_fresh tVersionS_law P2_0.out c4)
    replace P2_3 := Lib.hid (slO_fresh tInt_law P2_3.out c4)
    replace P2_4 := Lib.hid (slO_fresh tActive_law P2_4.out c4)
    replace P2_5 := Lib.hid (slO_fresh tFinished_law P2_5.out c4)
    replace P2_6 := Lib.hid (slO_fresh tCharge_law P2_6.out c4)
    replace d := Lib.hid (d.out.trans (c4.mono d.out.size))
    have Z_v4 := Lib.hid (show v3.heap.size ≤ v4.heap.size from c4.size)
    clear c4
    replace ow := tEngine_law.lt ow
    obtain ⟨y4_0, y4_3, y4_4, y4_5, y4_6, K4_0, K4_3, K4_4, K4_5, K4_6, rfl, p4_0, p4_3, p4_4, p4_5, p4_6, w4_0, w4_3, w4_4, w4_5, w4_6, d4_0_3, d4_0_4, d4_0_5, d4_0_6, d4_3_4, d4_3_5, d4_3_6, d4_4_5, d4_4_6, d4_5_6⟩ := tEngine_O ow
    obtain ⟨ya4_0, yc4_0, rfl⟩ := slO_len p4_0
    have P4_0 := Lib.hid p4_0
    have Q4_0 := Lib.hid (fun b h => (show v3.heap.size ≤ b ∧ b < v4.heap.size from w4_0 b h))
    obtain ⟨ya4_3, yc4_3, rfl⟩ := slO_len p4_3
    have P4_3 := Lib.hid p4_3
    have Q4_3 := Lib.hid (fun b h => (show v3.heap.size ≤ b ∧ b < v4.heap.size from w4_3 b h))
    obtain ⟨ya4_4, yc4_4, rfl⟩ := slO_len p4_4
    have P4_4 := Lib.hid p4_4
    have Q4_4 := Lib.hid (fun b h => (show v3.heap.size ≤ b ∧ b < v4.heap.size from w4_4 b h))
    obtain ⟨ya4_5, yc4_5, rfl⟩ := slO_len p4_5
    have P4_5 := Lib.hid p4_5
    have Q4_5 := Lib.hid (fun b h => (show v3.heap.size ≤ b ∧ b < v4.heap.size from w4_5 b h))
    obtain ⟨ya4_6, yc4_6, rfl⟩ := slO_len p4_6
    have P4_6 := Lib.hid p4_6
    have Q4_6 := Lib.hid (fun b h => (show v3.heap.size ≤ b ∧ b < v4.heap.size from w4_6 b h))
    have D4_0_3 := Lib.hid d4_0_3
    clear d4_0_3
    have D4_0_4 := Lib.hid d4_0_4
    clear d4_0_4
    have D4_0_5 := Lib.hid d4_0_5
    clear d4_0_5
    have D4_0_6 := Lib.hid d4_0_6
    clear d4_0_6
    have D4_3_4 := Lib.hid d4_3_4
    clear d4_3_4
    have D4_3_5 := Lib.hid d4_3_5
    clear d4_3_5
    have D4_3_6 := Lib.hid d4_3_6
    clear d4_3_6
    have D4_4_5 := Lib.hid d4_4_5
    clear d4_4_5
    have D4_4_6 := Lib.hid d4_4_6
    clear d4_4_6
    have D4_5_6 := Lib.hid d4_5_6
    clear d4_5_6
    clear p4_0 w4_0 p4_3 w4_3 p4_4 w4_4 p4_5 w4_5 p4_6 w4_6 ow
    have hal : Below v4.heap.size v4 (v4.alloc (.cells #[.slice ya4_0 x0_0.length yc4_0, .int .i64 a0_1, .int .i64 a0_2, .slice ya4_3 x0_3.length yc4_3, .slice ya4_4 x0_4.length yc4_4, .slice ya4_5 x0_5.length yc4_5, .slice ya4_6 x0_6.length yc4_6, .int .i64 a0_7] 40)) := (Below.refl _ _).alloc (Nat.le_refl _) _
    have X1 := Lib.hid (heap_alloc_new v4 (.cells #[.slice ya4_0 x0_0.length yc4_0, .int .i64 a0_1, .int .i64 a0_2, .slice ya4_3 x0_3.length yc4_3, .slice ya4_4 x0_4.length yc4_4, .slice ya4_5 x0_5.length yc4_5, .slice ya4_6 x0_6.length yc4_6, .int .i64 a0_7] 40))
    have Y_X1 := Lib.hid (show v4.heap.size < (v4.alloc (.cells #[.slice ya4_0 x0_0.length yc4_0, .int .i64 a0_1, .int .i64 a0_2, .slice ya4_3 x0_3.length yc4_3, .slice ya4_4 x0_4.length yc4_4, .slice ya4_5 x0_5.length yc4_5, .slice ya4_6 x0_6.length yc4_6, .int .i64 a0_7] 40)).heap.size by simp [World.size_alloc])
    replace B0 := Lib.hid ((hal.block w.heap.size (Array.getElem?_eq_some_iff.1 B0.out).1).trans B0.out)
    replace P2_0 := Lib.hid (slO_fresh tVersionS_law P2_0.out hal)
    replace P2_3 := Lib.hid (slO_fresh tInt_law P2_3.out hal)
    replace P2_4 := Lib.hid (slO_fresh tActive_law P2_4.out hal)
    replace P2_5 := Lib.hid (slO_fresh tFinished_law P2_5.out hal)
    replace P2_6 := Lib.hid (slO_fresh tCharge_law P2_6.out hal)
    replace P4_0 := Lib.hid (slO_fresh tVersionS_law P4_0.out hal)
    replace P4_3 := Lib.hid (slO_fresh tInt_law P4_3.out hal)
    replace P4_4 := Lib.hid (slO_fresh tActive_law P4_4.out hal)
    replace P4_5 := Lib.hid (slO_fresh tFinished_law P4_5.out hal)
    replace P4_6 := Lib.hid (slO_fresh tCharge_law P4_6.out hal)
    replace d := Lib.hid (d.out.trans (hal.mono d.out.size))
    clear hal
    have p_X1_0 := (cell_of_row (v4.alloc (.cells #[.slice ya4_0 x0_0.length yc4_0, .int .i64 a0_1, .int .i64 a0_2, .slice ya4_3 x0_3.length yc4_3, .slice ya4_4 x0_4.length yc4_4, .slice ya4_5 x0_5.length yc4_5, .slice ya4_6 x0_6.length yc4_6, .int .i64 a0_7] 40)) _ 0 _ _ _ X1.out).trans (show _ = some (Value.slice ya4_0 x0_0.length yc4_0) from rfl)
    have p_X1_1 := (cell_of_row (v4.alloc (.cells #[.slice ya4_0 x0_0.length yc4_0, .int .i64 a0_1, .int .i64 a0_2, .slice ya4_3 x0_3.length yc4_3, .slice ya4_4 x0_4.length yc4_4, .slice ya4_5 x0_5.length yc4_5, .slice ya4_6 x0_6.length yc4_6, .int .i64 a0_7] 40)) _ 1 _ _ _ X1.out).trans (show _ = some (Value.int .i64 a0_1) from rfl)
    have p_X1_2 := (cell_of_row (v4.alloc (.cells #[.slice ya4_0 x0_0.length yc4_0, .int .i64 a0_1, .int .i64 a0_2, .slice ya4_3 x0_3.length yc4_3, .slice ya4_4 x0_4.length yc4_4, .slice ya4_5 x0_5.length yc4_5, .slice ya4_6 x0_6.length yc4_6, .int .i64 a0_7] 40)) _ 2 _ _ _ X1.out).trans (show _ = some (Value.int .i64 a0_2) from rfl)
    have p_X1_3 := (cell_of_row (v4.alloc (.cells #[.slice ya4_0 x0_0.length yc4_0, .int .i64 a0_1, .int .i64 a0_2, .slice ya4_3 x0_3.length yc4_3, .slice ya4_4 x0_4.length yc4_4, .slice ya4_5 x0_5.length yc4_5, .slice ya4_6 x0_6.length yc4_6, .int .i64 a0_7] 40)) _ 3 _ _ _ X1.out).trans (show _ = some (Value.slice ya4_3 x0_3.length yc4_3) from rfl)
    have p_X1_4 := (cell_of_row (v4.alloc (.cells #[.slice ya4_0 x0_0.length yc4_0, .int .i64 a0_1, .int .i64 a0_2, .slice ya4_3 x0_3.length yc4_3, .slice ya4_4 x0_4.length yc4_4, .slice ya4_5 x0_5.length yc4_5, .slice ya4_6 x0_6.length yc4_6, .int .i64 a0_7] 40)) _ 4 _ _ _ X1.out).trans (show _ = some (Value.slice ya4_4 x0_4.length yc4_4) from rfl)
    have p_X1_5 := (cell_of_row (v4.alloc (.cells #[.slice ya4_0 x0_0.length yc4_0, .int .i64 a0_1, .int .i64 a0_2, .slice ya4_3 x0_3.length yc4_3, .slice ya4_4 x0_4.length yc4_4, .slice ya4_5 x0_5.length yc4_5, .slice ya4_6 x0_6.length yc4_6, .int .i64 a0_7] 40)) _ 5 _ _ _ X1.out).trans (show _ = some (Value.slice ya4_5 x0_5.length yc4_5) from rfl)
    have p_X1_6 := (cell_of_row (v4.alloc (.cells #[.slice ya4_0 x0_0.length yc4_0, .int .i64 a0_1, .int .i64 a0_2, .slice ya4_3 x0_3.length yc4_3, .slice ya4_4 x0_4.length yc4_4, .slice ya4_5 x0_5.length yc4_5, .slice ya4_6 x0_6.length yc4_6, .int .i64 a0_7] 40)) _ 6 _ _ _ X1.out).trans (show _ = some (Value.slice ya4_6 x0_6.length yc4_6) from rfl)
    have p_X1_7 := (cell_of_row (v4.alloc (.cells #[.slice ya4_0 x0_0.length yc4_0, .int .i64 a0_1, .int .i64 a0_2, .slice ya4_3 x0_3.length yc4_3, .slice ya4_4 x0_4.length yc4_4, .slice ya4_5 x0_5.length yc4_5, .slice ya4_6 x0_6.length yc4_6, .int .i64 a0_7] 40)) _ 7 _ _ _ X1.out).trans (show _ = some (Value.int .i64 a0_7) from rfl)
    go_wp2_with fail
    clear p_X1_0 p_X1_1 p_X1_2 p_X1_3 p_X1_4 p_X1_5 p_X1_6 p_X1_7
    generalize (v4.alloc (.cells #[.slice ya4_0 x0_0.length yc4_0, .int .i64 a0_1, .int .i64 a0_2, .slice ya4_3 x0_3.length yc4_3, .slice ya4_4 x0_4.length yc4_4, .slice ya4_5 x0_5.length yc4_5, .slice ya4_6 x0_6.length yc4_6, .int .i64 a0_7] 40)) = u5 at *
    refine (HIM.out (.slice ya4_0 x0_0.length yc4_0) (.slice ya4_3 x0_3.length yc4_3) (.slice ya4_4 x0_4.length yc4_4) (.slice ya4_5 x0_5.length yc4_5) (.slice ya4_6 x0_6.length yc4_6) u5 (HB0.out.trans (d.out.mono HB0.out.size)) (slO_reads tVersionS_law P4_0.out) (slO_reads tInt_law P4_3.out) (slO_reads tActive_law P4_4.out) (slO_reads tFinished_law P4_5.out) (slO_reads tCharge_law P4_6.out) HT.out ).mono ?_
    rintro e v6 ⟨rfl, c6⟩
    replace B0 := Lib.hid ((c6.block w.heap.size (Array.getElem?_eq_some_iff.1 B0.out).1).trans B0.out)
    replace X1 := Lib.hid ((c6.block v4.heap.size (Array.getElem?_eq_some_iff.1 X1.out).1).trans X1.out)
    replace P2_0 := Lib.hid (slO_fresh tVersionS_law P2_0.out c6)
    replace P2_3 := Lib.hid (slO_fresh tInt_law P2_3.out c6)
    replace P2_4 := Lib.hid (slO_fresh tActive_law P2_4.out c6)
    replace P2_5 := Lib.hid (slO_fresh tFinished_law P2_5.out c6)
    replace P2_6 := Lib.hid (slO_fresh tCharge_law P2_6.out c6)
    replace P4_0 := Lib.hid (slO_fresh tVersionS_law P4_0.out c6)
    replace P4_3 := Lib.hid (slO_fresh tInt_law P4_3.out c6)
    replace P4_4 := Lib.hid (slO_fresh tActive_law P4_4.out c6)
    replace P4_5 := Lib.hid (slO_fresh tFinished_law P4_5.out c6)
    replace P4_6 := Lib.hid (slO_fresh tCharge_law P4_6.out c6)
    replace d := Lib.hid (d.out.trans (c6.mono d.out.size))
    have Z_v6 := Lib.hid (show u5.heap.size ≤ v6.heap.size from c6.size)
    clear c6
    go_wp2
    have p_B0_0 := (cell_of_row v6 _ 0 _ _ _ B0.out).trans (show _ = some (Value.slice c0_0 x0_0.length k0_0) from rfl)
    have p_B0_1 := (cell_of_row v6 _ 1 _ _ _ B0.out).trans (show _ = some (Value.int .i64 a0_1) from rfl)
    have p_B0_2 := (cell_of_row v6 _ 2 _ _ _ B0.out).trans (show _ = some (Value.int .i64 a0_2) from rfl)
    have p_B0_3 := (cell_of_row v6 _ 3 _ _ _ B0.out).trans (show _ = some (Value.slice c0_3 x0_3.length k0_3) from rfl)
    have p_B0_4 := (cell_of_row v6 _ 4 _ _ _ B0.out).trans (show _ = some (Value.slice c0_4 x0_4.length k0_4) from rfl)
    have p_B0_5 := (cell_of_row v6 _ 5 _ _ _ B0.out).trans (show _ = some (Value.slice c0_5 x0_5.length k0_5) from rfl)
    have p_B0_6 := (cell_of_row v6 _ 6 _ _ _ B0.out).trans (show _ = some (Value.slice c0_6 x0_6.length k0_6) from rfl)
    have p_B0_7 := (cell_of_row v6 _ 7 _ _ _ B0.out).trans (show _ = some (Value.int .i64 a0_7) from rfl)
    have p_X1_0 := (cell_of_row v6 _ 0 _ _ _ X1.out).trans (show _ = some (Value.slice ya4_0 x0_0.length yc4_0) from rfl)
    have p_X1_1 := (cell_of_row v6 _ 1 _ _ _ X1.out).trans (show _ = some (Value.int .i64 a0_1) from rfl)
    have p_X1_2 := (cell_of_row v6 _ 2 _ _ _ X1.out).trans (show _ = some (Value.int .i64 a0_2) from rfl)
    have p_X1_3 := (cell_of_row v6 _ 3 _ _ _ X1.out).trans (show _ = some (Value.slice ya4_3 x0_3.length yc4_3) from rfl)
    have p_X1_4 := (cell_of_row v6 _ 4 _ _ _ X1.out).trans (show _ = some (Value.slice ya4_4 x0_4.length yc4_4) from rfl)
    have p_X1_5 := (cell_of_row v6 _ 5 _ _ _ X1.out).trans (show _ = some (Value.slice ya4_5 x0_5.length yc4_5) from rfl)
    have p_X1_6 := (cell_of_row v6 _ 6 _ _ _ X1.out).trans (show _ = some (Value.slice ya4_6 x0_6.length yc4_6) from rfl)
    have p_X1_7 := (cell_of_row v6 _ 7 _ _ _ X1.out).trans (show _ = some (Value.int .i64 a0_7) from rfl)
    refine wp_region_held_drew (S := fun w' => w'.cell? ⟨w.heap.size, 0, none⟩ = some (Value.slice c0_0 x0_0.length k0_0) ∧ w'.cell? ⟨w.heap.size, 1, none⟩ = some (Value.int .i64 a0_1) ∧ w'.cell? ⟨w.heap.size, 2, none⟩ = some (Value.int .i64 a0_2) ∧ w'.cell? ⟨w.heap.size, 3, none⟩ = some (Value.slice c0_3 x0_3.length k0_3) ∧ w'.cell? ⟨w.heap.size, 4, none⟩ = some (Value.slice c0_4 x0_4.length k0_4) ∧ w'.cell? ⟨w.heap.size, 5, none⟩ = some (Value.slice c0_5 x0_5.length k0_5) ∧ w'.cell? ⟨w.heap.size, 6, none⟩ = some (Value.slice c0_6 x0_6.length k0_6) ∧ w'.cell? ⟨w.heap.size, 7, none⟩ = some (Value.int .i64 a0_7) ∧ w'.cell? ⟨v4.heap.size, 0, none⟩ = some (Value.slice ya4_0 x0_0.length yc4_0) ∧ w'.cell? ⟨v4.heap.size, 1, none⟩ = some (Value.int .i64 a0_1) ∧ w'.cell? ⟨v4.heap.size, 2, none⟩ = some (Value.int .i64 a0_2) ∧ w'.cell? ⟨v4.heap.size, 3, none⟩ = some (Value.slice ya4_3 x0_3.length yc4_3) ∧ w'.cell? ⟨v4.heap.size, 4, none⟩ = some (Value.slice ya4_4 x0_4.length yc4_4) ∧ w'.cell? ⟨v4.heap.size, 5, none⟩ = some (Value.slice ya4_5 x0_5.length yc4_5) ∧ w'.cell? ⟨v4.heap.size, 6, none⟩ = some (Value.slice ya4_6 x0_6.length yc4_6) ∧ w'.cell? ⟨v4.heap.size, 7, none⟩ = some (Value.int .i64 a0_7)) (by kernel_rfl) ⟨p_B0_0, p_B0_1, p_B0_2, p_B0_3, p_B0_4, p_B0_5, p_B0_6, p_B0_7, p_X1_0, p_X1_1, p_X1_2, p_X1_3, p_X1_4, p_X1_5, p_X1_6, p_X1_7⟩ (fun hHeld => ?_)
    clear p_B0_0 p_B0_1 p_B0_2 p_B0_3 p_B0_4 p_B0_5 p_B0_6 p_B0_7 p_X1_0 p_X1_1 p_X1_2 p_X1_3 p_X1_4 p_X1_5 p_X1_6 p_X1_7
    have cd7 : Below v6.heap.size v6 v6.drew := below_drew (Below.refl _ _)
    replace B0 := Lib.hid ((cd7.block w.heap.size (Array.getElem?_eq_some_iff.1 B0.out).1).trans B0.out)
    replace X1 := Lib.hid ((cd7.block v4.heap.size (Array.getElem?_eq_some_iff.1 X1.out).1).trans X1.out)
    replace P2_0 := Lib.hid (slO_fresh tVersionS_law P2_0.out cd7)
    replace P2_3 := Lib.hid (slO_fresh tInt_law P2_3.out cd7)
    replace P2_4 := Lib.hid (slO_fresh tActive_law P2_4.out cd7)
    replace P2_5 := Lib.hid (slO_fresh tFinished_law P2_5.out cd7)
    replace P2_6 := Lib.hid (slO_fresh tCharge_law P2_6.out cd7)
    replace P4_0 := Lib.hid (slO_fresh tVersionS_law P4_0.out cd7)
    replace P4_3 := Lib.hid (slO_fresh tInt_law P4_3.out cd7)
    replace P4_4 := Lib.hid (slO_fresh tActive_law P4_4.out cd7)
    replace P4_5 := Lib.hid (slO_fresh tFinished_law P4_5.out cd7)
    replace P4_6 := Lib.hid (slO_fresh tCharge_law P4_6.out cd7)
    replace d := Lib.hid (d.out.trans (cd7.mono d.out.size))
    clear cd7
    refine take_runs (i := 0) (v := ?_) (by simp only [List.getElem?_toArray, List.getElem?_cons_succ, List.getElem?_cons_zero]; rfl) (by kernel_rfl) (by kernel_rfl) (by kernel_rfl) rfl (by exact fun _ _ _ h => h) (by rfl) ?_ (by assumption) ?_
    rotate_left
    · intro w hSw; (try dsimp only at hSw); go_simp; try (with_reducible rfl)
    try simp only [Act.put, List.setIfInBounds_toArray, List.set_cons_zero, List.set_cons_succ]
    refine take_runs (i := 1) (v := ?_) (by simp only [List.getElem?_toArray, List.getElem?_cons_succ, List.getElem?_cons_zero]; rfl) (by kernel_rfl) (by kernel_rfl) (by kernel_rfl) rfl (by exact fun _ _ _ h => h) (by rfl) ?_ (by assumption) ?_
    rotate_left
    · intro w hSw; (try dsimp only at hSw); go_simp; try (with_reducible rfl)
    try simp only [Act.put, List.setIfInBounds_toArray, List.set_cons_zero, List.set_cons_succ]
    refine wpAnyH_ready (rs := [2]) (by kernel_rfl) (by simp) ?_
    refine AllReadyH.cons (o := _) (by simp only [List.getElem?_toArray, List.getElem?_cons_succ, List.getElem?_cons_zero]; rfl) (fun K hK => ?_) AllReadyH.nil
    go_simp
    refine (toEngine_T a0_1 a0_2 a0_7 (.slice c0_0 x0_0.length k0_0) (.slice c0_3 x0_3.length k0_3) (.slice c0_4 x0_4.length k0_4) (.slice c0_5 x0_5.length k0_5) (.slice c0_6 x0_6.length k0_6) x0_0 x0_3 x0_4 x0_5 x0_6 (v6.drew) (slR_below tVersionS_law A0_0.out d.out) (slR_below tInt_law A0_3.out d.out) (slR_below tActive_law A0_4.out d.out) (slR_below tFinished_law A0_5.out d.out) (slR_below tCharge_law A0_6.out d.out) S0_0.out S0_3.out S0_4.out S0_5.out S0_6.out).mono ?_
    rintro e v8 ⟨cs, rfl, ow, c8⟩
    replace B0 := Lib.hid ((c8.block w.heap.size (Array.getElem?_eq_some_iff.1 B0.out).1).trans B0.out)
    replace X1 := Lib.hid ((c8.block v4.heap.size (Array.getElem?_eq_some_iff.1 X1.out).1).trans X1.out)
    replace P2_0 := Lib.hid (slO_fresh tVersionS_law P2_0.out c8)
    replace P2_3 := Lib.hid (slO_fresh tInt_law P2_3.out c8)
    replace P2_4 := Lib.hid (slO_fresh tActive_law P2_4.out c8)
    replace P2_5 := Lib.hid (slO_fresh tFinished_law P2_5.out c8)
    replace P2_6 := Lib.hid (slO_fresh tCharge_law P2_6.out c8)
    replace P4_0 := Lib.hid (slO_fresh tVersionS_law P4_0.out c8)
    replace P4_3 := Lib.hid (slO_fresh tInt_law P4_3.out c8)
    replace P4_4 := Lib.hid (slO_fresh tActive_law P4_4.out c8)
    replace P4_5 := Lib.hid (slO_fresh tFinished_law P4_5.out c8)
    replace P4_6 := Lib.hid (slO_fresh tCharge_law P4_6.out c8)
    replace d := Lib.hid (d.out.trans (c8.mono d.out.size))
    have Z_v8 := Lib.hid (show v6.heap.size ≤ v8.heap.size from c8.size)
    clear c8
    replace ow := tEngine_law.lt ow
    obtain ⟨y8_0, y8_3, y8_4, y8_5, y8_6, K8_0, K8_3, K8_4, K8_5, K8_6, rfl, p8_0, p8_3, p8_4, p8_5, p8_6, w8_0, w8_3, w8_4, w8_5, w8_6, d8_0_3, d8_0_4, d8_0_5, d8_0_6, d8_3_4, d8_3_5, d8_3_6, d8_4_5, d8_4_6, d8_5_6⟩ := tEngine_O ow
    obtain ⟨ya8_0, yc8_0, rfl⟩ := slO_len p8_0
    have P8_0 := Lib.hid p8_0
    have Q8_0 := Lib.hid (fun b h => (show (v6.drew).heap.size ≤ b ∧ b < v8.heap.size from w8_0 b h))
    obtain ⟨ya8_3, yc8_3, rfl⟩ := slO_len p8_3
    have P8_3 := Lib.hid p8_3
    have Q8_3 := Lib.hid (fun b h => (show (v6.drew).heap.size ≤ b ∧ b < v8.heap.size from w8_3 b h))
    obtain ⟨ya8_4, yc8_4, rfl⟩ := slO_len p8_4
    have P8_4 := Lib.hid p8_4
    have Q8_4 := Lib.hid (fun b h => (show (v6.drew).heap.size ≤ b ∧ b < v8.heap.size from w8_4 b h))
    obtain ⟨ya8_5, yc8_5, rfl⟩ := slO_len p8_5
    have P8_5 := Lib.hid p8_5
    have Q8_5 := Lib.hid (fun b h => (show (v6.drew).heap.size ≤ b ∧ b < v8.heap.size from w8_5 b h))
    obtain ⟨ya8_6, yc8_6, rfl⟩ := slO_len p8_6
    have P8_6 := Lib.hid p8_6
    have Q8_6 := Lib.hid (fun b h => (show (v6.drew).heap.size ≤ b ∧ b < v8.heap.size from w8_6 b h))
    have D8_0_3 := Lib.hid d8_0_3
    clear d8_0_3
    have D8_0_4 := Lib.hid d8_0_4
    clear d8_0_4
    have D8_0_5 := Lib.hid d8_0_5
    clear d8_0_5
    have D8_0_6 := Lib.hid d8_0_6
    clear d8_0_6
    have D8_3_4 := Lib.hid d8_3_4
    clear d8_3_4
    have D8_3_5 := Lib.hid d8_3_5
    clear d8_3_5
    have D8_3_6 := Lib.hid d8_3_6
    clear d8_3_6
    have D8_4_5 := Lib.hid d8_4_5
    clear d8_4_5
    have D8_4_6 := Lib.hid d8_4_6
    clear d8_4_6
    have D8_5_6 := Lib.hid d8_5_6
    clear d8_5_6
    clear p8_0 w8_0 p8_3 w8_3 p8_4 w8_4 p8_5 w8_5 p8_6 w8_6 ow
    have p_B0_0 := (cell_of_row v8 _ 0 _ _ _ B0.out).trans (show _ = some (Value.slice c0_0 x0_0.length k0_0) from rfl)
    have p_B0_1 := (cell_of_row v8 _ 1 _ _ _ B0.out).trans (show _ = some (Value.int .i64 a0_1) from rfl)
    have p_B0_2 := (cell_of_row v8 _ 2 _ _ _ B0.out).trans (show _ = some (Value.int .i64 a0_2) from rfl)
    have p_B0_3 := (cell_of_row v8 _ 3 _ _ _ B0.out).trans (show _ = some (Value.slice c0_3 x0_3.length k0_3) from rfl)
    have p_B0_4 := (cell_of_row v8 _ 4 _ _ _ B0.out).trans (show _ = some (Value.slice c0_4 x0_4.length k0_4) from rfl)
    have p_B0_5 := (cell_of_row v8 _ 5 _ _ _ B0.out).trans (show _ = some (Value.slice c0_5 x0_5.length k0_5) from rfl)
    have p_B0_6 := (cell_of_row v8 _ 6 _ _ _ B0.out).trans (show _ = some (Value.slice c0_6 x0_6.length k0_6) from rfl)
    have p_B0_7 := (cell_of_row v8 _ 7 _ _ _ B0.out).trans (show _ = some (Value.int .i64 a0_7) from rfl)
    have p_X1_0 := (cell_of_row v8 _ 0 _ _ _ X1.out).trans (show _ = some (Value.slice ya4_0 x0_0.length yc4_0) from rfl)
    have p_X1_1 := (cell_of_row v8 _ 1 _ _ _ X1.out).trans (show _ = some (Value.int .i64 a0_1) from rfl)
    have p_X1_2 := (cell_of_row v8 _ 2 _ _ _ X1.out).trans (show _ = some (Value.int .i64 a0_2) from rfl)
    have p_X1_3 := (cell_of_row v8 _ 3 _ _ _ X1.out).trans (show _ = some (Value.slice ya4_3 x0_3.length yc4_3) from rfl)
    have p_X1_4 := (cell_of_row v8 _ 4 _ _ _ X1.out).trans (show _ = some (Value.slice ya4_4 x0_4.length yc4_4) from rfl)
    have p_X1_5 := (cell_of_row v8 _ 5 _ _ _ X1.out).trans (show _ = some (Value.slice ya4_5 x0_5.length yc4_5) from rfl)
    have p_X1_6 := (cell_of_row v8 _ 6 _ _ _ X1.out).trans (show _ = some (Value.slice ya4_6 x0_6.length yc4_6) from rfl)
    have p_X1_7 := (cell_of_row v8 _ 7 _ _ _ X1.out).trans (show _ = some (Value.int .i64 a0_7) from rfl)
    refine hK.out _ _ ⟨p_B0_0, p_B0_1, p_B0_2, p_B0_3, p_B0_4, p_B0_5, p_B0_6, p_B0_7, p_X1_0, p_X1_1, p_X1_2, p_X1_3, p_X1_4, p_X1_5, p_X1_6, p_X1_7⟩ (fun hHeld => ?_)
    clear p_B0_0 p_B0_1 p_B0_2 p_B0_3 p_B0_4 p_B0_5 p_B0_6 p_B0_7 p_X1_0 p_X1_1 p_X1_2 p_X1_3 p_X1_4 p_X1_5 p_X1_6 p_X1_7
    clear hK K
    try simp only [Act.put, List.setIfInBounds_toArray, List.set_cons_zero, List.set_cons_succ]
    refine wpAnyH_ready (rs := [3]) (by kernel_rfl) (by simp) ?_
    refine AllReadyH.cons (o := _) (by simp only [List.getElem?_toArray, List.getElem?_cons_succ, List.getElem?_cons_zero]; rfl) (fun K hK => ?_) AllReadyH.nil
    go_simp
    refine (eqEngine_T a0_1 a0_2 a0_7 (.slice ya4_0 x0_0.length yc4_0) (.slice ya4_3 x0_3.length yc4_3) (.slice ya4_4 x0_4.length yc4_4) (.slice ya4_5 x0_5.length yc4_5) (.slice ya4_6 x0_6.length yc4_6) x0_0 x0_3 x0_4 x0_5 x0_6 (.slice ya8_0 x0_0.length yc8_0) (.slice ya8_3 x0_3.length yc8_3) (.slice ya8_4 x0_4.length yc8_4) (.slice ya8_5 x0_5.length yc8_5) (.slice ya8_6 x0_6.length yc8_6) v8 (slO_reads tVersionS_law P4_0.out) (slO_reads tInt_law P4_3.out) (slO_reads tActive_law P4_4.out) (slO_reads tFinished_law P4_5.out) (slO_reads tCharge_law P4_6.out) (slO_reads tVersionS_law P8_0.out) (slO_reads tInt_law P8_3.out) (slO_reads tActive_law P8_4.out) (slO_reads tFinished_law P8_5.out) (slO_reads tCharge_law P8_6.out) S0_0.out S0_3.out S0_4.out S0_5.out S0_6.out).mono ?_
    rintro e v9 ⟨rfl, c9⟩
    replace B0 := Lib.hid ((c9.block w.heap.size (Array.getElem?_eq_some_iff.1 B0.out).1).trans B0.out)
    replace X1 := Lib.hid ((c9.block v4.heap.size (Array.getElem?_eq_some_iff.1 X1.out).1).trans X1.out)
    replace P2_0 := Lib.hid (slO_fresh tVersionS_law P2_0.out c9)
    replace P2_3 := Lib.hid (slO_fresh tInt_law P2_3.out c9)
    replace P2_4 := Lib.hid (slO_fresh tActive_law P2_4.out c9)
    replace P2_5 := Lib.hid (slO_fresh tFinished_law P2_5.out c9)
    replace P2_6 := Lib.hid (slO_fresh tCharge_law P2_6.out c9)
    replace P4_0 := Lib.hid (slO_fresh tVersionS_law P4_0.out c9)
    replace P4_3 := Lib.hid (slO_fresh tInt_law P4_3.out c9)
    replace P4_4 := Lib.hid (slO_fresh tActive_law P4_4.out c9)
    replace P4_5 := Lib.hid (slO_fresh tFinished_law P4_5.out c9)
    replace P4_6 := Lib.hid (slO_fresh tCharge_law P4_6.out c9)
    replace P8_0 := Lib.hid (slO_fresh tVersionS_law P8_0.out c9)
    replace P8_3 := Lib.hid (slO_fresh tInt_law P8_3.out c9)
    replace P8_4 := Lib.hid (slO_fresh tActive_law P8_4.out c9)
    replace P8_5 := Lib.hid (slO_fresh tFinished_law P8_5.out c9)
    replace P8_6 := Lib.hid (slO_fresh tCharge_law P8_6.out c9)
    replace d := Lib.hid (d.out.trans (c9.mono d.out.size))
    have Z_v9 := Lib.hid (show v8.heap.size ≤ v9.heap.size from c9.size)
    clear c9
    clear P8_0 P8_3 P8_4 P8_5 P8_6
    have p_B0_0 := (cell_of_row v9 _ 0 _ _ _ B0.out).trans (show _ = some (Value.slice c0_0 x0_0.length k0_0) from rfl)
    have p_B0_1 := (cell_of_row v9 _ 1 _ _ _ B0.out).trans (show _ = some (Value.int .i64 a0_1) from rfl)
    have p_B0_2 := (cell_of_row v9 _ 2 _ _ _ B0.out).trans (show _ = some (Value.int .i64 a0_2) from rfl)
    have p_B0_3 := (cell_of_row v9 _ 3 _ _ _ B0.out).trans (show _ = some (Value.slice c0_3 x0_3.length k0_3) from rfl)
    have p_B0_4 := (cell_of_row v9 _ 4 _ _ _ B0.out).trans (show _ = some (Value.slice c0_4 x0_4.length k0_4) from rfl)
    have p_B0_5 := (cell_of_row v9 _ 5 _ _ _ B0.out).trans (show _ = some (Value.slice c0_5 x0_5.length k0_5) from rfl)
    have p_B0_6 := (cell_of_row v9 _ 6 _ _ _ B0.out).trans (show _ = some (Value.slice c0_6 x0_6.length k0_6) from rfl)
    have p_B0_7 := (cell_of_row v9 _ 7 _ _ _ B0.out).trans (show _ = some (Value.int .i64 a0_7) from rfl)
    have p_X1_0 := (cell_of_row v9 _ 0 _ _ _ X1.out).trans (show _ = some (Value.slice ya4_0 x0_0.length yc4_0) from rfl)
    have p_X1_1 := (cell_of_row v9 _ 1 _ _ _ X1.out).trans (show _ = some (Value.int .i64 a0_1) from rfl)
    have p_X1_2 := (cell_of_row v9 _ 2 _ _ _ X1.out).trans (show _ = some (Value.int .i64 a0_2) from rfl)
    have p_X1_3 := (cell_of_row v9 _ 3 _ _ _ X1.out).trans (show _ = some (Value.slice ya4_3 x0_3.length yc4_3) from rfl)
    have p_X1_4 := (cell_of_row v9 _ 4 _ _ _ X1.out).trans (show _ = some (Value.slice ya4_4 x0_4.length yc4_4) from rfl)
    have p_X1_5 := (cell_of_row v9 _ 5 _ _ _ X1.out).trans (show _ = some (Value.slice ya4_5 x0_5.length yc4_5) from rfl)
    have p_X1_6 := (cell_of_row v9 _ 6 _ _ _ X1.out).trans (show _ = some (Value.slice ya4_6 x0_6.length yc4_6) from rfl)
    have p_X1_7 := (cell_of_row v9 _ 7 _ _ _ X1.out).trans (show _ = some (Value.int .i64 a0_7) from rfl)
    refine hK.out _ _ ⟨p_B0_0, p_B0_1, p_B0_2, p_B0_3, p_B0_4, p_B0_5, p_B0_6, p_B0_7, p_X1_0, p_X1_1, p_X1_2, p_X1_3, p_X1_4, p_X1_5, p_X1_6, p_X1_7⟩ (fun hHeld => ?_)
    clear p_B0_0 p_B0_1 p_B0_2 p_B0_3 p_B0_4 p_B0_5 p_B0_6 p_B0_7 p_X1_0 p_X1_1 p_X1_2 p_X1_3 p_X1_4 p_X1_5 p_X1_6 p_X1_7
    clear hK K
    try simp only [Act.put, List.setIfInBounds_toArray, List.set_cons_zero, List.set_cons_succ]
    refine take_runs (i := 4) (v := ?_) (by simp only [List.getElem?_toArray, List.getElem?_cons_succ, List.getElem?_cons_zero]; rfl) (by kernel_rfl) (by kernel_rfl) (by kernel_rfl) rfl (by exact fun _ _ _ h => h) (by rfl) ?_ (by assumption) ?_
    rotate_left
    · intro w hSw; (try dsimp only at hSw); go_simp; try (with_reducible rfl)
    try simp only [Act.put, List.setIfInBounds_toArray, List.set_cons_zero, List.set_cons_succ]
    refine wpAnyH_done (by kernel_rfl) ?_ _
    clear hHeld
    go_wp2
    go_ret
    exact ⟨rfl, HB0.out.trans (d.out.mono HB0.out.size)⟩
  ·
    have HZ0 : Hid ((1048576 : Int) < ((zL tVersionS x0_0 + zL tInt x0_3 + zL tActive x0_4 + zL tFinished x0_5 + zL tCharge x0_6 : Nat) : Int)) := Lib.hid (by omega)
    have HP0 : Hid (0 ≤ (1048576 : Int)) := Lib.hid (by omega)
    have HK0 : Hid ((1048576 : Int) ≤ 1048576) := Lib.hid (by omega)
    clear c0
    go_enter Tryz.func3, Tryz.ntmps3
    go_wp2_with fail
    have Y_W : Hid (w.heap.size + 1 ≤ (w.alloc (.cells #[.slice c0_0 x0_0.length k0_0, .int .i64 a0_1, .int .i64 a0_2, .slice c0_3 x0_3.length k0_3, .slice c0_4 x0_4.length k0_4, .slice c0_5 x0_5.length k0_5, .slice c0_6 x0_6.length k0_6, .int .i64 a0_7] 30)).heap.size) := Lib.hid (by simp [World.size_alloc])
    generalize (w.alloc (.cells #[.slice c0_0 x0_0.length k0_0, .int .i64 a0_1, .int .i64 a0_2, .slice c0_3 x0_3.length k0_3, .slice c0_4 x0_4.length k0_4, .slice c0_5 x0_5.length k0_5, .slice c0_6 x0_6.length k0_6, .int .i64 a0_7] 30)) = W at *
    have d := Lib.hid (Below.refl W.heap.size W)
    refine (szEngine_N a0_1 a0_2 a0_7 (.slice c0_0 x0_0.length k0_0) (.slice c0_3 x0_3.length k0_3) (.slice c0_4 x0_4.length k0_4) (.slice c0_5 x0_5.length k0_5) (.slice c0_6 x0_6.length k0_6) x0_0 x0_3 x0_4 x0_5 x0_6 ((1048576 : Int)) W (slR_below tVersionS_law A0_0.out d.out) (slR_below tInt_law A0_3.out d.out) (slR_below tActive_law A0_4.out d.out) (slR_below tFinished_law A0_5.out d.out) (slR_below tCharge_law A0_6.out d.out) HZ0.out HK0.out HP0.out O0_0.out O0_3.out O0_4.out O0_5.out O0_6.out).mono ?_
    rintro e v1 ⟨rfl, c1⟩
    replace B0 := Lib.hid ((c1.block w.heap.size (Array.getElem?_eq_some_iff.1 B0.out).1).trans B0.out)
    replace d := Lib.hid (d.out.trans (c1.mono d.out.size))
    have Z_v1 := Lib.hid (show W.heap.size ≤ v1.heap.size from c1.size)
    clear c1
    go_wp2
    go_ret
    exact ⟨rfl, HB0.out.trans (d.out.mono HB0.out.size)⟩
end Go.Proofs.YtdhglmoanpkeoaaGreatDoor
namespace Go.Proofs.YtdhglmoanpkeoaaGreatDoor
open Go.ChangeShapes Go.WideShapes Go.ChangeAt Go.WideMaps Go.WideElems Go.RowKit
set_option linter.unusedVariables false
theorem laidOutP : laidOutB Tryz.prog = true := by kernel_rfl
end Go.Proofs.YtdhglmoanpkeoaaGreatDoor
namespace Go.Proofs.YtdhglmoanpkeoaaGreatDoor
open Go.ChangeShapes Go.WideShapes Go.ChangeAt Go.WideMaps Go.WideElems Go.RowKit
set_option linter.unusedVariables false
/-- Cells that the statement reads as a value of the type t are a datum of the kind T. -/
def Opn {α : Type} (T : Ty α) (t : TypeId) : Prop := ∀ {H : Type} {enc : TypeId × Value → H} {W : World} {held : Bool} {fuel : Nat} {cs : List Value} {x : DataW H × List MemPlace}, DataW.trod enc Tryz.prog W 0 (fun _ => true) held fuel t cs = some x → ∃ d, T.R W cs d ∧ T.ok d
theorem opn_int : Opn tInt 3 := by
  intro H enc W held fuel cs x h
  obtain ⟨a, e, _, _⟩ := DataW.trod_int Tryz.underlying3 h
  exact ⟨a, e, trivial⟩
theorem opn_cast {α : Type} {T : Ty α} {t : TypeId} (O : Opn T t) {H : Type} {enc : TypeId × Value → H} {W : World} {held : Bool} {fuel : Nat} {cs : List Value} {o k : Nat} {x : Option (DataW H × List MemPlace)} (hx : x.isSome) (h : DataW.trod enc Tryz.prog W 0 (fun _ => true) held fuel t ((cs.drop o).take k) = x) :
    ∃ d, T.R W ((cs.drop o).take k) d ∧ T.ok d := by
  cases x with
  | none => cases hx
  | some y => exact O h
set_option maxRecDepth 100000 in
theorem opn_slice {α : Type} {T : Ty α} (A : T.Law) {e t : TypeId} (e' : TypeId) (O : Opn T e) (hu : Tryz.prog.underlying t = some (.slice e)) (hC : Tryz.prog.cellsOf e = T.n) : Opn (tSl e' T) t := by
  intro H enc W held fuel cs x hf
  rcases Go.Deep.open_slice hu hf with ⟨rfl, _⟩ | ⟨a', len', cap', m, n, D, Pl, rfl, _, hl, hm, hmm, _, hx⟩
  · exact ⟨[], ⟨_, rfl, Or.inl ⟨rfl, none, 0, rfl⟩⟩, by simp, fun j hj => by simp at hj⟩
  · rw [if_pos rfl] at hmm
    subst hmm
    unfold maxLen at hm
    rw [hC] at hx
    have hpos := A.pos
    haveI : Inhabited α := ⟨T.d⟩
    obtain ⟨f, hf'⟩ := Go.Deep.choose_lt (α := α × List Value) (n := len') (p := fun i q => (∀ j, j < T.n → W.cell? ((a'.add (i * T.n)).add j) = q.2[j]?) ∧ T.R W q.2 q.1 ∧ T.ok q.1) (fun i hi => by
      obtain ⟨cs', h1, h2⟩ := hx i (by omega)
      obtain ⟨_, hlen, hc⟩ := World.cells?_some h1
      obtain ⟨d, hd, ho⟩ := O h2
      exact ⟨(d, cs'), hc, hd, ho⟩)
    have hat : ∀ j, j < len' → ((List.range len').map fun i => (f i).1).getD j T.d = (f j).1 := fun j hj => by simp [List.getD, hj]
    have hlen : ((List.range len').map fun i => (f i).1).length = len' := by simp
    refine ⟨(List.range len').map fun i => (f i).1, ⟨_, rfl, ?_⟩, by rw [hlen]; omega, fun j hj => by rw [hlen] at hj; rw [hat j hj]; exact (hf' j hj).2.2⟩
    by_cases h0 : len' = 0
    · subst h0
      exact Or.inl ⟨rfl, some a', _, rfl⟩
    · have h1 := (hf' 0 (by omega)).1 0 hpos
      have hcl : 0 < (f 0).2.length := by rw [A.len (hf' 0 (by omega)).2.1]; exact hpos
      rw [List.getElem?_eq_getElem hcl] at h1
      obtain ⟨b, off, spot⟩ := a'
      have hspot : spot = none := by simpa [Addr.add] using World.cell?_spot h1
      subst hspot
      refine Or.inr ⟨b, off, _, fun i => (f i).2, by rw [hlen], by rw [hlen]; exact hl, ?_, ?_⟩
      · have := World.block_lt_of_cell? W _ h1
        simpa [Addr.add] using this
      · intro j hj
        rw [hlen] at hj
        obtain ⟨g1, g2, _⟩ := hf' j hj
        rw [hat j hj]
        refine ⟨fun i hi => ?_, g2⟩
        have := g1 i hi
        rw [Go.WideShapes.add_plain, Go.WideShapes.add_plain] at this
        exact this
theorem opn_ints (e' : TypeId) : Opn (tSl e' tInt) 25 := opn_slice tInt_law e' opn_int Tryz.underlying25 (by kernel_rfl)
set_option maxRecDepth 100000 in
/-- A struct as an argument. -/
theorem stA_open {α : Type} {T : Ty α} {t : TypeId} {fs : Array Field} (O : Opn T t) (hu : Tryz.prog.underlying t = some (.struct fs)) {H : Type} {enc : TypeId × Value → H} {W : World} {r : Reach} {b0 : Nat} {v : Value} {d : DataW H} {p : List MemPlace}
    (hval : Value.okWide Tryz.prog W r b0 t v) (h : DataW.Trod enc Tryz.prog W 0 (fun _ => true) true t v d p) : ∃ cs x, v = .agg cs.toArray ∧ T.R W cs x ∧ T.ok x := by
  obtain ⟨⟨cs⟩, rfl, hsz⟩ := okWide_struct hu hval
  obtain ⟨fuel, hf⟩ := h
  obtain ⟨x, h, ho⟩ := O hf
  exact ⟨cs, x, rfl, h, ho⟩
end Go.Proofs.YtdhglmoanpkeoaaGreatDoor
namespace Go.Proofs.YtdhglmoanpkeoaaGreatDoor
open Go.ChangeShapes Go.WideShapes Go.ChangeAt Go.WideMaps Go.WideElems Go.RowKit
set_option linter.unusedVariables false
set_option maxRecDepth 100000 in
theorem opn_Version : Opn tVersion 231 := by
  intro H enc W held fuel cs x h
  obtain ⟨xs, n, _, _, hl, hlen, hf⟩ := DataW.trod_struct Tryz.underlying231 h
  have hl2 : cs.length = 4 := hl.trans (by kernel_rfl)
  have hn : xs.length = 4 := hlen
  have f0 : DataW.trod enc Tryz.prog W 0 (fun _ => true) held n 3 ((cs.drop 0).take (Tryz.prog.cellsOf 3)) = xs[0]? := hf 0 _ rfl
  rw [show Tryz.prog.cellsOf 3 = 1 from by kernel_rfl] at f0
  obtain ⟨d0, r0, o0⟩ := opn_cast (opn_int) (by rw [List.getElem?_eq_getElem (by omega)]; rfl) f0
  have f1 : DataW.trod enc Tryz.prog W 0 (fun _ => true) held n 25 ((cs.drop 1).take (Tryz.prog.cellsOf 25)) = xs[1]? := hf 1 _ rfl
  rw [show Tryz.prog.cellsOf 25 = 1 from by kernel_rfl] at f1
  obtain ⟨d1, r1, o1⟩ := opn_cast (opn_ints 3) (by rw [List.getElem?_eq_getElem (by omega)]; rfl) f1
  have f2 : DataW.trod enc Tryz.prog W 0 (fun _ => true) held n 3 ((cs.drop 2).take (Tryz.prog.cellsOf 3)) = xs[2]? := hf 2 _ rfl
  rw [show Tryz.prog.cellsOf 3 = 1 from by kernel_rfl] at f2
  obtain ⟨d2, r2, o2⟩ := opn_cast (opn_int) (by rw [List.getElem?_eq_getElem (by omega)]; rfl) f2
  have f3 : DataW.trod enc Tryz.prog W 0 (fun _ => true) held n 3 ((cs.drop 3).take (Tryz.prog.cellsOf 3)) = xs[3]? := hf 3 _ rfl
  rw [show Tryz.prog.cellsOf 3 = 1 from by kernel_rfl] at f3
  obtain ⟨d3, r3, o3⟩ := opn_cast (opn_int) (by rw [List.getElem?_eq_getElem (by omega)]; rfl) f3
  exact ⟨(d0, d1, d2, d3), ⟨(cs.drop 0).take 1, cs.drop 1, (List.take_append_drop 1 cs).symm, r0, ⟨(cs.drop 1).take 1, cs.drop 2, (List.take_append_drop 1 (cs.drop 1)).symm.trans (by simp), r1, ⟨(cs.drop 2).take 1, cs.drop 3, (List.take_append_drop 1 (cs.drop 2)).symm.trans (by simp), r2, (by have e := List.take_of_length_le (l := cs.drop 3) (i := 1) (by rw [List.length_drop]; omega); rw [e] at r3; exact r3)⟩⟩⟩, ⟨o0, ⟨o1, ⟨o2, o3⟩⟩⟩⟩
end Go.Proofs.YtdhglmoanpkeoaaGreatDoor
namespace Go.Proofs.YtdhglmoanpkeoaaGreatDoor
open Go.ChangeShapes Go.WideShapes Go.ChangeAt Go.WideMaps Go.WideElems Go.RowKit
set_option linter.unusedVariables false
theorem opn_VersionS : Opn tVersionS 198 := opn_slice tVersion_law _ opn_Version Tryz.underlying198 (by kernel_rfl)
end Go.Proofs.YtdhglmoanpkeoaaGreatDoor
namespace Go.Proofs.YtdhglmoanpkeoaaGreatDoor
open Go.ChangeShapes Go.WideShapes Go.ChangeAt Go.WideMaps Go.WideElems Go.RowKit
set_option linter.unusedVariables false
theorem opn_VersionSS : Opn tVersionSS 22 := opn_slice tVersionS_law _ opn_VersionS Tryz.underlying22 (by kernel_rfl)
end Go.Proofs.YtdhglmoanpkeoaaGreatDoor
namespace Go.Proofs.YtdhglmoanpkeoaaGreatDoor
open Go.ChangeShapes Go.WideShapes Go.ChangeAt Go.WideMaps Go.WideElems Go.RowKit
set_option linter.unusedVariables false
set_option maxRecDepth 100000 in
theorem opn_Store : Opn tStore 24 := by
  intro H enc W held fuel cs x h
  obtain ⟨xs, n, _, _, hl, hlen, hf⟩ := DataW.trod_struct Tryz.underlying24 h
  have hl2 : cs.length = 2 := hl.trans (by kernel_rfl)
  have hn : xs.length = 2 := hlen
  have f0 : DataW.trod enc Tryz.prog W 0 (fun _ => true) held n 22 ((cs.drop 0).take (Tryz.prog.cellsOf 22)) = xs[0]? := hf 0 _ rfl
  rw [show Tryz.prog.cellsOf 22 = 1 from by kernel_rfl] at f0
  obtain ⟨d0, r0, o0⟩ := opn_cast (opn_VersionSS) (by rw [List.getElem?_eq_getElem (by omega)]; rfl) f0
  have f1 : DataW.trod enc Tryz.prog W 0 (fun _ => true) held n 3 ((cs.drop 1).take (Tryz.prog.cellsOf 3)) = xs[1]? := hf 1 _ rfl
  rw [show Tryz.prog.cellsOf 3 = 1 from by kernel_rfl] at f1
  obtain ⟨d1, r1, o1⟩ := opn_cast (opn_int) (by rw [List.getElem?_eq_getElem (by omega)]; rfl) f1
  exact ⟨(d0, d1), ⟨(cs.drop 0).take 1, cs.drop 1, (List.take_append_drop 1 cs).symm, r0, (by have e := List.take_of_length_le (l := cs.drop 1) (i := 1) (by rw [List.length_drop]; omega); rw [e] at r1; exact r1)⟩, ⟨o0, o1⟩⟩
end Go.Proofs.YtdhglmoanpkeoaaGreatDoor
namespace Go.Proofs.YtdhglmoanpkeoaaGreatDoor
open Go.ChangeShapes Go.WideShapes Go.ChangeAt Go.WideMaps Go.WideElems Go.RowKit
set_option linter.unusedVariables false
set_option maxRecDepth 100000 in
theorem opn_Cond : Opn tCond 175 := by
  intro H enc W held fuel cs x h
  obtain ⟨xs, n, _, _, hl, hlen, hf⟩ := DataW.trod_struct Tryz.underlying175 h
  have hl2 : cs.length = 3 := hl.trans (by kernel_rfl)
  have hn : xs.length = 3 := hlen
  have f0 : DataW.trod enc Tryz.prog W 0 (fun _ => true) held n 3 ((cs.drop 0).take (Tryz.prog.cellsOf 3)) = xs[0]? := hf 0 _ rfl
  rw [show Tryz.prog.cellsOf 3 = 1 from by kernel_rfl] at f0
  obtain ⟨d0, r0, o0⟩ := opn_cast (opn_int) (by rw [List.getElem?_eq_getElem (by omega)]; rfl) f0
  have f1 : DataW.trod enc Tryz.prog W 0 (fun _ => true) held n 3 ((cs.drop 1).take (Tryz.prog.cellsOf 3)) = xs[1]? := hf 1 _ rfl
  rw [show Tryz.prog.cellsOf 3 = 1 from by kernel_rfl] at f1
  obtain ⟨d1, r1, o1⟩ := opn_cast (opn_int) (by rw [List.getElem?_eq_getElem (by omega)]; rfl) f1
  have f2 : DataW.trod enc Tryz.prog W 0 (fun _ => true) held n 3 ((cs.drop 2).take (Tryz.prog.cellsOf 3)) = xs[2]? := hf 2 _ rfl
  rw [show Tryz.prog.cellsOf 3 = 1 from by kernel_rfl] at f2
  obtain ⟨d2, r2, o2⟩ := opn_cast (opn_int) (by rw [List.getElem?_eq_getElem (by omega)]; rfl) f2
  exact ⟨(d0, d1, d2), ⟨(cs.drop 0).take 1, cs.drop 1, (List.take_append_drop 1 cs).symm, r0, ⟨(cs.drop 1).take 1, cs.drop 2, (List.take_append_drop 1 (cs.drop 1)).symm.trans (by simp), r1, (by have e := List.take_of_length_le (l := cs.drop 2) (i := 1) (by rw [List.length_drop]; omega); rw [e] at r2; exact r2)⟩⟩, ⟨o0, ⟨o1, o2⟩⟩⟩
end Go.Proofs.YtdhglmoanpkeoaaGreatDoor
namespace Go.Proofs.YtdhglmoanpkeoaaGreatDoor
open Go.ChangeShapes Go.WideShapes Go.ChangeAt Go.WideMaps Go.WideElems Go.RowKit
set_option linter.unusedVariables false
theorem opn_CondS : Opn tCondS 44 := opn_slice tCond_law _ opn_Cond Tryz.underlying44 (by kernel_rfl)
end Go.Proofs.YtdhglmoanpkeoaaGreatDoor
namespace Go.Proofs.YtdhglmoanpkeoaaGreatDoor
open Go.ChangeShapes Go.WideShapes Go.ChangeAt Go.WideMaps Go.WideElems Go.RowKit
set_option linter.unusedVariables false
set_option maxRecDepth 100000 in
theorem opn_Query : Opn tQuery 46 := by
  intro H enc W held fuel cs x h
  obtain ⟨xs, n, _, _, hl, hlen, hf⟩ := DataW.trod_struct Tryz.underlying46 h
  have hl2 : cs.length = 4 := hl.trans (by kernel_rfl)
  have hn : xs.length = 4 := hlen
  have f0 : DataW.trod enc Tryz.prog W 0 (fun _ => true) held n 3 ((cs.drop 0).take (Tryz.prog.cellsOf 3)) = xs[0]? := hf 0 _ rfl
  rw [show Tryz.prog.cellsOf 3 = 1 from by kernel_rfl] at f0
  obtain ⟨d0, r0, o0⟩ := opn_cast (opn_int) (by rw [List.getElem?_eq_getElem (by omega)]; rfl) f0
  have f1 : DataW.trod enc Tryz.prog W 0 (fun _ => true) held n 3 ((cs.drop 1).take (Tryz.prog.cellsOf 3)) = xs[1]? := hf 1 _ rfl
  rw [show Tryz.prog.cellsOf 3 = 1 from by kernel_rfl] at f1
  obtain ⟨d1, r1, o1⟩ := opn_cast (opn_int) (by rw [List.getElem?_eq_getElem (by omega)]; rfl) f1
  have f2 : DataW.trod enc Tryz.prog W 0 (fun _ => true) held n 44 ((cs.drop 2).take (Tryz.prog.cellsOf 44)) = xs[2]? := hf 2 _ rfl
  rw [show Tryz.prog.cellsOf 44 = 1 from by kernel_rfl] at f2
  obtain ⟨d2, r2, o2⟩ := opn_cast (opn_CondS) (by rw [List.getElem?_eq_getElem (by omega)]; rfl) f2
  have f3 : DataW.trod enc Tryz.prog W 0 (fun _ => true) held n 25 ((cs.drop 3).take (Tryz.prog.cellsOf 25)) = xs[3]? := hf 3 _ rfl
  rw [show Tryz.prog.cellsOf 25 = 1 from by kernel_rfl] at f3
  obtain ⟨d3, r3, o3⟩ := opn_cast (opn_ints 3) (by rw [List.getElem?_eq_getElem (by omega)]; rfl) f3
  exact ⟨(d0, d1, d2, d3), ⟨(cs.drop 0).take 1, cs.drop 1, (List.take_append_drop 1 cs).symm, r0, ⟨(cs.drop 1).take 1, cs.drop 2, (List.take_append_drop 1 (cs.drop 1)).symm.trans (by simp), r1, ⟨(cs.drop 2).take 1, cs.drop 3, (List.take_append_drop 1 (cs.drop 2)).symm.trans (by simp), r2, (by have e := List.take_of_length_le (l := cs.drop 3) (i := 1) (by rw [List.length_drop]; omega); rw [e] at r3; exact r3)⟩⟩⟩, ⟨o0, ⟨o1, ⟨o2, o3⟩⟩⟩⟩
end Go.Proofs.YtdhglmoanpkeoaaGreatDoor
namespace Go.Proofs.YtdhglmoanpkeoaaGreatDoor
open Go.ChangeShapes Go.WideShapes Go.ChangeAt Go.WideMaps Go.WideElems Go.RowKit
set_option linter.unusedVariables false
set_option maxRecDepth 100000 in
theorem opn_Row : Opn tRow 61 := by
  intro H enc W held fuel cs x h
  obtain ⟨xs, n, _, _, hl, hlen, hf⟩ := DataW.trod_struct Tryz.underlying61 h
  have hl2 : cs.length = 2 := hl.trans (by kernel_rfl)
  have hn : xs.length = 2 := hlen
  have f0 : DataW.trod enc Tryz.prog W 0 (fun _ => true) held n 3 ((cs.drop 0).take (Tryz.prog.cellsOf 3)) = xs[0]? := hf 0 _ rfl
  rw [show Tryz.prog.cellsOf 3 = 1 from by kernel_rfl] at f0
  obtain ⟨d0, r0, o0⟩ := opn_cast (opn_int) (by rw [List.getElem?_eq_getElem (by omega)]; rfl) f0
  have f1 : DataW.trod enc Tryz.prog W 0 (fun _ => true) held n 25 ((cs.drop 1).take (Tryz.prog.cellsOf 25)) = xs[1]? := hf 1 _ rfl
  rw [show Tryz.prog.cellsOf 25 = 1 from by kernel_rfl] at f1
  obtain ⟨d1, r1, o1⟩ := opn_cast (opn_ints 3) (by rw [List.getElem?_eq_getElem (by omega)]; rfl) f1
  exact ⟨(d0, d1), ⟨(cs.drop 0).take 1, cs.drop 1, (List.take_append_drop 1 cs).symm, r0, (by have e := List.take_of_length_le (l := cs.drop 1) (i := 1) (by rw [List.length_drop]; omega); rw [e] at r1; exact r1)⟩, ⟨o0, o1⟩⟩
end Go.Proofs.YtdhglmoanpkeoaaGreatDoor
namespace Go.Proofs.YtdhglmoanpkeoaaGreatDoor
open Go.ChangeShapes Go.WideShapes Go.ChangeAt Go.WideMaps Go.WideElems Go.RowKit
set_option linter.unusedVariables false
theorem opn_RowS : Opn tRowS 135 := opn_slice tRow_law _ opn_Row Tryz.underlying135 (by kernel_rfl)
end Go.Proofs.YtdhglmoanpkeoaaGreatDoor
namespace Go.Proofs.YtdhglmoanpkeoaaGreatDoor
open Go.ChangeShapes Go.WideShapes Go.ChangeAt Go.WideMaps Go.WideElems Go.RowKit
set_option linter.unusedVariables false
set_option maxRecDepth 100000 in
theorem opn_Active : Opn tActive 137 := by
  intro H enc W held fuel cs x h
  obtain ⟨xs, n, _, _, hl, hlen, hf⟩ := DataW.trod_struct Tryz.underlying137 h
  have hl2 : cs.length = 10 := hl.trans (by kernel_rfl)
  have hn : xs.length = 7 := hlen
  have f0 : DataW.trod enc Tryz.prog W 0 (fun _ => true) held n 46 ((cs.drop 0).take (Tryz.prog.cellsOf 46)) = xs[0]? := hf 0 _ rfl
  rw [show Tryz.prog.cellsOf 46 = 4 from by kernel_rfl] at f0
  obtain ⟨d0, r0, o0⟩ := opn_cast (opn_Query) (by rw [List.getElem?_eq_getElem (by omega)]; rfl) f0
  have f1 : DataW.trod enc Tryz.prog W 0 (fun _ => true) held n 3 ((cs.drop 4).take (Tryz.prog.cellsOf 3)) = xs[1]? := hf 1 _ rfl
  rw [show Tryz.prog.cellsOf 3 = 1 from by kernel_rfl] at f1
  obtain ⟨d1, r1, o1⟩ := opn_cast (opn_int) (by rw [List.getElem?_eq_getElem (by omega)]; rfl) f1
  have f2 : DataW.trod enc Tryz.prog W 0 (fun _ => true) held n 25 ((cs.drop 5).take (Tryz.prog.cellsOf 25)) = xs[2]? := hf 2 _ rfl
  rw [show Tryz.prog.cellsOf 25 = 1 from by kernel_rfl] at f2
  obtain ⟨d2, r2, o2⟩ := opn_cast (opn_ints 3) (by rw [List.getElem?_eq_getElem (by omega)]; rfl) f2
  have f3 : DataW.trod enc Tryz.prog W 0 (fun _ => true) held n 3 ((cs.drop 6).take (Tryz.prog.cellsOf 3)) = xs[3]? := hf 3 _ rfl
  rw [show Tryz.prog.cellsOf 3 = 1 from by kernel_rfl] at f3
  obtain ⟨d3, r3, o3⟩ := opn_cast (opn_int) (by rw [List.getElem?_eq_getElem (by omega)]; rfl) f3
  have f4 : DataW.trod enc Tryz.prog W 0 (fun _ => true) held n 3 ((cs.drop 7).take (Tryz.prog.cellsOf 3)) = xs[4]? := hf 4 _ rfl
  rw [show Tryz.prog.cellsOf 3 = 1 from by kernel_rfl] at f4
  obtain ⟨d4, r4, o4⟩ := opn_cast (opn_int) (by rw [List.getElem?_eq_getElem (by omega)]; rfl) f4
  have f5 : DataW.trod enc Tryz.prog W 0 (fun _ => true) held n 3 ((cs.drop 8).take (Tryz.prog.cellsOf 3)) = xs[5]? := hf 5 _ rfl
  rw [show Tryz.prog.cellsOf 3 = 1 from by kernel_rfl] at f5
  obtain ⟨d5, r5, o5⟩ := opn_cast (opn_int) (by rw [List.getElem?_eq_getElem (by omega)]; rfl) f5
  have f6 : DataW.trod enc Tryz.prog W 0 (fun _ => true) held n 135 ((cs.drop 9).take (Tryz.prog.cellsOf 135)) = xs[6]? := hf 6 _ rfl
  rw [show Tryz.prog.cellsOf 135 = 1 from by kernel_rfl] at f6
  obtain ⟨d6, r6, o6⟩ := opn_cast (opn_RowS) (by rw [List.getElem?_eq_getElem (by omega)]; rfl) f6
  exact ⟨(d0, d1, d2, d3, d4, d5, d6), ⟨(cs.drop 0).take 4, cs.drop 4, (List.take_append_drop 4 cs).symm, r0, ⟨(cs.drop 4).take 1, cs.drop 5, (List.take_append_drop 1 (cs.drop 4)).symm.trans (by simp), r1, ⟨(cs.drop 5).take 1, cs.drop 6, (List.take_append_drop 1 (cs.drop 5)).symm.trans (by simp), r2, ⟨(cs.drop 6).take 1, cs.drop 7, (List.take_append_drop 1 (cs.drop 6)).symm.trans (by simp), r3, ⟨(cs.drop 7).take 1, cs.drop 8, (List.take_append_drop 1 (cs.drop 7)).symm.trans (by simp), r4, ⟨(cs.drop 8).take 1, cs.drop 9, (List.take_append_drop 1 (cs.drop 8)).symm.trans (by simp), r5, (by have e := List.take_of_length_le (l := cs.drop 9) (i := 1) (by rw [List.length_drop]; omega); rw [e] at r6; exact r6)⟩⟩⟩⟩⟩⟩, ⟨o0, ⟨o1, ⟨o2, ⟨o3, ⟨o4, ⟨o5, o6⟩⟩⟩⟩⟩⟩⟩
end Go.Proofs.YtdhglmoanpkeoaaGreatDoor
namespace Go.Proofs.YtdhglmoanpkeoaaGreatDoor
open Go.ChangeShapes Go.WideShapes Go.ChangeAt Go.WideMaps Go.WideElems Go.RowKit
set_option linter.unusedVariables false
theorem opn_ActiveS : Opn tActiveS 26 := opn_slice tActive_law _ opn_Active Tryz.underlying26 (by kernel_rfl)
end Go.Proofs.YtdhglmoanpkeoaaGreatDoor
namespace Go.Proofs.YtdhglmoanpkeoaaGreatDoor
open Go.ChangeShapes Go.WideShapes Go.ChangeAt Go.WideMaps Go.WideElems Go.RowKit
set_option linter.unusedVariables false
set_option maxRecDepth 100000 in
theorem opn_Finished : Opn tFinished 140 := by
  intro H enc W held fuel cs x h
  obtain ⟨xs, n, _, _, hl, hlen, hf⟩ := DataW.trod_struct Tryz.underlying140 h
  have hl2 : cs.length = 7 := hl.trans (by kernel_rfl)
  have hn : xs.length = 4 := hlen
  have f0 : DataW.trod enc Tryz.prog W 0 (fun _ => true) held n 46 ((cs.drop 0).take (Tryz.prog.cellsOf 46)) = xs[0]? := hf 0 _ rfl
  rw [show Tryz.prog.cellsOf 46 = 4 from by kernel_rfl] at f0
  obtain ⟨d0, r0, o0⟩ := opn_cast (opn_Query) (by rw [List.getElem?_eq_getElem (by omega)]; rfl) f0
  have f1 : DataW.trod enc Tryz.prog W 0 (fun _ => true) held n 3 ((cs.drop 4).take (Tryz.prog.cellsOf 3)) = xs[1]? := hf 1 _ rfl
  rw [show Tryz.prog.cellsOf 3 = 1 from by kernel_rfl] at f1
  obtain ⟨d1, r1, o1⟩ := opn_cast (opn_int) (by rw [List.getElem?_eq_getElem (by omega)]; rfl) f1
  have f2 : DataW.trod enc Tryz.prog W 0 (fun _ => true) held n 3 ((cs.drop 5).take (Tryz.prog.cellsOf 3)) = xs[2]? := hf 2 _ rfl
  rw [show Tryz.prog.cellsOf 3 = 1 from by kernel_rfl] at f2
  obtain ⟨d2, r2, o2⟩ := opn_cast (opn_int) (by rw [List.getElem?_eq_getElem (by omega)]; rfl) f2
  have f3 : DataW.trod enc Tryz.prog W 0 (fun _ => true) held n 135 ((cs.drop 6).take (Tryz.prog.cellsOf 135)) = xs[3]? := hf 3 _ rfl
  rw [show Tryz.prog.cellsOf 135 = 1 from by kernel_rfl] at f3
  obtain ⟨d3, r3, o3⟩ := opn_cast (opn_RowS) (by rw [List.getElem?_eq_getElem (by omega)]; rfl) f3
  exact ⟨(d0, d1, d2, d3), ⟨(cs.drop 0).take 4, cs.drop 4, (List.take_append_drop 4 cs).symm, r0, ⟨(cs.drop 4).take 1, cs.drop 5, (List.take_append_drop 1 (cs.drop 4)).symm.trans (by simp), r1, ⟨(cs.drop 5).take 1, cs.drop 6, (List.take_append_drop 1 (cs.drop 5)).symm.trans (by simp), r2, (by have e := List.take_of_length_le (l := cs.drop 6) (i := 1) (by rw [List.length_drop]; omega); rw [e] at r3; exact r3)⟩⟩⟩, ⟨o0, ⟨o1, ⟨o2, o3⟩⟩⟩⟩
end Go.Proofs.YtdhglmoanpkeoaaGreatDoor
namespace Go.Proofs.YtdhglmoanpkeoaaGreatDoor
open Go.ChangeShapes Go.WideShapes Go.ChangeAt Go.WideMaps Go.WideElems Go.RowKit
set_option linter.unusedVariables false
theorem opn_FinishedS : Opn tFinishedS 27 := opn_slice tFinished_law _ opn_Finished Tryz.underlying27 (by kernel_rfl)
end Go.Proofs.YtdhglmoanpkeoaaGreatDoor
namespace Go.Proofs.YtdhglmoanpkeoaaGreatDoor
open Go.ChangeShapes Go.WideShapes Go.ChangeAt Go.WideMaps Go.WideElems Go.RowKit
set_option linter.unusedVariables false
set_option maxRecDepth 100000 in
theorem opn_Charge : Opn tCharge 142 := by
  intro H enc W held fuel cs x h
  obtain ⟨xs, n, _, _, hl, hlen, hf⟩ := DataW.trod_struct Tryz.underlying142 h
  have hl2 : cs.length = 5 := hl.trans (by kernel_rfl)
  have hn : xs.length = 5 := hlen
  have f0 : DataW.trod enc Tryz.prog W 0 (fun _ => true) held n 3 ((cs.drop 0).take (Tryz.prog.cellsOf 3)) = xs[0]? := hf 0 _ rfl
  rw [show Tryz.prog.cellsOf 3 = 1 from by kernel_rfl] at f0
  obtain ⟨d0, r0, o0⟩ := opn_cast (opn_int) (by rw [List.getElem?_eq_getElem (by omega)]; rfl) f0
  have f1 : DataW.trod enc Tryz.prog W 0 (fun _ => true) held n 3 ((cs.drop 1).take (Tryz.prog.cellsOf 3)) = xs[1]? := hf 1 _ rfl
  rw [show Tryz.prog.cellsOf 3 = 1 from by kernel_rfl] at f1
  obtain ⟨d1, r1, o1⟩ := opn_cast (opn_int) (by rw [List.getElem?_eq_getElem (by omega)]; rfl) f1
  have f2 : DataW.trod enc Tryz.prog W 0 (fun _ => true) held n 25 ((cs.drop 2).take (Tryz.prog.cellsOf 25)) = xs[2]? := hf 2 _ rfl
  rw [show Tryz.prog.cellsOf 25 = 1 from by kernel_rfl] at f2
  obtain ⟨d2, r2, o2⟩ := opn_cast (opn_ints 3) (by rw [List.getElem?_eq_getElem (by omega)]; rfl) f2
  have f3 : DataW.trod enc Tryz.prog W 0 (fun _ => true) held n 25 ((cs.drop 3).take (Tryz.prog.cellsOf 25)) = xs[3]? := hf 3 _ rfl
  rw [show Tryz.prog.cellsOf 25 = 1 from by kernel_rfl] at f3
  obtain ⟨d3, r3, o3⟩ := opn_cast (opn_ints 3) (by rw [List.getElem?_eq_getElem (by omega)]; rfl) f3
  have f4 : DataW.trod enc Tryz.prog W 0 (fun _ => true) held n 25 ((cs.drop 4).take (Tryz.prog.cellsOf 25)) = xs[4]? := hf 4 _ rfl
  rw [show Tryz.prog.cellsOf 25 = 1 from by kernel_rfl] at f4
  obtain ⟨d4, r4, o4⟩ := opn_cast (opn_ints 3) (by rw [List.getElem?_eq_getElem (by omega)]; rfl) f4
  exact ⟨(d0, d1, d2, d3, d4), ⟨(cs.drop 0).take 1, cs.drop 1, (List.take_append_drop 1 cs).symm, r0, ⟨(cs.drop 1).take 1, cs.drop 2, (List.take_append_drop 1 (cs.drop 1)).symm.trans (by simp), r1, ⟨(cs.drop 2).take 1, cs.drop 3, (List.take_append_drop 1 (cs.drop 2)).symm.trans (by simp), r2, ⟨(cs.drop 3).take 1, cs.drop 4, (List.take_append_drop 1 (cs.drop 3)).symm.trans (by simp), r3, (by have e := List.take_of_length_le (l := cs.drop 4) (i := 1) (by rw [List.length_drop]; omega); rw [e] at r4; exact r4)⟩⟩⟩⟩, ⟨o0, ⟨o1, ⟨o2, ⟨o3, o4⟩⟩⟩⟩⟩
end Go.Proofs.YtdhglmoanpkeoaaGreatDoor
namespace Go.Proofs.YtdhglmoanpkeoaaGreatDoor
open Go.ChangeShapes Go.WideShapes Go.ChangeAt Go.WideMaps Go.WideElems Go.RowKit
set_option linter.unusedVariables false
theorem opn_ChargeS : Opn tChargeS 28 := opn_slice tCharge_law _ opn_Charge Tryz.underlying28 (by kernel_rfl)
end Go.Proofs.YtdhglmoanpkeoaaGreatDoor
namespace Go.Proofs.YtdhglmoanpkeoaaGreatDoor
open Go.ChangeShapes Go.WideShapes Go.ChangeAt Go.WideMaps Go.WideElems Go.RowKit
set_option linter.unusedVariables false
theorem recT_Engine : Tryz.prog.readableRec 30 = true := by kernel_rfl
theorem rowT_Engine : 30 < Tryz.prog.types.size := of_decide_eq_true (by kernel_rfl)
set_option maxRecDepth 100000 in
theorem opn_Engine : Opn tEngine 30 := by
  intro H enc W held fuel cs x h
  obtain ⟨xs, n, _, _, hl, hlen, hf⟩ := DataW.trod_struct Tryz.underlying30 h
  have hl2 : cs.length = 8 := hl.trans (by kernel_rfl)
  have hn : xs.length = 7 := hlen
  have f0 : DataW.trod enc Tryz.prog W 0 (fun _ => true) held n 24 ((cs.drop 0).take (Tryz.prog.cellsOf 24)) = xs[0]? := hf 0 _ rfl
  rw [show Tryz.prog.cellsOf 24 = 2 from by kernel_rfl] at f0
  obtain ⟨d0, r0, o0⟩ := opn_cast (opn_Store) (by rw [List.getElem?_eq_getElem (by omega)]; rfl) f0
  have f1 : DataW.trod enc Tryz.prog W 0 (fun _ => true) held n 3 ((cs.drop 2).take (Tryz.prog.cellsOf 3)) = xs[1]? := hf 1 _ rfl
  rw [show Tryz.prog.cellsOf 3 = 1 from by kernel_rfl] at f1
  obtain ⟨d1, r1, o1⟩ := opn_cast (opn_int) (by rw [List.getElem?_eq_getElem (by omega)]; rfl) f1
  have f2 : DataW.trod enc Tryz.prog W 0 (fun _ => true) held n 25 ((cs.drop 3).take (Tryz.prog.cellsOf 25)) = xs[2]? := hf 2 _ rfl
  rw [show Tryz.prog.cellsOf 25 = 1 from by kernel_rfl] at f2
  obtain ⟨d2, r2, o2⟩ := opn_cast (opn_ints 3) (by rw [List.getElem?_eq_getElem (by omega)]; rfl) f2
  have f3 : DataW.trod enc Tryz.prog W 0 (fun _ => true) held n 26 ((cs.drop 4).take (Tryz.prog.cellsOf 26)) = xs[3]? := hf 3 _ rfl
  rw [show Tryz.prog.cellsOf 26 = 1 from by kernel_rfl] at f3
  obtain ⟨d3, r3, o3⟩ := opn_cast (opn_ActiveS) (by rw [List.getElem?_eq_getElem (by omega)]; rfl) f3
  have f4 : DataW.trod enc Tryz.prog W 0 (fun _ => true) held n 27 ((cs.drop 5).take (Tryz.prog.cellsOf 27)) = xs[4]? := hf 4 _ rfl
  rw [show Tryz.prog.cellsOf 27 = 1 from by kernel_rfl] at f4
  obtain ⟨d4, r4, o4⟩ := opn_cast (opn_FinishedS) (by rw [List.getElem?_eq_getElem (by omega)]; rfl) f4
  have f5 : DataW.trod enc Tryz.prog W 0 (fun _ => true) held n 28 ((cs.drop 6).take (Tryz.prog.cellsOf 28)) = xs[5]? := hf 5 _ rfl
  rw [show Tryz.prog.cellsOf 28 = 1 from by kernel_rfl] at f5
  obtain ⟨d5, r5, o5⟩ := opn_cast (opn_ChargeS) (by rw [List.getElem?_eq_getElem (by omega)]; rfl) f5
  have f6 : DataW.trod enc Tryz.prog W 0 (fun _ => true) held n 3 ((cs.drop 7).take (Tryz.prog.cellsOf 3)) = xs[6]? := hf 6 _ rfl
  rw [show Tryz.prog.cellsOf 3 = 1 from by kernel_rfl] at f6
  obtain ⟨d6, r6, o6⟩ := opn_cast (opn_int) (by rw [List.getElem?_eq_getElem (by omega)]; rfl) f6
  exact ⟨(d0, d1, d2, d3, d4, d5, d6), ⟨(cs.drop 0).take 2, cs.drop 2, (List.take_append_drop 2 cs).symm, r0, ⟨(cs.drop 2).take 1, cs.drop 3, (List.take_append_drop 1 (cs.drop 2)).symm.trans (by simp), r1, ⟨(cs.drop 3).take 1, cs.drop 4, (List.take_append_drop 1 (cs.drop 3)).symm.trans (by simp), r2, ⟨(cs.drop 4).take 1, cs.drop 5, (List.take_append_drop 1 (cs.drop 4)).symm.trans (by simp), r3, ⟨(cs.drop 5).take 1, cs.drop 6, (List.take_append_drop 1 (cs.drop 5)).symm.trans (by simp), r4, ⟨(cs.drop 6).take 1, cs.drop 7, (List.take_append_drop 1 (cs.drop 6)).symm.trans (by simp), r5, (by have e := List.take_of_length_le (l := cs.drop 7) (i := 1) (by rw [List.length_drop]; omega); rw [e] at r6; exact r6)⟩⟩⟩⟩⟩⟩, ⟨o0, ⟨o1, ⟨o2, ⟨o3, ⟨o4, ⟨o5, o6⟩⟩⟩⟩⟩⟩⟩
set_option maxRecDepth 100000 in
theorem shut_Engine {H : Type} {enc : TypeId × Value → H} {W W' : World} {v : Value} {d : DataW H} {ps : List MemPlace} (h : DataW.Trod enc Tryz.prog W 0 (fun _ => true) true 30 v d ps) (hb : Below W.heap.size W W') (hlt : ∀ x ∈ ps, x.block < W.heap.size) :
    DataW.Trod enc Tryz.prog W' 0 (fun b => decide (b < W.heap.size)) true 30 v d ps := Below.trod laidOutP recT_Engine rowT_Engine h hb hlt
end Go.Proofs.YtdhglmoanpkeoaaGreatDoor
