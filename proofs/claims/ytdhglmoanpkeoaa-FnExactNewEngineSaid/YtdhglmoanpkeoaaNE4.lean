/-
  Texts of the proof, merged: EngFit1, LawNewEngine, OpenInts, OpnT, OVersion, OVersionS, OVersionSS, OStore.
-/
import Derived.Test.YtdhglmoanpkeoaaNE3
import Derived.ProofKit
import Derived.OpenShut
import Derived.Carry
import Derived.Lib.SmallJoins
import Derived.Deep.Slices
namespace Go.Proofs.Ytdhglmoanpkeoaa
open Go.RowKit
set_option linter.unusedVariables false
theorem newE_size (ss : List (List VerD)) (now : Int) : tEngine.sz (newE (ss, now)).1 ≤ 1048576 := by
  unfold newE
  by_cases h : storeB ss now = true
  · rw [if_pos h]
    show tEngine.sz ((ss, now), 0, [0, 1, 2], [], [], [], 0) ≤ 1048576
    rw [tEngine_sz]
    have h1 := store_small h
    have h2 : zL tInt [0, 1, 2] = 3 := rfl
    have h3 : zL tActive [] = 0 := rfl
    have h4 : zL tFinished [] = 0 := rfl
    have h5 : zL tCharge [] = 0 := rfl
    omega
  · rw [if_neg h]
    show tEngine.sz (([], 0), 0, [], [], [], [], 0) ≤ 1048576
    rw [tEngine_sz]
    decide
end Go.Proofs.Ytdhglmoanpkeoaa
namespace Go.Proofs.Ytdhglmoanpkeoaa
open Go.RowKit
set_option linter.unusedVariables false
set_option linter.unusedSimpArgs false
set_option maxHeartbeats 32000000 in
set_option maxRecDepth 100000 in
theorem law_fnExactNewEngine (a0_1 : Int) (v0_0 : Value) (x0_0 : List (List (Int × List Int × Int × Int))) (r0 : (List (List (Int × List Int × Int × Int)) × Int) × Int × List Int × List ((Int × Int × List (Int × Int × Int) × List Int) × Int × List Int × Int × Int × Int × List (Int × List Int)) × List ((Int × Int × List (Int × Int × Int) × List Int) × Int × Int × List (Int × List Int)) × List (Int × Int × List Int × List Int × List Int) × Int) (r1 : Bool) (w : World) (h0_0 : SlR tVersionS w v0_0 x0_0) (o0_0 : tVersionSS.ok x0_0) (z0 : tEngine.sz r0 ≤ 1048576)
    (hspec : ∀ (v0_0 : Value) (w : World), SlR tVersionS w v0_0 x0_0 → zL tVersionS x0_0 ≤ 1048576 → Calls Try.prog 16 #[.agg #[v0_0, .int .i64 a0_1]] w (fun e w' => ∃ (g0 : List Value) (G0 : Nat → Prop), e = .returned (.tuple #[.agg g0.toArray, .bool r1]) ∧ tEngine.O w' G0 g0 r0 ∧ (∀ b, G0 b → w.heap.size ≤ b) ∧ Below w.heap.size w w'))
    (himpl : ∀ (v0_0 : Value) (w : World), SlR tVersionS w v0_0 x0_0 → zL tVersionS x0_0 ≤ 1048576 → Calls Try.prog 17 #[.agg #[v0_0, .int .i64 a0_1]] w (fun e w' => ∃ (g0 : List Value) (G0 : Nat → Prop), e = .returned (.tuple #[.agg g0.toArray, .bool r1]) ∧ tEngine.O w' G0 g0 r0 ∧ (∀ b, G0 b → w.heap.size ≤ b) ∧ Below w.heap.size w w')) :
    Calls Try.prog 4 #[.agg #[v0_0, .int .i64 a0_1]] w fun e w' => e = .returned (.bool true) ∧ Below w.heap.size w w' := by
  obtain ⟨c0_0, k0_0, rfl⟩ := slR_len h0_0
  have HB0 : Hid (Below w.heap.size w (w.alloc (.cells #[.slice c0_0 x0_0.length k0_0, .int .i64 a0_1] 24))) := Lib.hid ((Below.refl _ w).alloc (Nat.le_refl _) _)
  have B0 : Hid ((w.alloc (.cells #[.slice c0_0 x0_0.length k0_0, .int .i64 a0_1] 24)).heap[w.heap.size]? = some (.cells #[.slice c0_0 x0_0.length k0_0, .int .i64 a0_1] 24 (0, 0))) := Lib.hid (by have := heap_alloc_new w (.cells #[.slice c0_0 x0_0.length k0_0, .int .i64 a0_1] 24); simpa only [World.size_alloc] using this)
  have A0_0 : Hid (SlR tVersionS (w.alloc (.cells #[.slice c0_0 x0_0.length k0_0, .int .i64 a0_1] 24)) (.slice c0_0 x0_0.length k0_0) x0_0) := Lib.hid (slR_below tVersionS_law h0_0 HB0.out)
  have O0_0 := Lib.hid o0_0
  clear h0_0 o0_0
  have HSP := Lib.hid hspec
  have HIM := Lib.hid himpl
  clear hspec himpl
  have Z0 := Lib.hid z0
  clear z0
  by_cases c0 : ((zL tVersionS x0_0 : Nat) : Int) ≤ (1048576 : Int)
  ·
    have HZ0 : Hid (((zL tVersionS x0_0 : Nat) : Int) ≤ (1048576 : Int)) := Lib.hid c0
    have HK0 : Hid ((1048576 : Int) ≤ 1048576) := Lib.hid (by omega)
    have hn0 : ¬ (1048576 : Int) - ((zL tVersionS x0_0 : Nat) : Int) < 0 := by omega
    have HT : Hid (zL tVersionS x0_0 ≤ 1048576) := Lib.hid (by omega)
    have S0_0 : Hid (zL tVersionS x0_0 ≤ 1048576) := Lib.hid (by omega)
    have N0_0 := ndL_le tVersionS_law (by decide) x0_0
    have M0 : Hid (0 ≤ (1 : Int) ∧ (1 : Int) ≤ 134217728) := Lib.hid (by have := HT.out; omega)
    have hk : ¬ (1 + (ndL tVersionS x0_0 : Int) : Int) < 0 := by omega
    clear N0_0
    have e1 : (r1 != r1) = false := by simp
    obtain ⟨⟨xr0_0, ar0_1⟩, ar0_2, xr0_3, xr0_4, xr0_5, xr0_6, ar0_7⟩ := r0
    have ZZ0 := Z0.out
    rw [tEngine_sz] at ZZ0
    have NR0_0 := ndL_le tVersionS_law (by decide) xr0_0
    have Z0_0 : Hid (zL tVersionS xr0_0 ≤ 1048576) := Lib.hid (by omega)
    have NR0_3 := ndL_le tInt_law (by decide) xr0_3
    have Z0_3 : Hid (zL tInt xr0_3 ≤ 1048576) := Lib.hid (by omega)
    have NR0_4 := ndL_le tActive_law (by decide) xr0_4
    have Z0_4 : Hid (zL tActive xr0_4 ≤ 1048576) := Lib.hid (by omega)
    have NR0_5 := ndL_le tFinished_law (by decide) xr0_5
    have Z0_5 : Hid (zL tFinished xr0_5 ≤ 1048576) := Lib.hid (by omega)
    have NR0_6 := ndL_le tCharge_law (by decide) xr0_6
    have Z0_6 : Hid (zL tCharge xr0_6 ≤ 1048576) := Lib.hid (by omega)
    have MR0 : Hid (0 ≤ (1 : Int) ∧ (1 : Int) ≤ 134217728) := Lib.hid (by omega)
    have hh0 : ¬ (1 + (ndL tVersionS xr0_0 : Int) + (ndL tInt xr0_3 : Int) + (ndL tActive xr0_4 : Int) + (ndL tFinished xr0_5 : Int) + (ndL tCharge xr0_6 : Int) : Int) < 0 := by omega
    have hq : ((1 + (ndL tVersionS xr0_0 : Int) + (ndL tInt xr0_3 : Int) + (ndL tActive xr0_4 : Int) + (ndL tFinished xr0_5 : Int) + (ndL tCharge xr0_6 : Int) : Int) != 1 + (ndL tVersionS xr0_0 : Int) + (ndL tInt xr0_3 : Int) + (ndL tActive xr0_4 : Int) + (ndL tFinished xr0_5 : Int) + (ndL tCharge xr0_6 : Int)) = false := by simp
    clear ZZ0 NR0_0 NR0_3 NR0_4 NR0_5 NR0_6
    clear c0
    go_enter Try.func4, Try.ntmps4
    go_wp2_with fail
    have Y_W : Hid (w.heap.size + 1 ≤ (w.alloc (.cells #[.slice c0_0 x0_0.length k0_0, .int .i64 a0_1] 24)).heap.size) := Lib.hid (by simp [World.size_alloc])
    generalize (w.alloc (.cells #[.slice c0_0 x0_0.length k0_0, .int .i64 a0_1] 24)) = W at *
    have d := Lib.hid (Below.refl W.heap.size W)
    refine (szStore_Y a0_1 (.slice c0_0 x0_0.length k0_0) x0_0 ((1048576 : Int)) W (slR_below tVersionS_law A0_0.out d.out) HZ0.out HK0.out).mono ?_
    rintro e v1 ⟨rfl, c1⟩
    replace B0 := Lib.hid ((c1.block w.heap.size (Array.getElem?_eq_some_iff.1 B0.out).1).trans B0.out)
    replace d := Lib.hid (d.out.trans (c1.mono d.out.size))
    have Z_v1 := Lib.hid (show W.heap.size ≤ v1.heap.size from c1.size)
    clear c1
    have p_B0_0 := (cell_of_row v1 _ 0 _ _ _ B0.out).trans (show _ = some (Value.slice c0_0 x0_0.length k0_0) from rfl)
    have p_B0_1 := (cell_of_row v1 _ 1 _ _ _ B0.out).trans (show _ = some (Value.int .i64 a0_1) from rfl)
    go_wp2_with fail
    clear p_B0_0 p_B0_1
    refine (toStore_T a0_1 (.slice c0_0 x0_0.length k0_0) x0_0 v1 (slR_below tVersionS_law A0_0.out d.out) S0_0.out).mono ?_
    rintro e v2 ⟨cs, rfl, ow, c2⟩
    replace B0 := Lib.hid ((c2.block w.heap.size (Array.getElem?_eq_some_iff.1 B0.out).1).trans B0.out)
    replace d := Lib.hid (d.out.trans (c2.mono d.out.size))
    have Z_v2 := Lib.hid (show v1.heap.size ≤ v2.heap.size from c2.size)
    clear c2
    replace ow := tStore_law.lt ow
    obtain ⟨y2_0, K2_0, rfl, p2_0, w2_0⟩ := tStore_O ow
    obtain ⟨ya2_0, yc2_0, rfl⟩ := slO_len p2_0
    have P2_0 := Lib.hid p2_0
    have Q2_0 := Lib.hid (fun b h => (show v1.heap.size ≤ b ∧ b < v2.heap.size from w2_0 b h))
    clear p2_0 w2_0 ow
    go_wp2_with fail
    refine (HSP.out (.slice ya2_0 x0_0.length yc2_0) v2 (slO_reads tVersionS_law P2_0.out) HT.out ).mono ?_
    rintro e v3 ⟨g0, G0, rfl, o0, q0, c3⟩
    replace B0 := Lib.hid ((c3.block w.heap.size (Array.getElem?_eq_some_iff.1 B0.out).1).trans B0.out)
    replace P2_0 := Lib.hid (slO_fresh tVersionS_law P2_0.out c3)
    replace d := Lib.hid (d.out.trans (c3.mono d.out.size))
    have Z_v3 := Lib.hid (show v2.heap.size ≤ v3.heap.size from c3.size)
    clear c3
    replace o0 := tEngine_law.lt o0
    obtain ⟨y3_0, y3_3, y3_4, y3_5, y3_6, K3_0, K3_3, K3_4, K3_5, K3_6, rfl, p3_0, p3_3, p3_4, p3_5, p3_6, w3_0, w3_3, w3_4, w3_5, w3_6, d3_0_3, d3_0_4, d3_0_5, d3_0_6, d3_3_4, d3_3_5, d3_3_6, d3_4_5, d3_4_6, d3_5_6⟩ := tEngine_O o0
    obtain ⟨ya3_0, yc3_0, rfl⟩ := slO_len p3_0
    have P3_0 := Lib.hid p3_0
    have Q3_0 := Lib.hid (fun b h => (show v2.heap.size ≤ b ∧ b < v3.heap.size from ⟨q0 b (w3_0 b h).1, (w3_0 b h).2⟩))
    obtain ⟨ya3_3, yc3_3, rfl⟩ := slO_len p3_3
    have P3_3 := Lib.hid p3_3
    have Q3_3 := Lib.hid (fun b h => (show v2.heap.size ≤ b ∧ b < v3.heap.size from ⟨q0 b (w3_3 b h).1, (w3_3 b h).2⟩))
    obtain ⟨ya3_4, yc3_4, rfl⟩ := slO_len p3_4
    have P3_4 := Lib.hid p3_4
    have Q3_4 := Lib.hid (fun b h => (show v2.heap.size ≤ b ∧ b < v3.heap.size from ⟨q0 b (w3_4 b h).1, (w3_4 b h).2⟩))
    obtain ⟨ya3_5, yc3_5, rfl⟩ := slO_len p3_5
    have P3_5 := Lib.hid p3_5
    have Q3_5 := Lib.hid (fun b h => (show v2.heap.size ≤ b ∧ b < v3.heap.size from ⟨q0 b (w3_5 b h).1, (w3_5 b h).2⟩))
    obtain ⟨ya3_6, yc3_6, rfl⟩ := slO_len p3_6
    have P3_6 := Lib.hid p3_6
    have Q3_6 := Lib.hid (fun b h => (show v2.heap.size ≤ b ∧ b < v3.heap.size from ⟨q0 b (w3_6 b h).1, (w3_6 b h).2⟩))
    have D3_0_3 := Lib.hid d3_0_3
    clear d3_0_3
    have D3_0_4 := Lib.hid d3_0_4
    clear d3_0_4
    have D3_0_5 := Lib.hid d3_0_5
    clear d3_0_5
    have D3_0_6 := Lib.hid d3_0_6
    clear d3_0_6
    have D3_3_4 := Lib.hid d3_3_4
    clear d3_3_4
    have D3_3_5 := Lib.hid d3_3_5
    clear d3_3_5
    have D3_3_6 := Lib.hid d3_3_6
    clear d3_3_6
    have D3_4_5 := Lib.hid d3_4_5
    clear d3_4_5
    have D3_4_6 := Lib.hid d3_4_6
    clear d3_4_6
    have D3_5_6 := Lib.hid d3_5_6
    clear d3_5_6
    clear p3_0 w3_0 p3_3 w3_3 p3_4 w3_4 p3_5 w3_5 p3_6 w3_6 o0 q0
    have hal : Below v3.heap.size v3 (v3.alloc (.cells #[.slice ya3_0 xr0_0.length yc3_0, .int .i64 ar0_1, .int .i64 ar0_2, .slice ya3_3 xr0_3.length yc3_3, .slice ya3_4 xr0_4.length yc3_4, .slice ya3_5 xr0_5.length yc3_5, .slice ya3_6 xr0_6.length yc3_6, .int .i64 ar0_7] 42)) := (Below.refl _ _).alloc (Nat.le_refl _) _
    have X1 := Lib.hid (heap_alloc_new v3 (.cells #[.slice ya3_0 xr0_0.length yc3_0, .int .i64 ar0_1, .int .i64 ar0_2, .slice ya3_3 xr0_3.length yc3_3, .slice ya3_4 xr0_4.length yc3_4, .slice ya3_5 xr0_5.length yc3_5, .slice ya3_6 xr0_6.length yc3_6, .int .i64 ar0_7] 42))
    have Y_X1 := Lib.hid (show v3.heap.size < (v3.alloc (.cells #[.slice ya3_0 xr0_0.length yc3_0, .int .i64 ar0_1, .int .i64 ar0_2, .slice ya3_3 xr0_3.length yc3_3, .slice ya3_4 xr0_4.length yc3_4, .slice ya3_5 xr0_5.length yc3_5, .slice ya3_6 xr0_6.length yc3_6, .int .i64 ar0_7] 42)).heap.size by simp [World.size_alloc])
    replace B0 := Lib.hid ((hal.block w.heap.size (Array.getElem?_eq_some_iff.1 B0.out).1).trans B0.out)
    replace P2_0 := Lib.hid (slO_fresh tVersionS_law P2_0.out hal)
    replace P3_0 := Lib.hid (slO_fresh tVersionS_law P3_0.out hal)
    replace P3_3 := Lib.hid (slO_fresh tInt_law P3_3.out hal)
    replace P3_4 := Lib.hid (slO_fresh tActive_law P3_4.out hal)
    replace P3_5 := Lib.hid (slO_fresh tFinished_law P3_5.out hal)
    replace P3_6 := Lib.hid (slO_fresh tCharge_law P3_6.out hal)
    replace d := Lib.hid (d.out.trans (hal.mono d.out.size))
    clear hal
    have p_B0_0 := (cell_of_row (v3.alloc (.cells #[.slice ya3_0 xr0_0.length yc3_0, .int .i64 ar0_1, .int .i64 ar0_2, .slice ya3_3 xr0_3.length yc3_3, .slice ya3_4 xr0_4.length yc3_4, .slice ya3_5 xr0_5.length yc3_5, .slice ya3_6 xr0_6.length yc3_6, .int .i64 ar0_7] 42)) _ 0 _ _ _ B0.out).trans (show _ = some (Value.slice c0_0 x0_0.length k0_0) from rfl)
    have p_B0_1 := (cell_of_row (v3.alloc (.cells #[.slice ya3_0 xr0_0.length yc3_0, .int .i64 ar0_1, .int .i64 ar0_2, .slice ya3_3 xr0_3.length yc3_3, .slice ya3_4 xr0_4.length yc3_4, .slice ya3_5 xr0_5.length yc3_5, .slice ya3_6 xr0_6.length yc3_6, .int .i64 ar0_7] 42)) _ 1 _ _ _ B0.out).trans (show _ = some (Value.int .i64 a0_1) from rfl)
    go_wp2_with fail
    clear p_B0_0 p_B0_1
    generalize (v3.alloc (.cells #[.slice ya3_0 xr0_0.length yc3_0, .int .i64 ar0_1, .int .i64 ar0_2, .slice ya3_3 xr0_3.length yc3_3, .slice ya3_4 xr0_4.length yc3_4, .slice ya3_5 xr0_5.length yc3_5, .slice ya3_6 xr0_6.length yc3_6, .int .i64 ar0_7] 42)) = u4 at *
    refine (toStore_T a0_1 (.slice c0_0 x0_0.length k0_0) x0_0 u4 (slR_below tVersionS_law A0_0.out d.out) S0_0.out).mono ?_
    rintro e v5 ⟨cs, rfl, ow, c5⟩
    replace B0 := Lib.hid ((c5.block w.heap.size (Array.getElem?_eq_some_iff.1 B0.out).1).trans B0.out)
    replace X1 := Lib.hid ((c5.block v3.heap.size (Array.getElem?_eq_some_iff.1 X1.out).1).trans X1.out)
    replace P2_0 := Lib.hid (slO_fresh tVersionS_law P2_0.out c5)
    replace P3_0 := Lib.hid (slO_fresh tVersionS_law P3_0.out c5)
    replace P3_3 := Lib.hid (slO_fresh tInt_law P3_3.out c5)
    replace P3_4 := Lib.hid (slO_fresh tActive_law P3_4.out c5)
    replace P3_5 := Lib.hid (slO_fresh tFinished_law P3_5.out c5)
    replace P3_6 := Lib.hid (slO_fresh tCharge_law P3_6.out c5)
    replace d := Lib.hid (d.out.trans (c5.mono d.out.size))
    have Z_v5 := Lib.hid (show u4.heap.size ≤ v5.heap.size from c5.size)
    clear c5
    replace ow := tStore_law.lt ow
    obtain ⟨y5_0, K5_0, rfl, p5_0, w5_0⟩ := tStore_O ow
    obtain ⟨ya5_0, yc5_0, rfl⟩ := slO_len p5_0
    have P5_0 := Lib.hid p5_0
    have Q5_0 := Lib.hid (fun b h => (show u4.heap.size ≤ b ∧ b < v5.heap.size from w5_0 b h))
    clear p5_0 w5_0 ow
    have hal : Below v5.heap.size v5 (v5.alloc (.cells #[.slice ya5_0 x0_0.length yc5_0, .int .i64 a0_1] 30)) := (Below.refl _ _).alloc (Nat.le_refl _) _
    have X2 := Lib.hid (heap_alloc_new v5 (.cells #[.slice ya5_0 x0_0.length yc5_0, .int .i64 a0_1] 30))
    have Y_X2 := Lib.hid (show v5.heap.size < (v5.alloc (.cells #[.slice ya5_0 x0_0.length yc5_0, .int .i64 a0_1] 30)).heap.size by simp [World.size_alloc])
    replace B0 := Lib.hid ((hal.block w.heap.size (Array.getElem?_eq_some_iff.1 B0.out).1).trans B0.out)
    replace X1 := Lib.hid ((hal.block v3.heap.size (Array.getElem?_eq_some_iff.1 X1.out).1).trans X1.out)
    replace P2_0 := Lib.hid (slO_fresh tVersionS_law P2_0.out hal)
    replace P3_0 := Lib.hid (slO_fresh tVersionS_law P3_0.out hal)
    replace P3_3 := Lib.hid (slO_fresh tInt_law P3_3.out hal)
    replace P3_4 := Lib.hid (slO_fresh tActive_law P3_4.out hal)
    replace P3_5 := Lib.hid (slO_fresh tFinished_law P3_5.out hal)
    replace P3_6 := Lib.hid (slO_fresh tCharge_law P3_6.out hal)
    replace P5_0 := Lib.hid (slO_fresh tVersionS_law P5_0.out hal)
    replace d := Lib.hid (d.out.trans (hal.mono d.out.size))
    clear hal
    have p_X2_0 := (cell_of_row (v5.alloc (.cells #[.slice ya5_0 x0_0.length yc5_0, .int .i64 a0_1] 30)) _ 0 _ _ _ X2.out).trans (show _ = some (Value.slice ya5_0 x0_0.length yc5_0) from rfl)
    have p_X2_1 := (cell_of_row (v5.alloc (.cells #[.slice ya5_0 x0_0.length yc5_0, .int .i64 a0_1] 30)) _ 1 _ _ _ X2.out).trans (show _ = some (Value.int .i64 a0_1) from rfl)
    go_wp2_with fail
    clear p_X2_0 p_X2_1
    generalize (v5.alloc (.cells #[.slice ya5_0 x0_0.length yc5_0, .int .i64 a0_1] 30)) = u6 at *
    refine (HIM.out (.slice ya5_0 x0_0.length yc5_0) u6 (slO_reads tVersionS_law P5_0.out) HT.out ).mono ?_
    rintro e v7 ⟨g0, G0, rfl, o0, q0, c7⟩
    replace B0 := Lib.hid ((c7.block w.heap.size (Array.getElem?_eq_some_iff.1 B0.out).1).trans B0.out)
    replace X1 := Lib.hid ((c7.block v3.heap.size (Array.getElem?_eq_some_iff.1 X1.out).1).trans X1.out)
    replace X2 := Lib.hid ((c7.block v5.heap.size (Array.getElem?_eq_some_iff.1 X2.out).1).trans X2.out)
    replace P2_0 := Lib.hid (slO_fresh tVersionS_law P2_0.out c7)
    replace P3_0 := Lib.hid (slO_fresh tVersionS_law P3_0.out c7)
    replace P3_3 := Lib.hid (slO_fresh tInt_law P3_3.out c7)
    replace P3_4 := Lib.hid (slO_fresh tActive_law P3_4.out c7)
    replace P3_5 := Lib.hid (slO_fresh tFinished_law P3_5.out c7)
    replace P3_6 := Lib.hid (slO_fresh tCharge_law P3_6.out c7)
    replace P5_0 := Lib.hid (slO_fresh tVersionS_law P5_0.out c7)
    replace d := Lib.hid (d.out.trans (c7.mono d.out.size))
    have Z_v7 := Lib.hid (show u6.heap.size ≤ v7.heap.size from c7.size)
    clear c7
    replace o0 := tEngine_law.lt o0
    obtain ⟨y7_0, y7_3, y7_4, y7_5, y7_6, K7_0, K7_3, K7_4, K7_5, K7_6, rfl, p7_0, p7_3, p7_4, p7_5, p7_6, w7_0, w7_3, w7_4, w7_5, w7_6, d7_0_3, d7_0_4, d7_0_5, d7_0_6, d7_3_4, d7_3_5, d7_3_6, d7_4_5, d7_4_6, d7_5_6⟩ := tEngine_O o0
    obtain ⟨ya7_0, yc7_0, rfl⟩ := slO_len p7_0
    have P7_0 := Lib.hid p7_0
    have Q7_0 := Lib.hid (fun b h => (show u6.heap.size ≤ b ∧ b < v7.heap.size from ⟨q0 b (w7_0 b h).1, (w7_0 b h).2⟩))
    obtain ⟨ya7_3, yc7_3, rfl⟩ := slO_len p7_3
    have P7_3 := Lib.hid p7_3
    have Q7_3 := Lib.hid (fun b h => (show u6.heap.size ≤ b ∧ b < v7.heap.size from ⟨q0 b (w7_3 b h).1, (w7_3 b h).2⟩))
    obtain ⟨ya7_4, yc7_4, rfl⟩ := slO_len p7_4
    have P7_4 := Lib.hid p7_4
    have Q7_4 := Lib.hid (fun b h => (show u6.heap.size ≤ b ∧ b < v7.heap.size from ⟨q0 b (w7_4 b h).1, (w7_4 b h).2⟩))
    obtain ⟨ya7_5, yc7_5, rfl⟩ := slO_len p7_5
    have P7_5 := Lib.hid p7_5
    have Q7_5 := Lib.hid (fun b h => (show u6.heap.size ≤ b ∧ b < v7.heap.size from ⟨q0 b (w7_5 b h).1, (w7_5 b h).2⟩))
    obtain ⟨ya7_6, yc7_6, rfl⟩ := slO_len p7_6
    have P7_6 := Lib.hid p7_6
    have Q7_6 := Lib.hid (fun b h => (show u6.heap.size ≤ b ∧ b < v7.heap.size from ⟨q0 b (w7_6 b h).1, (w7_6 b h).2⟩))
    have D7_0_3 := Lib.hid d7_0_3
    clear d7_0_3
    have D7_0_4 := Lib.hid d7_0_4
    clear d7_0_4
    have D7_0_5 := Lib.hid d7_0_5
    clear d7_0_5
    have D7_0_6 := Lib.hid d7_0_6
    clear d7_0_6
    have D7_3_4 := Lib.hid d7_3_4
    clear d7_3_4
    have D7_3_5 := Lib.hid d7_3_5
    clear d7_3_5
    have D7_3_6 := Lib.hid d7_3_6
    clear d7_3_6
    have D7_4_5 := Lib.hid d7_4_5
    clear d7_4_5
    have D7_4_6 := Lib.hid d7_4_6
    clear d7_4_6
    have D7_5_6 := Lib.hid d7_5_6
    clear d7_5_6
    clear p7_0 w7_0 p7_3 w7_3 p7_4 w7_4 p7_5 w7_5 p7_6 w7_6 o0 q0
    have hal : Below v7.heap.size v7 (v7.alloc (.cells #[.slice ya7_0 xr0_0.length yc7_0, .int .i64 ar0_1, .int .i64 ar0_2, .slice ya7_3 xr0_3.length yc7_3, .slice ya7_4 xr0_4.length yc7_4, .slice ya7_5 xr0_5.length yc7_5, .slice ya7_6 xr0_6.length yc7_6, .int .i64 ar0_7] 42)) := (Below.refl _ _).alloc (Nat.le_refl _) _
    have X3 := Lib.hid (heap_alloc_new v7 (.cells #[.slice ya7_0 xr0_0.length yc7_0, .int .i64 ar0_1, .int .i64 ar0_2, .slice ya7_3 xr0_3.length yc7_3, .slice ya7_4 xr0_4.length yc7_4, .slice ya7_5 xr0_5.length yc7_5, .slice ya7_6 xr0_6.length yc7_6, .int .i64 ar0_7] 42))
    have Y_X3 := Lib.hid (show v7.heap.size < (v7.alloc (.cells #[.slice ya7_0 xr0_0.length yc7_0, .int .i64 ar0_1, .int .i64 ar0_2, .slice ya7_3 xr0_3.length yc7_3, .slice ya7_4 xr0_4.length yc7_4, .slice ya7_5 xr0_5.length yc7_5, .slice ya7_6 xr0_6.length yc7_6, .int .i64 ar0_7] 42)).heap.size by simp [World.size_alloc])
    replace B0 := Lib.hid ((hal.block w.heap.size (Array.getElem?_eq_some_iff.1 B0.out).1).trans B0.out)
    replace X1 := Lib.hid ((hal.block v3.heap.size (Array.getElem?_eq_some_iff.1 X1.out).1).trans X1.out)
    replace X2 := Lib.hid ((hal.block v5.heap.size (Array.getElem?_eq_some_iff.1 X2.out).1).trans X2.out)
    replace P2_0 := Lib.hid (slO_fresh tVersionS_law P2_0.out hal)
    replace P3_0 := Lib.hid (slO_fresh tVersionS_law P3_0.out hal)
    replace P3_3 := Lib.hid (slO_fresh tInt_law P3_3.out hal)
    replace P3_4 := Lib.hid (slO_fresh tActive_law P3_4.out hal)
    replace P3_5 := Lib.hid (slO_fresh tFinished_law P3_5.out hal)
    replace P3_6 := Lib.hid (slO_fresh tCharge_law P3_6.out hal)
    replace P5_0 := Lib.hid (slO_fresh tVersionS_law P5_0.out hal)
    replace P7_0 := Lib.hid (slO_fresh tVersionS_law P7_0.out hal)
    replace P7_3 := Lib.hid (slO_fresh tInt_law P7_3.out hal)
    replace P7_4 := Lib.hid (slO_fresh tActive_law P7_4.out hal)
    replace P7_5 := Lib.hid (slO_fresh tFinished_law P7_5.out hal)
    replace P7_6 := Lib.hid (slO_fresh tCharge_law P7_6.out hal)
    replace d := Lib.hid (d.out.trans (hal.mono d.out.size))
    clear hal
    have p_X1_0 := (cell_of_row (v7.alloc (.cells #[.slice ya7_0 xr0_0.length yc7_0, .int .i64 ar0_1, .int .i64 ar0_2, .slice ya7_3 xr0_3.length yc7_3, .slice ya7_4 xr0_4.length yc7_4, .slice ya7_5 xr0_5.length yc7_5, .slice ya7_6 xr0_6.length yc7_6, .int .i64 ar0_7] 42)) _ 0 _ _ _ X1.out).trans (show _ = some (Value.slice ya3_0 xr0_0.length yc3_0) from rfl)
    have p_X1_1 := (cell_of_row (v7.alloc (.cells #[.slice ya7_0 xr0_0.length yc7_0, .int .i64 ar0_1, .int .i64 ar0_2, .slice ya7_3 xr0_3.length yc7_3, .slice ya7_4 xr0_4.length yc7_4, .slice ya7_5 xr0_5.length yc7_5, .slice ya7_6 xr0_6.length yc7_6, .int .i64 ar0_7] 42)) _ 1 _ _ _ X1.out).trans (show _ = some (Value.int .i64 ar0_1) from rfl)
    have p_X1_2 := (cell_of_row (v7.alloc (.cells #[.slice ya7_0 xr0_0.length yc7_0, .int .i64 ar0_1, .int .i64 ar0_2, .slice ya7_3 xr0_3.length yc7_3, .slice ya7_4 xr0_4.length yc7_4, .slice ya7_5 xr0_5.length yc7_5, .slice ya7_6 xr0_6.length yc7_6, .int .i64 ar0_7] 42)) _ 2 _ _ _ X1.out).trans (show _ = some (Value.int .i64 ar0_2) from rfl)
    have p_X1_3 := (cell_of_row (v7.alloc (.cells #[.slice ya7_0 xr0_0.length yc7_0, .int .i64 ar0_1, .int .i64 ar0_2, .slice ya7_3 xr0_3.length yc7_3, .slice ya7_4 xr0_4.length yc7_4, .slice ya7_5 xr0_5.length yc7_5, .slice ya7_6 xr0_6.length yc7_6, .int .i64 ar0_7] 42)) _ 3 _ _ _ X1.out).trans (show _ = some (Value.slice ya3_3 xr0_3.length yc3_3) from rfl)
    have p_X1_4 := (cell_of_row (v7.alloc (.cells #[.slice ya7_0 xr0_0.length yc7_0, .int .i64 ar0_1, .int .i64 ar0_2, .slice ya7_3 xr0_3.length yc7_3, .slice ya7_4 xr0_4.length yc7_4, .slice ya7_5 xr0_5.length yc7_5, .slice ya7_6 xr0_6.length yc7_6, .int .i64 ar0_7] 42)) _ 4 _ _ _ X1.out).trans (show _ = some (Value.slice ya3_4 xr0_4.length yc3_4) from rfl)
    have p_X1_5 := (cell_of_row (v7.alloc (.cells #[.slice ya7_0 xr0_0.length yc7_0, .int .i64 ar0_1, .int .i64 ar0_2, .slice ya7_3 xr0_3.length yc7_3, .slice ya7_4 xr0_4.length yc7_4, .slice ya7_5 xr0_5.length yc7_5, .slice ya7_6 xr0_6.length yc7_6, .int .i64 ar0_7] 42)) _ 5 _ _ _ X1.out).trans (show _ = some (Value.slice ya3_5 xr0_5.length yc3_5) from rfl)
    have p_X1_6 := (cell_of_row (v7.alloc (.cells #[.slice ya7_0 xr0_0.length yc7_0, .int .i64 ar0_1, .int .i64 ar0_2, .slice ya7_3 xr0_3.length yc7_3, .slice ya7_4 xr0_4.length yc7_4, .slice ya7_5 xr0_5.length yc7_5, .slice ya7_6 xr0_6.length yc7_6, .int .i64 ar0_7] 42)) _ 6 _ _ _ X1.out).trans (show _ = some (Value.slice ya3_6 xr0_6.length yc3_6) from rfl)
    have p_X1_7 := (cell_of_row (v7.alloc (.cells #[.slice ya7_0 xr0_0.length yc7_0, .int .i64 ar0_1, .int .i64 ar0_2, .slice ya7_3 xr0_3.length yc7_3, .slice ya7_4 xr0_4.length yc7_4, .slice ya7_5 xr0_5.length yc7_5, .slice ya7_6 xr0_6.length yc7_6, .int .i64 ar0_7] 42)) _ 7 _ _ _ X1.out).trans (show _ = some (Value.int .i64 ar0_7) from rfl)
    have p_X3_0 := (cell_of_row (v7.alloc (.cells #[.slice ya7_0 xr0_0.length yc7_0, .int .i64 ar0_1, .int .i64 ar0_2, .slice ya7_3 xr0_3.length yc7_3, .slice ya7_4 xr0_4.length yc7_4, .slice ya7_5 xr0_5.length yc7_5, .slice ya7_6 xr0_6.length yc7_6, .int .i64 ar0_7] 42)) _ 0 _ _ _ X3.out).trans (show _ = some (Value.slice ya7_0 xr0_0.length yc7_0) from rfl)
    have p_X3_1 := (cell_of_row (v7.alloc (.cells #[.slice ya7_0 xr0_0.length yc7_0, .int .i64 ar0_1, .int .i64 ar0_2, .slice ya7_3 xr0_3.length yc7_3, .slice ya7_4 xr0_4.length yc7_4, .slice ya7_5 xr0_5.length yc7_5, .slice ya7_6 xr0_6.length yc7_6, .int .i64 ar0_7] 42)) _ 1 _ _ _ X3.out).trans (show _ = some (Value.int .i64 ar0_1) from rfl)
    have p_X3_2 := (cell_of_row (v7.alloc (.cells #[.slice ya7_0 xr0_0.length yc7_0, .int .i64 ar0_1, .int .i64 ar0_2, .slice ya7_3 xr0_3.length yc7_3, .slice ya7_4 xr0_4.length yc7_4, .slice ya7_5 xr0_5.length yc7_5, .slice ya7_6 xr0_6.length yc7_6, .int .i64 ar0_7] 42)) _ 2 _ _ _ X3.out).trans (show _ = some (Value.int .i64 ar0_2) from rfl)
    have p_X3_3 := (cell_of_row (v7.alloc (.cells #[.slice ya7_0 xr0_0.length yc7_0, .int .i64 ar0_1, .int .i64 ar0_2, .slice ya7_3 xr0_3.length yc7_3, .slice ya7_4 xr0_4.length yc7_4, .slice ya7_5 xr0_5.length yc7_5, .slice ya7_6 xr0_6.length yc7_6, .int .i64 ar0_7] 42)) _ 3 _ _ _ X3.out).trans (show _ = some (Value.slice ya7_3 xr0_3.length yc7_3) from rfl)
    have p_X3_4 := (cell_of_row (v7.alloc (.cells #[.slice ya7_0 xr0_0.length yc7_0, .int .i64 ar0_1, .int .i64 ar0_2, .slice ya7_3 xr0_3.length yc7_3, .slice ya7_4 xr0_4.length yc7_4, .slice ya7_5 xr0_5.length yc7_5, .slice ya7_6 xr0_6.length yc7_6, .int .i64 ar0_7] 42)) _ 4 _ _ _ X3.out).trans (show _ = some (Value.slice ya7_4 xr0_4.length yc7_4) from rfl)
    have p_X3_5 := (cell_of_row (v7.alloc (.cells #[.slice ya7_0 xr0_0.length yc7_0, .int .i64 ar0_1, .int .i64 ar0_2, .slice ya7_3 xr0_3.length yc7_3, .slice ya7_4 xr0_4.length yc7_4, .slice ya7_5 xr0_5.length yc7_5, .slice ya7_6 xr0_6.length yc7_6, .int .i64 ar0_7] 42)) _ 5 _ _ _ X3.out).trans (show _ = some (Value.slice ya7_5 xr0_5.length yc7_5) from rfl)
    have p_X3_6 := (cell_of_row (v7.alloc (.cells #[.slice ya7_0 xr0_0.length yc7_0, .int .i64 ar0_1, .int .i64 ar0_2, .slice ya7_3 xr0_3.length yc7_3, .slice ya7_4 xr0_4.length yc7_4, .slice ya7_5 xr0_5.length yc7_5, .slice ya7_6 xr0_6.length yc7_6, .int .i64 ar0_7] 42)) _ 6 _ _ _ X3.out).trans (show _ = some (Value.slice ya7_6 xr0_6.length yc7_6) from rfl)
    have p_X3_7 := (cell_of_row (v7.alloc (.cells #[.slice ya7_0 xr0_0.length yc7_0, .int .i64 ar0_1, .int .i64 ar0_2, .slice ya7_3 xr0_3.length yc7_3, .slice ya7_4 xr0_4.length yc7_4, .slice ya7_5 xr0_5.length yc7_5, .slice ya7_6 xr0_6.length yc7_6, .int .i64 ar0_7] 42)) _ 7 _ _ _ X3.out).trans (show _ = some (Value.int .i64 ar0_7) from rfl)
    go_wp2_with fail
    clear p_X1_0 p_X1_1 p_X1_2 p_X1_3 p_X1_4 p_X1_5 p_X1_6 p_X1_7 p_X3_0 p_X3_1 p_X3_2 p_X3_3 p_X3_4 p_X3_5 p_X3_6 p_X3_7
    generalize (v7.alloc (.cells #[.slice ya7_0 xr0_0.length yc7_0, .int .i64 ar0_1, .int .i64 ar0_2, .slice ya7_3 xr0_3.length yc7_3, .slice ya7_4 xr0_4.length yc7_4, .slice ya7_5 xr0_5.length yc7_5, .slice ya7_6 xr0_6.length yc7_6, .int .i64 ar0_7] 42)) = u8 at *
    refine (eqEngine_T ar0_1 ar0_2 ar0_7 (.slice ya7_0 xr0_0.length yc7_0) (.slice ya7_3 xr0_3.length yc7_3) (.slice ya7_4 xr0_4.length yc7_4) (.slice ya7_5 xr0_5.length yc7_5) (.slice ya7_6 xr0_6.length yc7_6) xr0_0 xr0_3 xr0_4 xr0_5 xr0_6 (.slice ya3_0 xr0_0.length yc3_0) (.slice ya3_3 xr0_3.length yc3_3) (.slice ya3_4 xr0_4.length yc3_4) (.slice ya3_5 xr0_5.length yc3_5) (.slice ya3_6 xr0_6.length yc3_6) u8 (slO_reads tVersionS_law P7_0.out) (slO_reads tInt_law P7_3.out) (slO_reads tActive_law P7_4.out) (slO_reads tFinished_law P7_5.out) (slO_reads tCharge_law P7_6.out) (slO_reads tVersionS_law P3_0.out) (slO_reads tInt_law P3_3.out) (slO_reads tActive_law P3_4.out) (slO_reads tFinished_law P3_5.out) (slO_reads tCharge_law P3_6.out) Z0_0.out Z0_3.out Z0_4.out Z0_5.out Z0_6.out).mono ?_
    rintro e v9 ⟨rfl, c9⟩
    replace B0 := Lib.hid ((c9.block w.heap.size (Array.getElem?_eq_some_iff.1 B0.out).1).trans B0.out)
    replace X1 := Lib.hid ((c9.block v3.heap.size (Array.getElem?_eq_some_iff.1 X1.out).1).trans X1.out)
    replace X2 := Lib.hid ((c9.block v5.heap.size (Array.getElem?_eq_some_iff.1 X2.out).1).trans X2.out)
    replace X3 := Lib.hid ((c9.block v7.heap.size (Array.getElem?_eq_some_iff.1 X3.out).1).trans X3.out)
    replace P2_0 := Lib.hid (slO_fresh tVersionS_law P2_0.out c9)
    replace P3_0 := Lib.hid (slO_fresh tVersionS_law P3_0.out c9)
    replace P3_3 := Lib.hid (slO_fresh tInt_law P3_3.out c9)
    replace P3_4 := Lib.hid (slO_fresh tActive_law P3_4.out c9)
    replace P3_5 := Lib.hid (slO_fresh tFinished_law P3_5.out c9)
    replace P3_6 := Lib.hid (slO_fresh tCharge_law P3_6.out c9)
    replace P5_0 := Lib.hid (slO_fresh tVersionS_law P5_0.out c9)
    replace P7_0 := Lib.hid (slO_fresh tVersionS_law P7_0.out c9)
    replace P7_3 := Lib.hid (slO_fresh tInt_law P7_3.out c9)
    replace P7_4 := Lib.hid (slO_fresh tActive_law P7_4.out c9)
    replace P7_5 := Lib.hid (slO_fresh tFinished_law P7_5.out c9)
    replace P7_6 := Lib.hid (slO_fresh tCharge_law P7_6.out c9)
    replace d := Lib.hid (d.out.trans (c9.mono d.out.size))
    have Z_v9 := Lib.hid (show u8.heap.size ≤ v9.heap.size from c9.size)
    clear c9
    go_wp2
    have p_B0_0 := (cell_of_row v9 _ 0 _ _ _ B0.out).trans (show _ = some (Value.slice c0_0 x0_0.length k0_0) from rfl)
    have p_B0_1 := (cell_of_row v9 _ 1 _ _ _ B0.out).trans (show _ = some (Value.int .i64 a0_1) from rfl)
    have p_X2_0 := (cell_of_row v9 _ 0 _ _ _ X2.out).trans (show _ = some (Value.slice ya5_0 x0_0.length yc5_0) from rfl)
    have p_X2_1 := (cell_of_row v9 _ 1 _ _ _ X2.out).trans (show _ = some (Value.int .i64 a0_1) from rfl)
    refine wp_region_held_drew (S := fun w' => w'.cell? ⟨w.heap.size, 0, none⟩ = some (Value.slice c0_0 x0_0.length k0_0) ∧ w'.cell? ⟨w.heap.size, 1, none⟩ = some (Value.int .i64 a0_1) ∧ w'.cell? ⟨v5.heap.size, 0, none⟩ = some (Value.slice ya5_0 x0_0.length yc5_0) ∧ w'.cell? ⟨v5.heap.size, 1, none⟩ = some (Value.int .i64 a0_1)) (by kernel_rfl) ⟨p_B0_0, p_B0_1, p_X2_0, p_X2_1⟩ (fun hHeld => ?_)
    clear p_B0_0 p_B0_1 p_X2_0 p_X2_1
    have cd10 : Below v9.heap.size v9 v9.drew := below_drew (Below.refl _ _)
    replace B0 := Lib.hid ((cd10.block w.heap.size (Array.getElem?_eq_some_iff.1 B0.out).1).trans B0.out)
    replace X1 := Lib.hid ((cd10.block v3.heap.size (Array.getElem?_eq_some_iff.1 X1.out).1).trans X1.out)
    replace X2 := Lib.hid ((cd10.block v5.heap.size (Array.getElem?_eq_some_iff.1 X2.out).1).trans X2.out)
    replace X3 := Lib.hid ((cd10.block v7.heap.size (Array.getElem?_eq_some_iff.1 X3.out).1).trans X3.out)
    replace P2_0 := Lib.hid (slO_fresh tVersionS_law P2_0.out cd10)
    replace P3_0 := Lib.hid (slO_fresh tVersionS_law P3_0.out cd10)
    replace P3_3 := Lib.hid (slO_fresh tInt_law P3_3.out cd10)
    replace P3_4 := Lib.hid (slO_fresh tActive_law P3_4.out cd10)
    replace P3_5 := Lib.hid (slO_fresh tFinished_law P3_5.out cd10)
    replace P3_6 := Lib.hid (slO_fresh tCharge_law P3_6.out cd10)
    replace P5_0 := Lib.hid (slO_fresh tVersionS_law P5_0.out cd10)
    replace P7_0 := Lib.hid (slO_fresh tVersionS_law P7_0.out cd10)
    replace P7_3 := Lib.hid (slO_fresh tInt_law P7_3.out cd10)
    replace P7_4 := Lib.hid (slO_fresh tActive_law P7_4.out cd10)
    replace P7_5 := Lib.hid (slO_fresh tFinished_law P7_5.out cd10)
    replace P7_6 := Lib.hid (slO_fresh tCharge_law P7_6.out cd10)
    replace d := Lib.hid (d.out.trans (cd10.mono d.out.size))
    clear cd10
    refine take_runs (i := 0) (v := ?_) (by simp only [List.getElem?_toArray, List.getElem?_cons_succ, List.getElem?_cons_zero]; rfl) (by kernel_rfl) (by kernel_rfl) (by kernel_rfl) rfl (by exact fun _ _ _ h => h) (by rfl) ?_ (by assumption) ?_
    rotate_left
    · intro w hSw; (try dsimp only at hSw); go_simp; try (with_reducible rfl)
    try simp only [Act.put, List.setIfInBounds_toArray, List.set_cons_zero, List.set_cons_succ]
    refine take_runs (i := 1) (v := ?_) (by simp only [List.getElem?_toArray, List.getElem?_cons_succ, List.getElem?_cons_zero]; rfl) (by kernel_rfl) (by kernel_rfl) (by kernel_rfl) rfl (by exact fun _ _ _ h => h) (by rfl) ?_ (by assumption) ?_
    rotate_left
    · intro w hSw; (try dsimp only at hSw); go_simp; try (with_reducible rfl)
    try simp only [Act.put, List.setIfInBounds_toArray, List.set_cons_zero, List.set_cons_succ]
    refine wpAnyH_ready (rs := [2]) (by kernel_rfl) (by simp) ?_
    refine AllReadyH.cons (o := _) (by simp only [List.getElem?_toArray, List.getElem?_cons_succ, List.getElem?_cons_zero]; rfl) (fun K hK => ?_) AllReadyH.nil
    go_simp
    refine (toStore_T a0_1 (.slice c0_0 x0_0.length k0_0) x0_0 (v9.drew) (slR_below tVersionS_law A0_0.out d.out) S0_0.out).mono ?_
    rintro e v11 ⟨cs, rfl, ow, c11⟩
    replace B0 := Lib.hid ((c11.block w.heap.size (Array.getElem?_eq_some_iff.1 B0.out).1).trans B0.out)
    replace X1 := Lib.hid ((c11.block v3.heap.size (Array.getElem?_eq_some_iff.1 X1.out).1).trans X1.out)
    replace X2 := Lib.hid ((c11.block v5.heap.size (Array.getElem?_eq_some_iff.1 X2.out).1).trans X2.out)
    replace X3 := Lib.hid ((c11.block v7.heap.size (Array.getElem?_eq_some_iff.1 X3.out).1).trans X3.out)
    replace P2_0 := Lib.hid (slO_fresh tVersionS_law P2_0.out c11)
    replace P3_0 := Lib.hid (slO_fresh tVersionS_law P3_0.out c11)
    replace P3_3 := Lib.hid (slO_fresh tInt_law P3_3.out c11)
    replace P3_4 := Lib.hid (slO_fresh tActive_law P3_4.out c11)
    replace P3_5 := Lib.hid (slO_fresh tFinished_law P3_5.out c11)
    replace P3_6 := Lib.hid (slO_fresh tCharge_law P3_6.out c11)
    replace P5_0 := Lib.hid (slO_fresh tVersionS_law P5_0.out c11)
    replace P7_0 := Lib.hid (slO_fresh tVersionS_law P7_0.out c11)
    replace P7_3 := Lib.hid (slO_fresh tInt_law P7_3.out c11)
    replace P7_4 := Lib.hid (slO_fresh tActive_law P7_4.out c11)
    replace P7_5 := Lib.hid (slO_fresh tFinished_law P7_5.out c11)
    replace P7_6 := Lib.hid (slO_fresh tCharge_law P7_6.out c11)
    replace d := Lib.hid (d.out.trans (c11.mono d.out.size))
    have Z_v11 := Lib.hid (show v9.heap.size ≤ v11.heap.size from c11.size)
    clear c11
    replace ow := tStore_law.lt ow
    obtain ⟨y11_0, K11_0, rfl, p11_0, w11_0⟩ := tStore_O ow
    obtain ⟨ya11_0, yc11_0, rfl⟩ := slO_len p11_0
    have P11_0 := Lib.hid p11_0
    have Q11_0 := Lib.hid (fun b h => (show (v9.drew).heap.size ≤ b ∧ b < v11.heap.size from w11_0 b h))
    clear p11_0 w11_0 ow
    have p_B0_0 := (cell_of_row v11 _ 0 _ _ _ B0.out).trans (show _ = some (Value.slice c0_0 x0_0.length k0_0) from rfl)
    have p_B0_1 := (cell_of_row v11 _ 1 _ _ _ B0.out).trans (show _ = some (Value.int .i64 a0_1) from rfl)
    have p_X2_0 := (cell_of_row v11 _ 0 _ _ _ X2.out).trans (show _ = some (Value.slice ya5_0 x0_0.length yc5_0) from rfl)
    have p_X2_1 := (cell_of_row v11 _ 1 _ _ _ X2.out).trans (show _ = some (Value.int .i64 a0_1) from rfl)
    refine hK.out _ _ ⟨p_B0_0, p_B0_1, p_X2_0, p_X2_1⟩ (fun hHeld => ?_)
    clear p_B0_0 p_B0_1 p_X2_0 p_X2_1
    clear hK K
    try simp only [Act.put, List.setIfInBounds_toArray, List.set_cons_zero, List.set_cons_succ]
    refine wpAnyH_ready (rs := [3]) (by kernel_rfl) (by simp) ?_
    refine AllReadyH.cons (o := _) (by simp only [List.getElem?_toArray, List.getElem?_cons_succ, List.getElem?_cons_zero]; rfl) (fun K hK => ?_) AllReadyH.nil
    go_simp
    refine (eqStore_T a0_1 (.slice ya5_0 x0_0.length yc5_0) x0_0 (.slice ya11_0 x0_0.length yc11_0) v11 (slO_reads tVersionS_law P5_0.out) (slO_reads tVersionS_law P11_0.out) S0_0.out).mono ?_
    rintro e v12 ⟨rfl, c12⟩
    replace B0 := Lib.hid ((c12.block w.heap.size (Array.getElem?_eq_some_iff.1 B0.out).1).trans B0.out)
    replace X1 := Lib.hid ((c12.block v3.heap.size (Array.getElem?_eq_some_iff.1 X1.out).1).trans X1.out)
    replace X2 := Lib.hid ((c12.block v5.heap.size (Array.getElem?_eq_some_iff.1 X2.out).1).trans X2.out)
    replace X3 := Lib.hid ((c12.block v7.heap.size (Array.getElem?_eq_some_iff.1 X3.out).1).trans X3.out)
    replace P2_0 := Lib.hid (slO_fresh tVersionS_law P2_0.out c12)
    replace P3_0 := Lib.hid (slO_fresh tVersionS_law P3_0.out c12)
    replace P3_3 := Lib.hid (slO_fresh tInt_law P3_3.out c12)
    replace P3_4 := Lib.hid (slO_fresh tActive_law P3_4.out c12)
    replace P3_5 := Lib.hid (slO_fresh tFinished_law P3_5.out c12)
    replace P3_6 := Lib.hid (slO_fresh tCharge_law P3_6.out c12)
    replace P5_0 := Lib.hid (slO_fresh tVersionS_law P5_0.out c12)
    replace P7_0 := Lib.hid (slO_fresh tVersionS_law P7_0.out c12)
    replace P7_3 := Lib.hid (slO_fresh tInt_law P7_3.out c12)
    replace P7_4 := Lib.hid (slO_fresh tActive_law P7_4.out c12)
    replace P7_5 := Lib.hid (slO_fresh tFinished_law P7_5.out c12)
    replace P7_6 := Lib.hid (slO_fresh tCharge_law P7_6.out c12)
    replace P11_0 := Lib.hid (slO_fresh tVersionS_law P11_0.out c12)
    replace d := Lib.hid (d.out.trans (c12.mono d.out.size))
    have Z_v12 := Lib.hid (show v11.heap.size ≤ v12.heap.size from c12.size)
    clear c12
    clear P11_0
    have p_B0_0 := (cell_of_row v12 _ 0 _ _ _ B0.out).trans (show _ = some (Value.slice c0_0 x0_0.length k0_0) from rfl)
    have p_B0_1 := (cell_of_row v12 _ 1 _ _ _ B0.out).trans (show _ = some (Value.int .i64 a0_1) from rfl)
    have p_X2_0 := (cell_of_row v12 _ 0 _ _ _ X2.out).trans (show _ = some (Value.slice ya5_0 x0_0.length yc5_0) from rfl)
    have p_X2_1 := (cell_of_row v12 _ 1 _ _ _ X2.out).trans (show _ = some (Value.int .i64 a0_1) from rfl)
    refine hK.out _ _ ⟨p_B0_0, p_B0_1, p_X2_0, p_X2_1⟩ (fun hHeld => ?_)
    clear p_B0_0 p_B0_1 p_X2_0 p_X2_1
    clear hK K
    try simp only [Act.put, List.setIfInBounds_toArray, List.set_cons_zero, List.set_cons_succ]
    refine take_runs (i := 4) (v := ?_) (by simp only [List.getElem?_toArray, List.getElem?_cons_succ, List.getElem?_cons_zero]; rfl) (by kernel_rfl) (by kernel_rfl) (by kernel_rfl) rfl (by exact fun _ _ _ h => h) (by rfl) ?_ (by assumption) ?_
    rotate_left
    · intro w hSw; (try dsimp only at hSw); go_simp; try (with_reducible rfl)
    try simp only [Act.put, List.setIfInBounds_toArray, List.set_cons_zero, List.set_cons_succ]
    refine wpAnyH_done (by kernel_rfl) ?_ _
    clear hHeld
    have p_X2_0 := (cell_of_row v12 _ 0 _ _ _ X2.out).trans (show _ = some (Value.slice ya5_0 x0_0.length yc5_0) from rfl)
    have p_X2_1 := (cell_of_row v12 _ 1 _ _ _ X2.out).trans (show _ = some (Value.int .i64 a0_1) from rfl)
    go_wp2_with fail
    clear p_X2_0 p_X2_1
    refine (markStore_T a0_1 (.slice ya5_0 x0_0.length yc5_0) x0_0 (fun b => u4.heap.size ≤ b ∧ b < v5.heap.size) _ (1) v12 P5_0.out Q5_0.out  S0_0.out M0.out.1 (by have := M0.out.2; omega)).mono ?_
    rintro e v13 ⟨rfl, m0, c13⟩
    have y0 := Y_W.out
    have y1 := Z_v1.out
    have y2 := Z_v2.out
    have y3 := Z_v3.out
    have y4 := Y_X1.out
    have y5 := Z_v5.out
    have y6 := Y_X2.out
    have y7 := Z_v7.out
    have y8 := Y_X3.out
    have y9 := Z_v9.out
    have y10 := Z_v11.out
    have y11 := Z_v12.out
    have yd : W.heap.size ≤ v12.heap.size := d.out.size
    replace B0 := Lib.hid ((c13.block w.heap.size (Array.getElem?_eq_some_iff.1 B0.out).1 (fun h => by have r2 := h; omega)).trans B0.out)
    replace X1 := Lib.hid ((c13.block v3.heap.size (Array.getElem?_eq_some_iff.1 X1.out).1 (fun h => by have r2 := h; omega)).trans X1.out)
    replace X2 := Lib.hid ((c13.block v5.heap.size (Array.getElem?_eq_some_iff.1 X2.out).1 (fun h => by have r2 := h; omega)).trans X2.out)
    replace X3 := Lib.hid ((c13.block v7.heap.size (Array.getElem?_eq_some_iff.1 X3.out).1 (fun h => by have r2 := h; omega)).trans X3.out)
    replace P2_0 := Lib.hid (slO_turn tVersionS_law P2_0.out c13 (fun b h1 h2 => by have r1 := Q2_0.out b h1; have r2 := h2; omega))
    replace P3_0 := Lib.hid (slO_turn tVersionS_law P3_0.out c13 (fun b h1 h2 => by have r1 := Q3_0.out b h1; have r2 := h2; omega))
    replace P3_3 := Lib.hid (slO_turn tInt_law P3_3.out c13 (fun b h1 h2 => by have r1 := Q3_3.out b h1; have r2 := h2; omega))
    replace P3_4 := Lib.hid (slO_turn tActive_law P3_4.out c13 (fun b h1 h2 => by have r1 := Q3_4.out b h1; have r2 := h2; omega))
    replace P3_5 := Lib.hid (slO_turn tFinished_law P3_5.out c13 (fun b h1 h2 => by have r1 := Q3_5.out b h1; have r2 := h2; omega))
    replace P3_6 := Lib.hid (slO_turn tCharge_law P3_6.out c13 (fun b h1 h2 => by have r1 := Q3_6.out b h1; have r2 := h2; omega))
    replace P7_0 := Lib.hid (slO_turn tVersionS_law P7_0.out c13 (fun b h1 h2 => by have r1 := Q7_0.out b h1; have r2 := h2; omega))
    replace P7_3 := Lib.hid (slO_turn tInt_law P7_3.out c13 (fun b h1 h2 => by have r1 := Q7_3.out b h1; have r2 := h2; omega))
    replace P7_4 := Lib.hid (slO_turn tActive_law P7_4.out c13 (fun b h1 h2 => by have r1 := Q7_4.out b h1; have r2 := h2; omega))
    replace P7_5 := Lib.hid (slO_turn tFinished_law P7_5.out c13 (fun b h1 h2 => by have r1 := Q7_5.out b h1; have r2 := h2; omega))
    replace P7_6 := Lib.hid (slO_turn tCharge_law P7_6.out c13 (fun b h1 h2 => by have r1 := Q7_6.out b h1; have r2 := h2; omega))
    replace d := Lib.hid (below_turn d.out c13 (fun b h => by have r2 := h; omega) (by omega))
    clear yd y0 y1 y2 y3 y4 y5 y6 y7 y8 y9 y10 y11
    have Z_v13 := Lib.hid (show v12.heap.size ≤ v13.heap.size from c13.size)
    clear P5_0
    clear m0 c13
    have p_X1_0 := (cell_of_row v13 _ 0 _ _ _ X1.out).trans (show _ = some (Value.slice ya3_0 xr0_0.length yc3_0) from rfl)
    have p_X1_1 := (cell_of_row v13 _ 1 _ _ _ X1.out).trans (show _ = some (Value.int .i64 ar0_1) from rfl)
    have p_X1_2 := (cell_of_row v13 _ 2 _ _ _ X1.out).trans (show _ = some (Value.int .i64 ar0_2) from rfl)
    have p_X1_3 := (cell_of_row v13 _ 3 _ _ _ X1.out).trans (show _ = some (Value.slice ya3_3 xr0_3.length yc3_3) from rfl)
    have p_X1_4 := (cell_of_row v13 _ 4 _ _ _ X1.out).trans (show _ = some (Value.slice ya3_4 xr0_4.length yc3_4) from rfl)
    have p_X1_5 := (cell_of_row v13 _ 5 _ _ _ X1.out).trans (show _ = some (Value.slice ya3_5 xr0_5.length yc3_5) from rfl)
    have p_X1_6 := (cell_of_row v13 _ 6 _ _ _ X1.out).trans (show _ = some (Value.slice ya3_6 xr0_6.length yc3_6) from rfl)
    have p_X1_7 := (cell_of_row v13 _ 7 _ _ _ X1.out).trans (show _ = some (Value.int .i64 ar0_7) from rfl)
    have p_X3_0 := (cell_of_row v13 _ 0 _ _ _ X3.out).trans (show _ = some (Value.slice ya7_0 xr0_0.length yc7_0) from rfl)
    have p_X3_1 := (cell_of_row v13 _ 1 _ _ _ X3.out).trans (show _ = some (Value.int .i64 ar0_1) from rfl)
    have p_X3_2 := (cell_of_row v13 _ 2 _ _ _ X3.out).trans (show _ = some (Value.int .i64 ar0_2) from rfl)
    have p_X3_3 := (cell_of_row v13 _ 3 _ _ _ X3.out).trans (show _ = some (Value.slice ya7_3 xr0_3.length yc7_3) from rfl)
    have p_X3_4 := (cell_of_row v13 _ 4 _ _ _ X3.out).trans (show _ = some (Value.slice ya7_4 xr0_4.length yc7_4) from rfl)
    have p_X3_5 := (cell_of_row v13 _ 5 _ _ _ X3.out).trans (show _ = some (Value.slice ya7_5 xr0_5.length yc7_5) from rfl)
    have p_X3_6 := (cell_of_row v13 _ 6 _ _ _ X3.out).trans (show _ = some (Value.slice ya7_6 xr0_6.length yc7_6) from rfl)
    have p_X3_7 := (cell_of_row v13 _ 7 _ _ _ X3.out).trans (show _ = some (Value.int .i64 ar0_7) from rfl)
    go_wp2_with fail
    clear p_X1_0 p_X1_1 p_X1_2 p_X1_3 p_X1_4 p_X1_5 p_X1_6 p_X1_7 p_X3_0 p_X3_1 p_X3_2 p_X3_3 p_X3_4 p_X3_5 p_X3_6 p_X3_7
    refine (eqEngine_T ar0_1 ar0_2 ar0_7 (.slice ya7_0 xr0_0.length yc7_0) (.slice ya7_3 xr0_3.length yc7_3) (.slice ya7_4 xr0_4.length yc7_4) (.slice ya7_5 xr0_5.length yc7_5) (.slice ya7_6 xr0_6.length yc7_6) xr0_0 xr0_3 xr0_4 xr0_5 xr0_6 (.slice ya3_0 xr0_0.length yc3_0) (.slice ya3_3 xr0_3.length yc3_3) (.slice ya3_4 xr0_4.length yc3_4) (.slice ya3_5 xr0_5.length yc3_5) (.slice ya3_6 xr0_6.length yc3_6) v13 (slO_reads tVersionS_law P7_0.out) (slO_reads tInt_law P7_3.out) (slO_reads tActive_law P7_4.out) (slO_reads tFinished_law P7_5.out) (slO_reads tCharge_law P7_6.out) (slO_reads tVersionS_law P3_0.out) (slO_reads tInt_law P3_3.out) (slO_reads tActive_law P3_4.out) (slO_reads tFinished_law P3_5.out) (slO_reads tCharge_law P3_6.out) Z0_0.out Z0_3.out Z0_4.out Z0_5.out Z0_6.out).mono ?_
    rintro e v14 ⟨rfl, c14⟩
    replace B0 := Lib.hid ((c14.block w.heap.size (Array.getElem?_eq_some_iff.1 B0.out).1).trans B0.out)
    replace X1 := Lib.hid ((c14.block v3.heap.size (Array.getElem?_eq_some_iff.1 X1.out).1).trans X1.out)
    replace X2 := Lib.hid ((c14.block v5.heap.size (Array.getElem?_eq_some_iff.1 X2.out).1).trans X2.out)
    replace X3 := Lib.hid ((c14.block v7.heap.size (Array.getElem?_eq_some_iff.1 X3.out).1).trans X3.out)
    replace P2_0 := Lib.hid (slO_fresh tVersionS_law P2_0.out c14)
    replace P3_0 := Lib.hid (slO_fresh tVersionS_law P3_0.out c14)
    replace P3_3 := Lib.hid (slO_fresh tInt_law P3_3.out c14)
    replace P3_4 := Lib.hid (slO_fresh tActive_law P3_4.out c14)
    replace P3_5 := Lib.hid (slO_fresh tFinished_law P3_5.out c14)
    replace P3_6 := Lib.hid (slO_fresh tCharge_law P3_6.out c14)
    replace P7_0 := Lib.hid (slO_fresh tVersionS_law P7_0.out c14)
    replace P7_3 := Lib.hid (slO_fresh tInt_law P7_3.out c14)
    replace P7_4 := Lib.hid (slO_fresh tActive_law P7_4.out c14)
    replace P7_5 := Lib.hid (slO_fresh tFinished_law P7_5.out c14)
    replace P7_6 := Lib.hid (slO_fresh tCharge_law P7_6.out c14)
    replace d := Lib.hid (d.out.trans (c14.mono d.out.size))
    have Z_v14 := Lib.hid (show v13.heap.size ≤ v14.heap.size from c14.size)
    clear c14
    have p_X3_0 := (cell_of_row v14 _ 0 _ _ _ X3.out).trans (show _ = some (Value.slice ya7_0 xr0_0.length yc7_0) from rfl)
    have p_X3_1 := (cell_of_row v14 _ 1 _ _ _ X3.out).trans (show _ = some (Value.int .i64 ar0_1) from rfl)
    have p_X3_2 := (cell_of_row v14 _ 2 _ _ _ X3.out).trans (show _ = some (Value.int .i64 ar0_2) from rfl)
    have p_X3_3 := (cell_of_row v14 _ 3 _ _ _ X3.out).trans (show _ = some (Value.slice ya7_3 xr0_3.length yc7_3) from rfl)
    have p_X3_4 := (cell_of_row v14 _ 4 _ _ _ X3.out).trans (show _ = some (Value.slice ya7_4 xr0_4.length yc7_4) from rfl)
    have p_X3_5 := (cell_of_row v14 _ 5 _ _ _ X3.out).trans (show _ = some (Value.slice ya7_5 xr0_5.length yc7_5) from rfl)
    have p_X3_6 := (cell_of_row v14 _ 6 _ _ _ X3.out).trans (show _ = some (Value.slice ya7_6 xr0_6.length yc7_6) from rfl)
    have p_X3_7 := (cell_of_row v14 _ 7 _ _ _ X3.out).trans (show _ = some (Value.int .i64 ar0_7) from rfl)
    go_wp2_with fail
    clear p_X3_0 p_X3_1 p_X3_2 p_X3_3 p_X3_4 p_X3_5 p_X3_6 p_X3_7
    refine (markEngine_T ar0_1 ar0_2 ar0_7 (.slice ya7_0 xr0_0.length yc7_0) (.slice ya7_3 xr0_3.length yc7_3) (.slice ya7_4 xr0_4.length yc7_4) (.slice ya7_5 xr0_5.length yc7_5) (.slice ya7_6 xr0_6.length yc7_6) xr0_0 xr0_3 xr0_4 xr0_5 xr0_6 (fun b => u6.heap.size ≤ b ∧ b < v7.heap.size) _ _ _ _ _ (1) v14 P7_0.out P7_3.out P7_4.out P7_5.out P7_6.out Q7_0.out Q7_3.out Q7_4.out Q7_5.out Q7_6.out D7_0_3.out D7_0_4.out D7_0_5.out D7_0_6.out D7_3_4.out D7_3_5.out D7_3_6.out D7_4_5.out D7_4_6.out D7_5_6.out Z0_0.out Z0_3.out Z0_4.out Z0_5.out Z0_6.out MR0.out.1 (by have := MR0.out.2; omega)).mono ?_
    rintro e v15 ⟨rfl, ⟨m0, m1, m2, m3, m4⟩, c15⟩
    have y0 := Y_W.out
    have y1 := Z_v1.out
    have y2 := Z_v2.out
    have y3 := Z_v3.out
    have y4 := Y_X1.out
    have y5 := Z_v5.out
    have y6 := Y_X2.out
    have y7 := Z_v7.out
    have y8 := Y_X3.out
    have y9 := Z_v9.out
    have y10 := Z_v11.out
    have y11 := Z_v12.out
    have y12 := Z_v13.out
    have y13 := Z_v14.out
    have yd : W.heap.size ≤ v14.heap.size := d.out.size
    replace B0 := Lib.hid ((c15.block w.heap.size (Array.getElem?_eq_some_iff.1 B0.out).1 (fun h => by have r2 := h; omega)).trans B0.out)
    replace X1 := Lib.hid ((c15.block v3.heap.size (Array.getElem?_eq_some_iff.1 X1.out).1 (fun h => by have r2 := h; omega)).trans X1.out)
    replace X2 := Lib.hid ((c15.block v5.heap.size (Array.getElem?_eq_some_iff.1 X2.out).1 (fun h => by have r2 := h; omega)).trans X2.out)
    replace X3 := Lib.hid ((c15.block v7.heap.size (Array.getElem?_eq_some_iff.1 X3.out).1 (fun h => by have r2 := h; omega)).trans X3.out)
    replace P2_0 := Lib.hid (slO_turn tVersionS_law P2_0.out c15 (fun b h1 h2 => by have r1 := Q2_0.out b h1; have r2 := h2; omega))
    replace P3_0 := Lib.hid (slO_turn tVersionS_law P3_0.out c15 (fun b h1 h2 => by have r1 := Q3_0.out b h1; have r2 := h2; omega))
    replace P3_3 := Lib.hid (slO_turn tInt_law P3_3.out c15 (fun b h1 h2 => by have r1 := Q3_3.out b h1; have r2 := h2; omega))
    replace P3_4 := Lib.hid (slO_turn tActive_law P3_4.out c15 (fun b h1 h2 => by have r1 := Q3_4.out b h1; have r2 := h2; omega))
    replace P3_5 := Lib.hid (slO_turn tFinished_law P3_5.out c15 (fun b h1 h2 => by have r1 := Q3_5.out b h1; have r2 := h2; omega))
    replace P3_6 := Lib.hid (slO_turn tCharge_law P3_6.out c15 (fun b h1 h2 => by have r1 := Q3_6.out b h1; have r2 := h2; omega))
    replace d := Lib.hid (below_turn d.out c15 (fun b h => by have r2 := h; omega) (by omega))
    clear yd y0 y1 y2 y3 y4 y5 y6 y7 y8 y9 y10 y11 y12 y13
    have Z_v15 := Lib.hid (show v14.heap.size ≤ v15.heap.size from c15.size)
    replace P7_0 := Lib.hid m0
    replace P7_3 := Lib.hid m1
    replace P7_4 := Lib.hid m2
    replace P7_5 := Lib.hid m3
    replace P7_6 := Lib.hid m4
    clear m0 m1 m2 m3 m4 c15
    have p_X3_0 := (cell_of_row v15 _ 0 _ _ _ X3.out).trans (show _ = some (Value.slice ya7_0 xr0_0.length yc7_0) from rfl)
    have p_X3_1 := (cell_of_row v15 _ 1 _ _ _ X3.out).trans (show _ = some (Value.int .i64 ar0_1) from rfl)
    have p_X3_2 := (cell_of_row v15 _ 2 _ _ _ X3.out).trans (show _ = some (Value.int .i64 ar0_2) from rfl)
    have p_X3_3 := (cell_of_row v15 _ 3 _ _ _ X3.out).trans (show _ = some (Value.slice ya7_3 xr0_3.length yc7_3) from rfl)
    have p_X3_4 := (cell_of_row v15 _ 4 _ _ _ X3.out).trans (show _ = some (Value.slice ya7_4 xr0_4.length yc7_4) from rfl)
    have p_X3_5 := (cell_of_row v15 _ 5 _ _ _ X3.out).trans (show _ = some (Value.slice ya7_5 xr0_5.length yc7_5) from rfl)
    have p_X3_6 := (cell_of_row v15 _ 6 _ _ _ X3.out).trans (show _ = some (Value.slice ya7_6 xr0_6.length yc7_6) from rfl)
    have p_X3_7 := (cell_of_row v15 _ 7 _ _ _ X3.out).trans (show _ = some (Value.int .i64 ar0_7) from rfl)
    go_wp2_with fail
    clear p_X3_0 p_X3_1 p_X3_2 p_X3_3 p_X3_4 p_X3_5 p_X3_6 p_X3_7
    refine (heldEngine_T ar0_1 ar0_2 ar0_7 (.slice ya7_0 xr0_0.length yc7_0) (.slice ya7_3 xr0_3.length yc7_3) (.slice ya7_4 xr0_4.length yc7_4) (.slice ya7_5 xr0_5.length yc7_5) (.slice ya7_6 xr0_6.length yc7_6) xr0_0 xr0_3 xr0_4 xr0_5 xr0_6 (1) v15 (slO_reads tVersionS_law P7_0.out) (slO_reads tInt_law P7_3.out) (slO_reads tActive_law P7_4.out) (slO_reads tFinished_law P7_5.out) (slO_reads tCharge_law P7_6.out) Z0_0.out Z0_3.out Z0_4.out Z0_5.out Z0_6.out MR0.out.1 (by have := MR0.out.2; omega)).mono ?_
    rintro e v16 ⟨rfl, c16⟩
    replace B0 := Lib.hid ((c16.block w.heap.size (Array.getElem?_eq_some_iff.1 B0.out).1).trans B0.out)
    replace X1 := Lib.hid ((c16.block v3.heap.size (Array.getElem?_eq_some_iff.1 X1.out).1).trans X1.out)
    replace X2 := Lib.hid ((c16.block v5.heap.size (Array.getElem?_eq_some_iff.1 X2.out).1).trans X2.out)
    replace X3 := Lib.hid ((c16.block v7.heap.size (Array.getElem?_eq_some_iff.1 X3.out).1).trans X3.out)
    replace P2_0 := Lib.hid (slO_fresh tVersionS_law P2_0.out c16)
    replace P3_0 := Lib.hid (slO_fresh tVersionS_law P3_0.out c16)
    replace P3_3 := Lib.hid (slO_fresh tInt_law P3_3.out c16)
    replace P3_4 := Lib.hid (slO_fresh tActive_law P3_4.out c16)
    replace P3_5 := Lib.hid (slO_fresh tFinished_law P3_5.out c16)
    replace P3_6 := Lib.hid (slO_fresh tCharge_law P3_6.out c16)
    replace P7_0 := Lib.hid (slO_fresh tVersionS_law P7_0.out c16)
    replace P7_3 := Lib.hid (slO_fresh tInt_law P7_3.out c16)
    replace P7_4 := Lib.hid (slO_fresh tActive_law P7_4.out c16)
    replace P7_5 := Lib.hid (slO_fresh tFinished_law P7_5.out c16)
    replace P7_6 := Lib.hid (slO_fresh tCharge_law P7_6.out c16)
    replace d := Lib.hid (d.out.trans (c16.mono d.out.size))
    have Z_v16 := Lib.hid (show v15.heap.size ≤ v16.heap.size from c16.size)
    clear c16
    have p_B0_0 := (cell_of_row v16 _ 0 _ _ _ B0.out).trans (show _ = some (Value.slice c0_0 x0_0.length k0_0) from rfl)
    have p_B0_1 := (cell_of_row v16 _ 1 _ _ _ B0.out).trans (show _ = some (Value.int .i64 a0_1) from rfl)
    go_wp2_with fail
    clear p_B0_0 p_B0_1
    refine (toStore_T a0_1 (.slice c0_0 x0_0.length k0_0) x0_0 v16 (slR_below tVersionS_law A0_0.out d.out) S0_0.out).mono ?_
    rintro e v17 ⟨cs, rfl, ow, c17⟩
    replace B0 := Lib.hid ((c17.block w.heap.size (Array.getElem?_eq_some_iff.1 B0.out).1).trans B0.out)
    replace X1 := Lib.hid ((c17.block v3.heap.size (Array.getElem?_eq_some_iff.1 X1.out).1).trans X1.out)
    replace X2 := Lib.hid ((c17.block v5.heap.size (Array.getElem?_eq_some_iff.1 X2.out).1).trans X2.out)
    replace X3 := Lib.hid ((c17.block v7.heap.size (Array.getElem?_eq_some_iff.1 X3.out).1).trans X3.out)
    replace P2_0 := Lib.hid (slO_fresh tVersionS_law P2_0.out c17)
    replace P3_0 := Lib.hid (slO_fresh tVersionS_law P3_0.out c17)
    replace P3_3 := Lib.hid (slO_fresh tInt_law P3_3.out c17)
    replace P3_4 := Lib.hid (slO_fresh tActive_law P3_4.out c17)
    replace P3_5 := Lib.hid (slO_fresh tFinished_law P3_5.out c17)
    replace P3_6 := Lib.hid (slO_fresh tCharge_law P3_6.out c17)
    replace P7_0 := Lib.hid (slO_fresh tVersionS_law P7_0.out c17)
    replace P7_3 := Lib.hid (slO_fresh tInt_law P7_3.out c17)
    replace P7_4 := Lib.hid (slO_fresh tActive_law P7_4.out c17)
    replace P7_5 := Lib.hid (slO_fresh tFinished_law P7_5.out c17)
    replace P7_6 := Lib.hid (slO_fresh tCharge_law P7_6.out c17)
    replace d := Lib.hid (d.out.trans (c17.mono d.out.size))
    have Z_v17 := Lib.hid (show v16.heap.size ≤ v17.heap.size from c17.size)
    clear c17
    replace ow := tStore_law.lt ow
    obtain ⟨y17_0, K17_0, rfl, p17_0, w17_0⟩ := tStore_O ow
    obtain ⟨ya17_0, yc17_0, rfl⟩ := slO_len p17_0
    have P17_0 := Lib.hid p17_0
    have Q17_0 := Lib.hid (fun b h => (show v16.heap.size ≤ b ∧ b < v17.heap.size from w17_0 b h))
    clear p17_0 w17_0 ow
    go_wp2_with fail
    refine (HIM.out (.slice ya17_0 x0_0.length yc17_0) v17 (slO_reads tVersionS_law P17_0.out) HT.out ).mono ?_
    rintro e v18 ⟨g0, G0, rfl, o0, q0, c18⟩
    replace B0 := Lib.hid ((c18.block w.heap.size (Array.getElem?_eq_some_iff.1 B0.out).1).trans B0.out)
    replace X1 := Lib.hid ((c18.block v3.heap.size (Array.getElem?_eq_some_iff.1 X1.out).1).trans X1.out)
    replace X2 := Lib.hid ((c18.block v5.heap.size (Array.getElem?_eq_some_iff.1 X2.out).1).trans X2.out)
    replace X3 := Lib.hid ((c18.block v7.heap.size (Array.getElem?_eq_some_iff.1 X3.out).1).trans X3.out)
    replace P2_0 := Lib.hid (slO_fresh tVersionS_law P2_0.out c18)
    replace P3_0 := Lib.hid (slO_fresh tVersionS_law P3_0.out c18)
    replace P3_3 := Lib.hid (slO_fresh tInt_law P3_3.out c18)
    replace P3_4 := Lib.hid (slO_fresh tActive_law P3_4.out c18)
    replace P3_5 := Lib.hid (slO_fresh tFinished_law P3_5.out c18)
    replace P3_6 := Lib.hid (slO_fresh tCharge_law P3_6.out c18)
    replace P7_0 := Lib.hid (slO_fresh tVersionS_law P7_0.out c18)
    replace P7_3 := Lib.hid (slO_fresh tInt_law P7_3.out c18)
    replace P7_4 := Lib.hid (slO_fresh tActive_law P7_4.out c18)
    replace P7_5 := Lib.hid (slO_fresh tFinished_law P7_5.out c18)
    replace P7_6 := Lib.hid (slO_fresh tCharge_law P7_6.out c18)
    replace P17_0 := Lib.hid (slO_fresh tVersionS_law P17_0.out c18)
    replace d := Lib.hid (d.out.trans (c18.mono d.out.size))
    have Z_v18 := Lib.hid (show v17.heap.size ≤ v18.heap.size from c18.size)
    clear c18
    replace o0 := tEngine_law.lt o0
    obtain ⟨y18_0, y18_3, y18_4, y18_5, y18_6, K18_0, K18_3, K18_4, K18_5, K18_6, rfl, p18_0, p18_3, p18_4, p18_5, p18_6, w18_0, w18_3, w18_4, w18_5, w18_6, d18_0_3, d18_0_4, d18_0_5, d18_0_6, d18_3_4, d18_3_5, d18_3_6, d18_4_5, d18_4_6, d18_5_6⟩ := tEngine_O o0
    obtain ⟨ya18_0, yc18_0, rfl⟩ := slO_len p18_0
    have P18_0 := Lib.hid p18_0
    have Q18_0 := Lib.hid (fun b h => (show v17.heap.size ≤ b ∧ b < v18.heap.size from ⟨q0 b (w18_0 b h).1, (w18_0 b h).2⟩))
    obtain ⟨ya18_3, yc18_3, rfl⟩ := slO_len p18_3
    have P18_3 := Lib.hid p18_3
    have Q18_3 := Lib.hid (fun b h => (show v17.heap.size ≤ b ∧ b < v18.heap.size from ⟨q0 b (w18_3 b h).1, (w18_3 b h).2⟩))
    obtain ⟨ya18_4, yc18_4, rfl⟩ := slO_len p18_4
    have P18_4 := Lib.hid p18_4
    have Q18_4 := Lib.hid (fun b h => (show v17.heap.size ≤ b ∧ b < v18.heap.size from ⟨q0 b (w18_4 b h).1, (w18_4 b h).2⟩))
    obtain ⟨ya18_5, yc18_5, rfl⟩ := slO_len p18_5
    have P18_5 := Lib.hid p18_5
    have Q18_5 := Lib.hid (fun b h => (show v17.heap.size ≤ b ∧ b < v18.heap.size from ⟨q0 b (w18_5 b h).1, (w18_5 b h).2⟩))
    obtain ⟨ya18_6, yc18_6, rfl⟩ := slO_len p18_6
    have P18_6 := Lib.hid p18_6
    have Q18_6 := Lib.hid (fun b h => (show v17.heap.size ≤ b ∧ b < v18.heap.size from ⟨q0 b (w18_6 b h).1, (w18_6 b h).2⟩))
    have D18_0_3 := Lib.hid d18_0_3
    clear d18_0_3
    have D18_0_4 := Lib.hid d18_0_4
    clear d18_0_4
    have D18_0_5 := Lib.hid d18_0_5
    clear d18_0_5
    have D18_0_6 := Lib.hid d18_0_6
    clear d18_0_6
    have D18_3_4 := Lib.hid d18_3_4
    clear d18_3_4
    have D18_3_5 := Lib.hid d18_3_5
    clear d18_3_5
    have D18_3_6 := Lib.hid d18_3_6
    clear d18_3_6
    have D18_4_5 := Lib.hid d18_4_5
    clear d18_4_5
    have D18_4_6 := Lib.hid d18_4_6
    clear d18_4_6
    have D18_5_6 := Lib.hid d18_5_6
    clear d18_5_6
    clear p18_0 w18_0 p18_3 w18_3 p18_4 w18_4 p18_5 w18_5 p18_6 w18_6 o0 q0
    have hal : Below v18.heap.size v18 (v18.alloc (.cells #[.slice ya18_0 xr0_0.length yc18_0, .int .i64 ar0_1, .int .i64 ar0_2, .slice ya18_3 xr0_3.length yc18_3, .slice ya18_4 xr0_4.length yc18_4, .slice ya18_5 xr0_5.length yc18_5, .slice ya18_6 xr0_6.length yc18_6, .int .i64 ar0_7] 42)) := (Below.refl _ _).alloc (Nat.le_refl _) _
    have X4 := Lib.hid (heap_alloc_new v18 (.cells #[.slice ya18_0 xr0_0.length yc18_0, .int .i64 ar0_1, .int .i64 ar0_2, .slice ya18_3 xr0_3.length yc18_3, .slice ya18_4 xr0_4.length yc18_4, .slice ya18_5 xr0_5.length yc18_5, .slice ya18_6 xr0_6.length yc18_6, .int .i64 ar0_7] 42))
    have Y_X4 := Lib.hid (show v18.heap.size < (v18.alloc (.cells #[.slice ya18_0 xr0_0.length yc18_0, .int .i64 ar0_1, .int .i64 ar0_2, .slice ya18_3 xr0_3.length yc18_3, .slice ya18_4 xr0_4.length yc18_4, .slice ya18_5 xr0_5.length yc18_5, .slice ya18_6 xr0_6.length yc18_6, .int .i64 ar0_7] 42)).heap.size by simp [World.size_alloc])
    replace B0 := Lib.hid ((hal.block w.heap.size (Array.getElem?_eq_some_iff.1 B0.out).1).trans B0.out)
    replace X1 := Lib.hid ((hal.block v3.heap.size (Array.getElem?_eq_some_iff.1 X1.out).1).trans X1.out)
    replace X2 := Lib.hid ((hal.block v5.heap.size (Array.getElem?_eq_some_iff.1 X2.out).1).trans X2.out)
    replace X3 := Lib.hid ((hal.block v7.heap.size (Array.getElem?_eq_some_iff.1 X3.out).1).trans X3.out)
    replace P2_0 := Lib.hid (slO_fresh tVersionS_law P2_0.out hal)
    replace P3_0 := Lib.hid (slO_fresh tVersionS_law P3_0.out hal)
    replace P3_3 := Lib.hid (slO_fresh tInt_law P3_3.out hal)
    replace P3_4 := Lib.hid (slO_fresh tActive_law P3_4.out hal)
    replace P3_5 := Lib.hid (slO_fresh tFinished_law P3_5.out hal)
    replace P3_6 := Lib.hid (slO_fresh tCharge_law P3_6.out hal)
    replace P7_0 := Lib.hid (slO_fresh tVersionS_law P7_0.out hal)
    replace P7_3 := Lib.hid (slO_fresh tInt_law P7_3.out hal)
    replace P7_4 := Lib.hid (slO_fresh tActive_law P7_4.out hal)
    replace P7_5 := Lib.hid (slO_fresh tFinished_law P7_5.out hal)
    replace P7_6 := Lib.hid (slO_fresh tCharge_law P7_6.out hal)
    replace P17_0 := Lib.hid (slO_fresh tVersionS_law P17_0.out hal)
    replace P18_0 := Lib.hid (slO_fresh tVersionS_law P18_0.out hal)
    replace P18_3 := Lib.hid (slO_fresh tInt_law P18_3.out hal)
    replace P18_4 := Lib.hid (slO_fresh tActive_law P18_4.out hal)
    replace P18_5 := Lib.hid (slO_fresh tFinished_law P18_5.out hal)
    replace P18_6 := Lib.hid (slO_fresh tCharge_law P18_6.out hal)
    replace d := Lib.hid (d.out.trans (hal.mono d.out.size))
    clear hal
    have p_X1_0 := (cell_of_row (v18.alloc (.cells #[.slice ya18_0 xr0_0.length yc18_0, .int .i64 ar0_1, .int .i64 ar0_2, .slice ya18_3 xr0_3.length yc18_3, .slice ya18_4 xr0_4.length yc18_4, .slice ya18_5 xr0_5.length yc18_5, .slice ya18_6 xr0_6.length yc18_6, .int .i64 ar0_7] 42)) _ 0 _ _ _ X1.out).trans (show _ = some (Value.slice ya3_0 xr0_0.length yc3_0) from rfl)
    have p_X1_1 := (cell_of_row (v18.alloc (.cells #[.slice ya18_0 xr0_0.length yc18_0, .int .i64 ar0_1, .int .i64 ar0_2, .slice ya18_3 xr0_3.length yc18_3, .slice ya18_4 xr0_4.length yc18_4, .slice ya18_5 xr0_5.length yc18_5, .slice ya18_6 xr0_6.length yc18_6, .int .i64 ar0_7] 42)) _ 1 _ _ _ X1.out).trans (show _ = some (Value.int .i64 ar0_1) from rfl)
    have p_X1_2 := (cell_of_row (v18.alloc (.cells #[.slice ya18_0 xr0_0.length yc18_0, .int .i64 ar0_1, .int .i64 ar0_2, .slice ya18_3 xr0_3.length yc18_3, .slice ya18_4 xr0_4.length yc18_4, .slice ya18_5 xr0_5.length yc18_5, .slice ya18_6 xr0_6.length yc18_6, .int .i64 ar0_7] 42)) _ 2 _ _ _ X1.out).trans (show _ = some (Value.int .i64 ar0_2) from rfl)
    have p_X1_3 := (cell_of_row (v18.alloc (.cells #[.slice ya18_0 xr0_0.length yc18_0, .int .i64 ar0_1, .int .i64 ar0_2, .slice ya18_3 xr0_3.length yc18_3, .slice ya18_4 xr0_4.length yc18_4, .slice ya18_5 xr0_5.length yc18_5, .slice ya18_6 xr0_6.length yc18_6, .int .i64 ar0_7] 42)) _ 3 _ _ _ X1.out).trans (show _ = some (Value.slice ya3_3 xr0_3.length yc3_3) from rfl)
    have p_X1_4 := (cell_of_row (v18.alloc (.cells #[.slice ya18_0 xr0_0.length yc18_0, .int .i64 ar0_1, .int .i64 ar0_2, .slice ya18_3 xr0_3.length yc18_3, .slice ya18_4 xr0_4.length yc18_4, .slice ya18_5 xr0_5.length yc18_5, .slice ya18_6 xr0_6.length yc18_6, .int .i64 ar0_7] 42)) _ 4 _ _ _ X1.out).trans (show _ = some (Value.slice ya3_4 xr0_4.length yc3_4) from rfl)
    have p_X1_5 := (cell_of_row (v18.alloc (.cells #[.slice ya18_0 xr0_0.length yc18_0, .int .i64 ar0_1, .int .i64 ar0_2, .slice ya18_3 xr0_3.length yc18_3, .slice ya18_4 xr0_4.length yc18_4, .slice ya18_5 xr0_5.length yc18_5, .slice ya18_6 xr0_6.length yc18_6, .int .i64 ar0_7] 42)) _ 5 _ _ _ X1.out).trans (show _ = some (Value.slice ya3_5 xr0_5.length yc3_5) from rfl)
    have p_X1_6 := (cell_of_row (v18.alloc (.cells #[.slice ya18_0 xr0_0.length yc18_0, .int .i64 ar0_1, .int .i64 ar0_2, .slice ya18_3 xr0_3.length yc18_3, .slice ya18_4 xr0_4.length yc18_4, .slice ya18_5 xr0_5.length yc18_5, .slice ya18_6 xr0_6.length yc18_6, .int .i64 ar0_7] 42)) _ 6 _ _ _ X1.out).trans (show _ = some (Value.slice ya3_6 xr0_6.length yc3_6) from rfl)
    have p_X1_7 := (cell_of_row (v18.alloc (.cells #[.slice ya18_0 xr0_0.length yc18_0, .int .i64 ar0_1, .int .i64 ar0_2, .slice ya18_3 xr0_3.length yc18_3, .slice ya18_4 xr0_4.length yc18_4, .slice ya18_5 xr0_5.length yc18_5, .slice ya18_6 xr0_6.length yc18_6, .int .i64 ar0_7] 42)) _ 7 _ _ _ X1.out).trans (show _ = some (Value.int .i64 ar0_7) from rfl)
    have p_X4_0 := (cell_of_row (v18.alloc (.cells #[.slice ya18_0 xr0_0.length yc18_0, .int .i64 ar0_1, .int .i64 ar0_2, .slice ya18_3 xr0_3.length yc18_3, .slice ya18_4 xr0_4.length yc18_4, .slice ya18_5 xr0_5.length yc18_5, .slice ya18_6 xr0_6.length yc18_6, .int .i64 ar0_7] 42)) _ 0 _ _ _ X4.out).trans (show _ = some (Value.slice ya18_0 xr0_0.length yc18_0) from rfl)
    have p_X4_1 := (cell_of_row (v18.alloc (.cells #[.slice ya18_0 xr0_0.length yc18_0, .int .i64 ar0_1, .int .i64 ar0_2, .slice ya18_3 xr0_3.length yc18_3, .slice ya18_4 xr0_4.length yc18_4, .slice ya18_5 xr0_5.length yc18_5, .slice ya18_6 xr0_6.length yc18_6, .int .i64 ar0_7] 42)) _ 1 _ _ _ X4.out).trans (show _ = some (Value.int .i64 ar0_1) from rfl)
    have p_X4_2 := (cell_of_row (v18.alloc (.cells #[.slice ya18_0 xr0_0.length yc18_0, .int .i64 ar0_1, .int .i64 ar0_2, .slice ya18_3 xr0_3.length yc18_3, .slice ya18_4 xr0_4.length yc18_4, .slice ya18_5 xr0_5.length yc18_5, .slice ya18_6 xr0_6.length yc18_6, .int .i64 ar0_7] 42)) _ 2 _ _ _ X4.out).trans (show _ = some (Value.int .i64 ar0_2) from rfl)
    have p_X4_3 := (cell_of_row (v18.alloc (.cells #[.slice ya18_0 xr0_0.length yc18_0, .int .i64 ar0_1, .int .i64 ar0_2, .slice ya18_3 xr0_3.length yc18_3, .slice ya18_4 xr0_4.length yc18_4, .slice ya18_5 xr0_5.length yc18_5, .slice ya18_6 xr0_6.length yc18_6, .int .i64 ar0_7] 42)) _ 3 _ _ _ X4.out).trans (show _ = some (Value.slice ya18_3 xr0_3.length yc18_3) from rfl)
    have p_X4_4 := (cell_of_row (v18.alloc (.cells #[.slice ya18_0 xr0_0.length yc18_0, .int .i64 ar0_1, .int .i64 ar0_2, .slice ya18_3 xr0_3.length yc18_3, .slice ya18_4 xr0_4.length yc18_4, .slice ya18_5 xr0_5.length yc18_5, .slice ya18_6 xr0_6.length yc18_6, .int .i64 ar0_7] 42)) _ 4 _ _ _ X4.out).trans (show _ = some (Value.slice ya18_4 xr0_4.length yc18_4) from rfl)
    have p_X4_5 := (cell_of_row (v18.alloc (.cells #[.slice ya18_0 xr0_0.length yc18_0, .int .i64 ar0_1, .int .i64 ar0_2, .slice ya18_3 xr0_3.length yc18_3, .slice ya18_4 xr0_4.length yc18_4, .slice ya18_5 xr0_5.length yc18_5, .slice ya18_6 xr0_6.length yc18_6, .int .i64 ar0_7] 42)) _ 5 _ _ _ X4.out).trans (show _ = some (Value.slice ya18_5 xr0_5.length yc18_5) from rfl)
    have p_X4_6 := (cell_of_row (v18.alloc (.cells #[.slice ya18_0 xr0_0.length yc18_0, .int .i64 ar0_1, .int .i64 ar0_2, .slice ya18_3 xr0_3.length yc18_3, .slice ya18_4 xr0_4.length yc18_4, .slice ya18_5 xr0_5.length yc18_5, .slice ya18_6 xr0_6.length yc18_6, .int .i64 ar0_7] 42)) _ 6 _ _ _ X4.out).trans (show _ = some (Value.slice ya18_6 xr0_6.length yc18_6) from rfl)
    have p_X4_7 := (cell_of_row (v18.alloc (.cells #[.slice ya18_0 xr0_0.length yc18_0, .int .i64 ar0_1, .int .i64 ar0_2, .slice ya18_3 xr0_3.length yc18_3, .slice ya18_4 xr0_4.length yc18_4, .slice ya18_5 xr0_5.length yc18_5, .slice ya18_6 xr0_6.length yc18_6, .int .i64 ar0_7] 42)) _ 7 _ _ _ X4.out).trans (show _ = some (Value.int .i64 ar0_7) from rfl)
    go_wp2_with fail
    clear p_X1_0 p_X1_1 p_X1_2 p_X1_3 p_X1_4 p_X1_5 p_X1_6 p_X1_7 p_X4_0 p_X4_1 p_X4_2 p_X4_3 p_X4_4 p_X4_5 p_X4_6 p_X4_7
    generalize (v18.alloc (.cells #[.slice ya18_0 xr0_0.length yc18_0, .int .i64 ar0_1, .int .i64 ar0_2, .slice ya18_3 xr0_3.length yc18_3, .slice ya18_4 xr0_4.length yc18_4, .slice ya18_5 xr0_5.length yc18_5, .slice ya18_6 xr0_6.length yc18_6, .int .i64 ar0_7] 42)) = u19 at *
    refine (eqEngine_T ar0_1 ar0_2 ar0_7 (.slice ya18_0 xr0_0.length yc18_0) (.slice ya18_3 xr0_3.length yc18_3) (.slice ya18_4 xr0_4.length yc18_4) (.slice ya18_5 xr0_5.length yc18_5) (.slice ya18_6 xr0_6.length yc18_6) xr0_0 xr0_3 xr0_4 xr0_5 xr0_6 (.slice ya3_0 xr0_0.length yc3_0) (.slice ya3_3 xr0_3.length yc3_3) (.slice ya3_4 xr0_4.length yc3_4) (.slice ya3_5 xr0_5.length yc3_5) (.slice ya3_6 xr0_6.length yc3_6) u19 (slO_reads tVersionS_law P18_0.out) (slO_reads tInt_law P18_3.out) (slO_reads tActive_law P18_4.out) (slO_reads tFinished_law P18_5.out) (slO_reads tCharge_law P18_6.out) (slO_reads tVersionS_law P3_0.out) (slO_reads tInt_law P3_3.out) (slO_reads tActive_law P3_4.out) (slO_reads tFinished_law P3_5.out) (slO_reads tCharge_law P3_6.out) Z0_0.out Z0_3.out Z0_4.out Z0_5.out Z0_6.out).mono ?_
    rintro e v20 ⟨rfl, c20⟩
    replace B0 := Lib.hid ((c20.block w.heap.size (Array.getElem?_eq_some_iff.1 B0.out).1).trans B0.out)
    replace X1 := Lib.hid ((c20.block v3.heap.size (Array.getElem?_eq_some_iff.1 X1.out).1).trans X1.out)
    replace X2 := Lib.hid ((c20.block v5.heap.size (Array.getElem?_eq_some_iff.1 X2.out).1).trans X2.out)
    replace X3 := Lib.hid ((c20.block v7.heap.size (Array.getElem?_eq_some_iff.1 X3.out).1).trans X3.out)
    replace X4 := Lib.hid ((c20.block v18.heap.size (Array.getElem?_eq_some_iff.1 X4.out).1).trans X4.out)
    replace P2_0 := Lib.hid (slO_fresh tVersionS_law P2_0.out c20)
    replace P3_0 := Lib.hid (slO_fresh tVersionS_law P3_0.out c20)
    replace P3_3 := Lib.hid (slO_fresh tInt_law P3_3.out c20)
    replace P3_4 := Lib.hid (slO_fresh tActive_law P3_4.out c20)
    replace P3_5 := Lib.hid (slO_fresh tFinished_law P3_5.out c20)
    replace P3_6 := Lib.hid (slO_fresh tCharge_law P3_6.out c20)
    replace P7_0 := Lib.hid (slO_fresh tVersionS_law P7_0.out c20)
    replace P7_3 := Lib.hid (slO_fresh tInt_law P7_3.out c20)
    replace P7_4 := Lib.hid (slO_fresh tActive_law P7_4.out c20)
    replace P7_5 := Lib.hid (slO_fresh tFinished_law P7_5.out c20)
    replace P7_6 := Lib.hid (slO_fresh tCharge_law P7_6.out c20)
    replace P17_0 := Lib.hid (slO_fresh tVersionS_law P17_0.out c20)
    replace P18_0 := Lib.hid (slO_fresh tVersionS_law P18_0.out c20)
    replace P18_3 := Lib.hid (slO_fresh tInt_law P18_3.out c20)
    replace P18_4 := Lib.hid (slO_fresh tActive_law P18_4.out c20)
    replace P18_5 := Lib.hid (slO_fresh tFinished_law P18_5.out c20)
    replace P18_6 := Lib.hid (slO_fresh tCharge_law P18_6.out c20)
    replace d := Lib.hid (d.out.trans (c20.mono d.out.size))
    have Z_v20 := Lib.hid (show u19.heap.size ≤ v20.heap.size from c20.size)
    clear c20
    have p_X3_0 := (cell_of_row v20 _ 0 _ _ _ X3.out).trans (show _ = some (Value.slice ya7_0 xr0_0.length yc7_0) from rfl)
    have p_X3_1 := (cell_of_row v20 _ 1 _ _ _ X3.out).trans (show _ = some (Value.int .i64 ar0_1) from rfl)
    have p_X3_2 := (cell_of_row v20 _ 2 _ _ _ X3.out).trans (show _ = some (Value.int .i64 ar0_2) from rfl)
    have p_X3_3 := (cell_of_row v20 _ 3 _ _ _ X3.out).trans (show _ = some (Value.slice ya7_3 xr0_3.length yc7_3) from rfl)
    have p_X3_4 := (cell_of_row v20 _ 4 _ _ _ X3.out).trans (show _ = some (Value.slice ya7_4 xr0_4.length yc7_4) from rfl)
    have p_X3_5 := (cell_of_row v20 _ 5 _ _ _ X3.out).trans (show _ = some (Value.slice ya7_5 xr0_5.length yc7_5) from rfl)
    have p_X3_6 := (cell_of_row v20 _ 6 _ _ _ X3.out).trans (show _ = some (Value.slice ya7_6 xr0_6.length yc7_6) from rfl)
    have p_X3_7 := (cell_of_row v20 _ 7 _ _ _ X3.out).trans (show _ = some (Value.int .i64 ar0_7) from rfl)
    go_wp2_with fail
    clear p_X3_0 p_X3_1 p_X3_2 p_X3_3 p_X3_4 p_X3_5 p_X3_6 p_X3_7
    refine (heldEngine_T ar0_1 ar0_2 ar0_7 (.slice ya7_0 xr0_0.length yc7_0) (.slice ya7_3 xr0_3.length yc7_3) (.slice ya7_4 xr0_4.length yc7_4) (.slice ya7_5 xr0_5.length yc7_5) (.slice ya7_6 xr0_6.length yc7_6) xr0_0 xr0_3 xr0_4 xr0_5 xr0_6 (1) v20 (slO_reads tVersionS_law P7_0.out) (slO_reads tInt_law P7_3.out) (slO_reads tActive_law P7_4.out) (slO_reads tFinished_law P7_5.out) (slO_reads tCharge_law P7_6.out) Z0_0.out Z0_3.out Z0_4.out Z0_5.out Z0_6.out MR0.out.1 (by have := MR0.out.2; omega)).mono ?_
    rintro e v21 ⟨rfl, c21⟩
    replace B0 := Lib.hid ((c21.block w.heap.size (Array.getElem?_eq_some_iff.1 B0.out).1).trans B0.out)
    replace X1 := Lib.hid ((c21.block v3.heap.size (Array.getElem?_eq_some_iff.1 X1.out).1).trans X1.out)
    replace X2 := Lib.hid ((c21.block v5.heap.size (Array.getElem?_eq_some_iff.1 X2.out).1).trans X2.out)
    replace X3 := Lib.hid ((c21.block v7.heap.size (Array.getElem?_eq_some_iff.1 X3.out).1).trans X3.out)
    replace X4 := Lib.hid ((c21.block v18.heap.size (Array.getElem?_eq_some_iff.1 X4.out).1).trans X4.out)
    replace P2_0 := Lib.hid (slO_fresh tVersionS_law P2_0.out c21)
    replace P3_0 := Lib.hid (slO_fresh tVersionS_law P3_0.out c21)
    replace P3_3 := Lib.hid (slO_fresh tInt_law P3_3.out c21)
    replace P3_4 := Lib.hid (slO_fresh tActive_law P3_4.out c21)
    replace P3_5 := Lib.hid (slO_fresh tFinished_law P3_5.out c21)
    replace P3_6 := Lib.hid (slO_fresh tCharge_law P3_6.out c21)
    replace P7_0 := Lib.hid (slO_fresh tVersionS_law P7_0.out c21)
    replace P7_3 := Lib.hid (slO_fresh tInt_law P7_3.out c21)
    replace P7_4 := Lib.hid (slO_fresh tActive_law P7_4.out c21)
    replace P7_5 := Lib.hid (slO_fresh tFinished_law P7_5.out c21)
    replace P7_6 := Lib.hid (slO_fresh tCharge_law P7_6.out c21)
    replace P17_0 := Lib.hid (slO_fresh tVersionS_law P17_0.out c21)
    replace P18_0 := Lib.hid (slO_fresh tVersionS_law P18_0.out c21)
    replace P18_3 := Lib.hid (slO_fresh tInt_law P18_3.out c21)
    replace P18_4 := Lib.hid (slO_fresh tActive_law P18_4.out c21)
    replace P18_5 := Lib.hid (slO_fresh tFinished_law P18_5.out c21)
    replace P18_6 := Lib.hid (slO_fresh tCharge_law P18_6.out c21)
    replace d := Lib.hid (d.out.trans (c21.mono d.out.size))
    have Z_v21 := Lib.hid (show v20.heap.size ≤ v21.heap.size from c21.size)
    clear c21
    go_wp2
    go_ret
    exact ⟨rfl, HB0.out.trans (d.out.mono HB0.out.size)⟩
  ·
    have HZ0 : Hid ((1048576 : Int) < ((zL tVersionS x0_0 : Nat) : Int)) := Lib.hid (by omega)
    have HP0 : Hid (0 ≤ (1048576 : Int)) := Lib.hid (by omega)
    have HK0 : Hid ((1048576 : Int) ≤ 1048576) := Lib.hid (by omega)
    clear c0
    go_enter Try.func4, Try.ntmps4
    go_wp2_with fail
    have Y_W : Hid (w.heap.size + 1 ≤ (w.alloc (.cells #[.slice c0_0 x0_0.length k0_0, .int .i64 a0_1] 24)).heap.size) := Lib.hid (by simp [World.size_alloc])
    generalize (w.alloc (.cells #[.slice c0_0 x0_0.length k0_0, .int .i64 a0_1] 24)) = W at *
    have d := Lib.hid (Below.refl W.heap.size W)
    refine (szStore_N a0_1 (.slice c0_0 x0_0.length k0_0) x0_0 ((1048576 : Int)) W (slR_below tVersionS_law A0_0.out d.out) HZ0.out HK0.out HP0.out O0_0.out).mono ?_
    rintro e v1 ⟨rfl, c1⟩
    replace B0 := Lib.hid ((c1.block w.heap.size (Array.getElem?_eq_some_iff.1 B0.out).1).trans B0.out)
    replace d := Lib.hid (d.out.trans (c1.mono d.out.size))
    have Z_v1 := Lib.hid (show W.heap.size ≤ v1.heap.size from c1.size)
    clear c1
    go_wp2
    go_ret
    exact ⟨rfl, HB0.out.trans (d.out.mono HB0.out.size)⟩
end Go.Proofs.Ytdhglmoanpkeoaa
namespace Go.Proofs.Ytdhglmoanpkeoaa
open Go.ChangeShapes Go.WideShapes Go.ChangeAt Go.WideMaps Go.WideElems Go.RowKit
set_option linter.unusedVariables false
theorem laidOutP : laidOutB Try.prog = true := by kernel_rfl
end Go.Proofs.Ytdhglmoanpkeoaa
namespace Go.Proofs.Ytdhglmoanpkeoaa
open Go.ChangeShapes Go.WideShapes Go.ChangeAt Go.WideMaps Go.WideElems Go.RowKit
set_option linter.unusedVariables false
/-- Cells that the statement reads as a value of the type t are a datum of the kind T. -/
def Opn {α : Type} (T : Ty α) (t : TypeId) : Prop := ∀ {H : Type} {enc : TypeId × Value → H} {W : World} {held : Bool} {fuel : Nat} {cs : List Value} {x : DataW H × List MemPlace}, DataW.trod enc Try.prog W 0 (fun _ => true) held fuel t cs = some x → ∃ d, T.R W cs d ∧ T.ok d
theorem opn_int : Opn tInt 3 := by
  intro H enc W held fuel cs x h
  obtain ⟨a, e, _, _⟩ := DataW.trod_int Try.underlying3 h
  exact ⟨a, e, trivial⟩
theorem opn_cast {α : Type} {T : Ty α} {t : TypeId} (O : Opn T t) {H : Type} {enc : TypeId × Value → H} {W : World} {held : Bool} {fuel : Nat} {cs : List Value} {o k : Nat} {x : Option (DataW H × List MemPlace)} (hx : x.isSome) (h : DataW.trod enc Try.prog W 0 (fun _ => true) held fuel t ((cs.drop o).take k) = x) :
    ∃ d, T.R W ((cs.drop o).take k) d ∧ T.ok d := by
  cases x with
  | none => cases hx
  | some y => exact O h
set_option maxRecDepth 100000 in
theorem opn_slice {α : Type} {T : Ty α} (A : T.Law) {e t : TypeId} (e' : TypeId) (O : Opn T e) (hu : Try.prog.underlying t = some (.slice e)) (hC : Try.prog.cellsOf e = T.n) : Opn (tSl e' T) t := by
  intro H enc W held fuel cs x hf
  rcases Go.Deep.open_slice hu hf with ⟨rfl, _⟩ | ⟨a', len', cap', m, n, D, Pl, rfl, _, hl, hm, hmm, _, hx⟩
  · exact ⟨[], ⟨_, rfl, Or.inl ⟨rfl, none, 0, rfl⟩⟩, by simp, fun j hj => by simp at hj⟩
  · rw [if_pos rfl] at hmm
    subst hmm
    unfold maxLen at hm
    rw [hC] at hx
    have hpos := A.pos
    haveI : Inhabited α := ⟨T.d⟩
    obtain ⟨f, hf'⟩ := Go.Deep.choose_lt (α := α × List Value) (n := len') (p := fun i q => (∀ j, j < T.n → W.cell? ((a'.add (i * T.n)).add j) = q.2[j]?) ∧ T.R W q.2 q.1 ∧ T.ok q.1) (fun i hi => by
      obtain ⟨cs', h1, h2⟩ := hx i (by omega)
      obtain ⟨_, hlen, hc⟩ := World.cells?_some h1
      obtain ⟨d, hd, ho⟩ := O h2
      exact ⟨(d, cs'), hc, hd, ho⟩)
    have hat : ∀ j, j < len' → ((List.range len').map fun i => (f i).1).getD j T.d = (f j).1 := fun j hj => by simp [List.getD, hj]
    have hlen : ((List.range len').map fun i => (f i).1).length = len' := by simp
    refine ⟨(List.range len').map fun i => (f i).1, ⟨_, rfl, ?_⟩, by rw [hlen]; omega, fun j hj => by rw [hlen] at hj; rw [hat j hj]; exact (hf' j hj).2.2⟩
    by_cases h0 : len' = 0
    · subst h0
      exact Or.inl ⟨rfl, some a', _, rfl⟩
    · have h1 := (hf' 0 (by omega)).1 0 hpos
      have hcl : 0 < (f 0).2.length := by rw [A.len (hf' 0 (by omega)).2.1]; exact hpos
      rw [List.getElem?_eq_getElem hcl] at h1
      obtain ⟨b, off, spot⟩ := a'
      have hspot : spot = none := by simpa [Addr.add] using World.cell?_spot h1
      subst hspot
      refine Or.inr ⟨b, off, _, fun i => (f i).2, by rw [hlen], by rw [hlen]; exact hl, ?_, ?_⟩
      · have := World.block_lt_of_cell? W _ h1
        simpa [Addr.add] using this
      · intro j hj
        rw [hlen] at hj
        obtain ⟨g1, g2, _⟩ := hf' j hj
        rw [hat j hj]
        refine ⟨fun i hi => ?_, g2⟩
        have := g1 i hi
        rw [Go.WideShapes.add_plain, Go.WideShapes.add_plain] at this
        exact this
theorem opn_ints (e' : TypeId) : Opn (tSl e' tInt) 37 := opn_slice tInt_law e' opn_int Try.underlying37 (by kernel_rfl)
set_option maxRecDepth 100000 in
/-- A struct as an argument. -/
theorem stA_open {α : Type} {T : Ty α} {t : TypeId} {fs : Array Field} (O : Opn T t) (hu : Try.prog.underlying t = some (.struct fs)) {H : Type} {enc : TypeId × Value → H} {W : World} {r : Reach} {b0 : Nat} {v : Value} {d : DataW H} {p : List MemPlace}
    (hval : Value.okWide Try.prog W r b0 t v) (h : DataW.Trod enc Try.prog W 0 (fun _ => true) true t v d p) : ∃ cs x, v = .agg cs.toArray ∧ T.R W cs x ∧ T.ok x := by
  obtain ⟨⟨cs⟩, rfl, hsz⟩ := okWide_struct hu hval
  obtain ⟨fuel, hf⟩ := h
  obtain ⟨x, h, ho⟩ := O hf
  exact ⟨cs, x, rfl, h, ho⟩
end Go.Proofs.Ytdhglmoanpkeoaa
namespace Go.Proofs.Ytdhglmoanpkeoaa
open Go.ChangeShapes Go.WideShapes Go.ChangeAt Go.WideMaps Go.WideElems Go.RowKit
set_option linter.unusedVariables false
set_option maxRecDepth 100000 in
theorem opn_Version : Opn tVersion 150 := by
  intro H enc W held fuel cs x h
  obtain ⟨xs, n, _, _, hl, hlen, hf⟩ := DataW.trod_struct Try.underlying150 h
  have hl2 : cs.length = 4 := hl.trans (by kernel_rfl)
  have hn : xs.length = 4 := hlen
  have f0 : DataW.trod enc Try.prog W 0 (fun _ => true) held n 3 ((cs.drop 0).take (Try.prog.cellsOf 3)) = xs[0]? := hf 0 _ rfl
  rw [show Try.prog.cellsOf 3 = 1 from by kernel_rfl] at f0
  obtain ⟨d0, r0, o0⟩ := opn_cast (opn_int) (by rw [List.getElem?_eq_getElem (by omega)]; rfl) f0
  have f1 : DataW.trod enc Try.prog W 0 (fun _ => true) held n 37 ((cs.drop 1).take (Try.prog.cellsOf 37)) = xs[1]? := hf 1 _ rfl
  rw [show Try.prog.cellsOf 37 = 1 from by kernel_rfl] at f1
  obtain ⟨d1, r1, o1⟩ := opn_cast (opn_ints 3) (by rw [List.getElem?_eq_getElem (by omega)]; rfl) f1
  have f2 : DataW.trod enc Try.prog W 0 (fun _ => true) held n 3 ((cs.drop 2).take (Try.prog.cellsOf 3)) = xs[2]? := hf 2 _ rfl
  rw [show Try.prog.cellsOf 3 = 1 from by kernel_rfl] at f2
  obtain ⟨d2, r2, o2⟩ := opn_cast (opn_int) (by rw [List.getElem?_eq_getElem (by omega)]; rfl) f2
  have f3 : DataW.trod enc Try.prog W 0 (fun _ => true) held n 3 ((cs.drop 3).take (Try.prog.cellsOf 3)) = xs[3]? := hf 3 _ rfl
  rw [show Try.prog.cellsOf 3 = 1 from by kernel_rfl] at f3
  obtain ⟨d3, r3, o3⟩ := opn_cast (opn_int) (by rw [List.getElem?_eq_getElem (by omega)]; rfl) f3
  exact ⟨(d0, d1, d2, d3), ⟨(cs.drop 0).take 1, cs.drop 1, (List.take_append_drop 1 cs).symm, r0, ⟨(cs.drop 1).take 1, cs.drop 2, (List.take_append_drop 1 (cs.drop 1)).symm.trans (by simp), r1, ⟨(cs.drop 2).take 1, cs.drop 3, (List.take_append_drop 1 (cs.drop 2)).symm.trans (by simp), r2, (by have e := List.take_of_length_le (l := cs.drop 3) (i := 1) (by rw [List.length_drop]; omega); rw [e] at r3; exact r3)⟩⟩⟩, ⟨o0, ⟨o1, ⟨o2, o3⟩⟩⟩⟩
end Go.Proofs.Ytdhglmoanpkeoaa
namespace Go.Proofs.Ytdhglmoanpkeoaa
open Go.ChangeShapes Go.WideShapes Go.ChangeAt Go.WideMaps Go.WideElems Go.RowKit
set_option linter.unusedVariables false
theorem opn_VersionS : Opn tVersionS 111 := opn_slice tVersion_law _ opn_Version Try.underlying111 (by kernel_rfl)
end Go.Proofs.Ytdhglmoanpkeoaa
namespace Go.Proofs.Ytdhglmoanpkeoaa
open Go.ChangeShapes Go.WideShapes Go.ChangeAt Go.WideMaps Go.WideElems Go.RowKit
set_option linter.unusedVariables false
theorem opn_VersionSS : Opn tVersionSS 22 := opn_slice tVersionS_law _ opn_VersionS Try.underlying22 (by kernel_rfl)
end Go.Proofs.Ytdhglmoanpkeoaa
namespace Go.Proofs.Ytdhglmoanpkeoaa
open Go.ChangeShapes Go.WideShapes Go.ChangeAt Go.WideMaps Go.WideElems Go.RowKit
set_option linter.unusedVariables false
theorem recT_Store : Try.prog.readableRec 24 = true := by kernel_rfl
theorem rowT_Store : 24 < Try.prog.types.size := of_decide_eq_true (by kernel_rfl)
set_option maxRecDepth 100000 in
theorem opn_Store : Opn tStore 24 := by
  intro H enc W held fuel cs x h
  obtain ⟨xs, n, _, _, hl, hlen, hf⟩ := DataW.trod_struct Try.underlying24 h
  have hl2 : cs.length = 2 := hl.trans (by kernel_rfl)
  have hn : xs.length = 2 := hlen
  have f0 : DataW.trod enc Try.prog W 0 (fun _ => true) held n 22 ((cs.drop 0).take (Try.prog.cellsOf 22)) = xs[0]? := hf 0 _ rfl
  rw [show Try.prog.cellsOf 22 = 1 from by kernel_rfl] at f0
  obtain ⟨d0, r0, o0⟩ := opn_cast (opn_VersionSS) (by rw [List.getElem?_eq_getElem (by omega)]; rfl) f0
  have f1 : DataW.trod enc Try.prog W 0 (fun _ => true) held n 3 ((cs.drop 1).take (Try.prog.cellsOf 3)) = xs[1]? := hf 1 _ rfl
  rw [show Try.prog.cellsOf 3 = 1 from by kernel_rfl] at f1
  obtain ⟨d1, r1, o1⟩ := opn_cast (opn_int) (by rw [List.getElem?_eq_getElem (by omega)]; rfl) f1
  exact ⟨(d0, d1), ⟨(cs.drop 0).take 1, cs.drop 1, (List.take_append_drop 1 cs).symm, r0, (by have e := List.take_of_length_le (l := cs.drop 1) (i := 1) (by rw [List.length_drop]; omega); rw [e] at r1; exact r1)⟩, ⟨o0, o1⟩⟩
set_option maxRecDepth 100000 in
theorem shut_Store {H : Type} {enc : TypeId × Value → H} {W W' : World} {v : Value} {d : DataW H} {ps : List MemPlace} (h : DataW.Trod enc Try.prog W 0 (fun _ => true) true 24 v d ps) (hb : Below W.heap.size W W') (hlt : ∀ x ∈ ps, x.block < W.heap.size) :
    DataW.Trod enc Try.prog W' 0 (fun b => decide (b < W.heap.size)) true 24 v d ps := Below.trod laidOutP recT_Store rowT_Store h hb hlt
end Go.Proofs.Ytdhglmoanpkeoaa
