/-
  Texts of the proof, merged: LawSegmentRows, OpenInts, OpnT, OVersion, OVersionS, OVersionSS, OStore.
-/
import Derived.Test.YtdhglmoanpkeoaaSG2
import Derived.ProofKit
import Derived.OpenShut
import Derived.Carry
import Derived.Lib.SmallJoins
import Derived.Deep.Slices
namespace Go.Proofs.Ytdhglmoanpkeoaa
open Go.RowKit
set_option linter.unusedVariables false
set_option linter.unusedSimpArgs false
set_option maxHeartbeats 32000000 in
set_option maxRecDepth 100000 in
theorem law_fnExactSegmentRows (a0_1 : Int) (v0_0 : Value) (x0_0 : List (List (Int × List Int × Int × Int))) (n1 : Int) (w1 : (Lit.int .i64 n1).wf = true) (n2 : Int) (w2 : (Lit.int .i64 n2).wf = true) (r0 : List (Int × List Int)) (w : World) (h0_0 : SlR tVersionS w v0_0 x0_0) (o0_0 : tVersionSS.ok x0_0) (z0 : zL tRow r0 ≤ 1048576)
    (hspec : ∀ (v0_0 : Value) (w : World), SlR tVersionS w v0_0 x0_0 → zL tVersionS x0_0 ≤ 1048576 → Calls Try.prog 8 #[.agg #[v0_0, .int .i64 a0_1], .int .i64 n1, .int .i64 n2] w (fun e w' => ∃ (g0 : Value) (G0 : Nat → Prop), e = .returned (g0) ∧ SlO 73 tRow w' G0 g0 r0 ∧ (∀ b, G0 b → w.heap.size ≤ b) ∧ Below w.heap.size w w'))
    (himpl : ∀ (v0_0 : Value) (w : World), SlR tVersionS w v0_0 x0_0 → zL tVersionS x0_0 ≤ 1048576 → Calls Try.prog 10 #[.agg #[v0_0, .int .i64 a0_1], .int .i64 n1, .int .i64 n2] w (fun e w' => ∃ (g0 : Value) (G0 : Nat → Prop), e = .returned (g0) ∧ SlO 73 tRow w' G0 g0 r0 ∧ (∀ b, G0 b → w.heap.size ≤ b) ∧ Below w.heap.size w w')) :
    Calls Try.prog 3 #[.agg #[v0_0, .int .i64 a0_1], .int .i64 n1, .int .i64 n2] w fun e w' => e = .returned (.bool true) ∧ Below w.heap.size w w' := by
  obtain ⟨c0_0, k0_0, rfl⟩ := slR_len h0_0
  have HB0 : Hid (Below w.heap.size w (w.alloc (.cells #[.slice c0_0 x0_0.length k0_0, .int .i64 a0_1] 24))) := Lib.hid ((Below.refl _ w).alloc (Nat.le_refl _) _)
  have B0 : Hid ((w.alloc (.cells #[.slice c0_0 x0_0.length k0_0, .int .i64 a0_1] 24)).heap[w.heap.size]? = some (.cells #[.slice c0_0 x0_0.length k0_0, .int .i64 a0_1] 24 (0, 0))) := Lib.hid (by have := heap_alloc_new w (.cells #[.slice c0_0 x0_0.length k0_0, .int .i64 a0_1] 24); simpa only [World.size_alloc] using this)
  have A0_0 : Hid (SlR tVersionS (w.alloc (.cells #[.slice c0_0 x0_0.length k0_0, .int .i64 a0_1] 24)) (.slice c0_0 x0_0.length k0_0) x0_0) := Lib.hid (slR_below tVersionS_law h0_0 HB0.out)
  have O0_0 := Lib.hid o0_0
  clear h0_0 o0_0
  have HSP := Lib.hid hspec
  have HIM := Lib.hid himpl
  clear hspec himpl
  have Z0 := Lib.hid z0
  clear z0
  by_cases c0 : ((zL tVersionS x0_0 : Nat) : Int) ≤ (1048576 : Int)
  ·
    have HZ0 : Hid (((zL tVersionS x0_0 : Nat) : Int) ≤ (1048576 : Int)) := Lib.hid c0
    have HK0 : Hid ((1048576 : Int) ≤ 1048576) := Lib.hid (by omega)
    have hn0 : ¬ (1048576 : Int) - ((zL tVersionS x0_0 : Nat) : Int) < 0 := by omega
    have HT : Hid (zL tVersionS x0_0 ≤ 1048576) := Lib.hid (by omega)
    have S0_0 : Hid (zL tVersionS x0_0 ≤ 1048576) := Lib.hid (by omega)
    have N0_0 := ndL_le tVersionS_law (by decide) x0_0
    have M0 : Hid (0 ≤ (1 : Int) ∧ (1 : Int) ≤ 134217728) := Lib.hid (by have := HT.out; omega)
    have hk : ¬ (1 + (ndL tVersionS x0_0 : Int) : Int) < 0 := by omega
    clear N0_0
    have NR0 := ndL_le tRow_law (by decide) r0
    have MR0 : Hid (0 ≤ (1 : Int) ∧ (1 : Int) ≤ 134217728) := Lib.hid (by have := Z0.out; omega)
    have hh0 : ¬ (1 + (ndL tRow r0 : Int) : Int) < 0 := by have := Z0.out; omega
    have hq : ((1 + (ndL tRow r0 : Int) : Int) != 1 + (ndL tRow r0 : Int)) = false := by simp
    clear NR0
    clear c0
    go_enter Try.func3, Try.ntmps3
    go_wp2_with fail
    have Y_W : Hid (w.heap.size + 1 ≤ (w.alloc (.cells #[.slice c0_0 x0_0.length k0_0, .int .i64 a0_1] 24)).heap.size) := Lib.hid (by simp [World.size_alloc])
    generalize (w.alloc (.cells #[.slice c0_0 x0_0.length k0_0, .int .i64 a0_1] 24)) = W at *
    have d := Lib.hid (Below.refl W.heap.size W)
    refine (szStore_Y a0_1 (.slice c0_0 x0_0.length k0_0) x0_0 ((1048576 : Int)) W (slR_below tVersionS_law A0_0.out d.out) HZ0.out HK0.out).mono ?_
    rintro e v1 ⟨rfl, c1⟩
    replace B0 := Lib.hid ((c1.block w.heap.size (Array.getElem?_eq_some_iff.1 B0.out).1).trans B0.out)
    replace d := Lib.hid (d.out.trans (c1.mono d.out.size))
    have Z_v1 := Lib.hid (show W.heap.size ≤ v1.heap.size from c1.size)
    clear c1
    have p_B0_0 := (cell_of_row v1 _ 0 _ _ _ B0.out).trans (show _ = some (Value.slice c0_0 x0_0.length k0_0) from rfl)
    have p_B0_1 := (cell_of_row v1 _ 1 _ _ _ B0.out).trans (show _ = some (Value.int .i64 a0_1) from rfl)
    go_wp2_with fail
    clear p_B0_0 p_B0_1
    refine (toStore_T a0_1 (.slice c0_0 x0_0.length k0_0) x0_0 v1 (slR_below tVersionS_law A0_0.out d.out) S0_0.out).mono ?_
    rintro e v2 ⟨cs, rfl, ow, c2⟩
    replace B0 := Lib.hid ((c2.block w.heap.size (Array.getElem?_eq_some_iff.1 B0.out).1).trans B0.out)
    replace d := Lib.hid (d.out.trans (c2.mono d.out.size))
    have Z_v2 := Lib.hid (show v1.heap.size ≤ v2.heap.size from c2.size)
    clear c2
    replace ow := tStore_law.lt ow
    obtain ⟨y2_0, K2_0, rfl, p2_0, w2_0⟩ := tStore_O ow
    obtain ⟨ya2_0, yc2_0, rfl⟩ := slO_len p2_0
    have P2_0 := Lib.hid p2_0
    have Q2_0 := Lib.hid (fun b h => (show v1.heap.size ≤ b ∧ b < v2.heap.size from w2_0 b h))
    clear p2_0 w2_0 ow
    go_wp2_with fail
    refine (HSP.out (.slice ya2_0 x0_0.length yc2_0) v2 (slO_reads tVersionS_law P2_0.out) HT.out ).mono ?_
    rintro e v3 ⟨g0, G0, rfl, o0, q0, c3⟩
    replace B0 := Lib.hid ((c3.block w.heap.size (Array.getElem?_eq_some_iff.1 B0.out).1).trans B0.out)
    replace P2_0 := Lib.hid (slO_fresh tVersionS_law P2_0.out c3)
    replace d := Lib.hid (d.out.trans (c3.mono d.out.size))
    have Z_v3 := Lib.hid (show v2.heap.size ≤ v3.heap.size from c3.size)
    clear c3
    obtain ⟨ya3, yc3, rfl⟩ := slO_len o0
    have P3 := Lib.hid (slO_lt tRow_law o0)
    have Q3 := Lib.hid (fun b (h : _ ∧ b < v3.heap.size) => (show v2.heap.size ≤ b ∧ b < v3.heap.size from ⟨q0 b h.1, h.2⟩))
    clear o0 q0
    have p_B0_0 := (cell_of_row v3 _ 0 _ _ _ B0.out).trans (show _ = some (Value.slice c0_0 x0_0.length k0_0) from rfl)
    have p_B0_1 := (cell_of_row v3 _ 1 _ _ _ B0.out).trans (show _ = some (Value.int .i64 a0_1) from rfl)
    go_wp2_with fail
    clear p_B0_0 p_B0_1
    refine (toStore_T a0_1 (.slice c0_0 x0_0.length k0_0) x0_0 v3 (slR_below tVersionS_law A0_0.out d.out) S0_0.out).mono ?_
    rintro e v4 ⟨cs, rfl, ow, c4⟩
    replace B0 := Lib.hid ((c4.block w.heap.size (Array.getElem?_eq_some_iff.1 B0.out).1).trans B0.out)
    replace P2_0 := Lib.hid (slO_fresh tVersionS_law P2_0.out c4)
    replace P3 := Lib.hid (slO_fresh tRow_law P3.out c4)
    replace d := Lib.hid (d.out.trans (c4.mono d.out.size))
    have Z_v4 := Lib.hid (show v3.heap.size ≤ v4.heap.size from c4.size)
    clear c4
    replace ow := tStore_law.lt ow
    obtain ⟨y4_0, K4_0, rfl, p4_0, w4_0⟩ := tStore_O ow
    obtain ⟨ya4_0, yc4_0, rfl⟩ := slO_len p4_0
    have P4_0 := Lib.hid p4_0
    have Q4_0 := Lib.hid (fun b h => (show v3.heap.size ≤ b ∧ b < v4.heap.size from w4_0 b h))
    clear p4_0 w4_0 ow
    have hal : Below v4.heap.size v4 (v4.alloc (.cells #[.slice ya4_0 x0_0.length yc4_0, .int .i64 a0_1] 30)) := (Below.refl _ _).alloc (Nat.le_refl _) _
    have X1 := Lib.hid (heap_alloc_new v4 (.cells #[.slice ya4_0 x0_0.length yc4_0, .int .i64 a0_1] 30))
    have Y_X1 := Lib.hid (show v4.heap.size < (v4.alloc (.cells #[.slice ya4_0 x0_0.length yc4_0, .int .i64 a0_1] 30)).heap.size by simp [World.size_alloc])
    replace B0 := Lib.hid ((hal.block w.heap.size (Array.getElem?_eq_some_iff.1 B0.out).1).trans B0.out)
    replace P2_0 := Lib.hid (slO_fresh tVersionS_law P2_0.out hal)
    replace P3 := Lib.hid (slO_fresh tRow_law P3.out hal)
    replace P4_0 := Lib.hid (slO_fresh tVersionS_law P4_0.out hal)
    replace d := Lib.hid (d.out.trans (hal.mono d.out.size))
    clear hal
    have p_X1_0 := (cell_of_row (v4.alloc (.cells #[.slice ya4_0 x0_0.length yc4_0, .int .i64 a0_1] 30)) _ 0 _ _ _ X1.out).trans (show _ = some (Value.slice ya4_0 x0_0.length yc4_0) from rfl)
    have p_X1_1 := (cell_of_row (v4.alloc (.cells #[.slice ya4_0 x0_0.length yc4_0, .int .i64 a0_1] 30)) _ 1 _ _ _ X1.out).trans (show _ = some (Value.int .i64 a0_1) from rfl)
    go_wp2_with fail
    clear p_X1_0 p_X1_1
    generalize (v4.alloc (.cells #[.slice ya4_0 x0_0.length yc4_0, .int .i64 a0_1] 30)) = u5 at *
    refine (HIM.out (.slice ya4_0 x0_0.length yc4_0) u5 (slO_reads tVersionS_law P4_0.out) HT.out ).mono ?_
    rintro e v6 ⟨g0, G0, rfl, o0, q0, c6⟩
    replace B0 := Lib.hid ((c6.block w.heap.size (Array.getElem?_eq_some_iff.1 B0.out).1).trans B0.out)
    replace X1 := Lib.hid ((c6.block v4.heap.size (Array.getElem?_eq_some_iff.1 X1.out).1).trans X1.out)
    replace P2_0 := Lib.hid (slO_fresh tVersionS_law P2_0.out c6)
    replace P3 := Lib.hid (slO_fresh tRow_law P3.out c6)
    replace P4_0 := Lib.hid (slO_fresh tVersionS_law P4_0.out c6)
    replace d := Lib.hid (d.out.trans (c6.mono d.out.size))
    have Z_v6 := Lib.hid (show u5.heap.size ≤ v6.heap.size from c6.size)
    clear c6
    obtain ⟨ya6, yc6, rfl⟩ := slO_len o0
    have P6 := Lib.hid (slO_lt tRow_law o0)
    have Q6 := Lib.hid (fun b (h : _ ∧ b < v6.heap.size) => (show u5.heap.size ≤ b ∧ b < v6.heap.size from ⟨q0 b h.1, h.2⟩))
    clear o0 q0
    go_wp2_with fail
    refine (eqRowS_S (.slice ya6 r0.length yc6) (.slice ya3 r0.length yc3) r0 v6 (slO_reads tRow_law P6.out) (slO_reads tRow_law P3.out) Z0.out).mono ?_
    rintro e v7 ⟨rfl, c7⟩
    replace B0 := Lib.hid ((c7.block w.heap.size (Array.getElem?_eq_some_iff.1 B0.out).1).trans B0.out)
    replace X1 := Lib.hid ((c7.block v4.heap.size (Array.getElem?_eq_some_iff.1 X1.out).1).trans X1.out)
    replace P2_0 := Lib.hid (slO_fresh tVersionS_law P2_0.out c7)
    replace P3 := Lib.hid (slO_fresh tRow_law P3.out c7)
    replace P4_0 := Lib.hid (slO_fresh tVersionS_law P4_0.out c7)
    replace P6 := Lib.hid (slO_fresh tRow_law P6.out c7)
    replace d := Lib.hid (d.out.trans (c7.mono d.out.size))
    have Z_v7 := Lib.hid (show v6.heap.size ≤ v7.heap.size from c7.size)
    clear c7
    go_wp2
    have p_B0_0 := (cell_of_row v7 _ 0 _ _ _ B0.out).trans (show _ = some (Value.slice c0_0 x0_0.length k0_0) from rfl)
    have p_B0_1 := (cell_of_row v7 _ 1 _ _ _ B0.out).trans (show _ = some (Value.int .i64 a0_1) from rfl)
    have p_X1_0 := (cell_of_row v7 _ 0 _ _ _ X1.out).trans (show _ = some (Value.slice ya4_0 x0_0.length yc4_0) from rfl)
    have p_X1_1 := (cell_of_row v7 _ 1 _ _ _ X1.out).trans (show _ = some (Value.int .i64 a0_1) from rfl)
    refine wp_region_held_drew (S := fun w' => w'.cell? ⟨w.heap.size, 0, none⟩ = some (Value.slice c0_0 x0_0.length k0_0) ∧ w'.cell? ⟨w.heap.size, 1, none⟩ = some (Value.int .i64 a0_1) ∧ w'.cell? ⟨v4.heap.size, 0, none⟩ = some (Value.slice ya4_0 x0_0.length yc4_0) ∧ w'.cell? ⟨v4.heap.size, 1, none⟩ = some (Value.int .i64 a0_1)) (by kernel_rfl) ⟨p_B0_0, p_B0_1, p_X1_0, p_X1_1⟩ (fun hHeld => ?_)
    clear p_B0_0 p_B0_1 p_X1_0 p_X1_1
    have cd8 : Below v7.heap.size v7 v7.drew := below_drew (Below.refl _ _)
    replace B0 := Lib.hid ((cd8.block w.heap.size (Array.getElem?_eq_some_iff.1 B0.out).1).trans B0.out)
    replace X1 := Lib.hid ((cd8.block v4.heap.size (Array.getElem?_eq_some_iff.1 X1.out).1).trans X1.out)
    replace P2_0 := Lib.hid (slO_fresh tVersionS_law P2_0.out cd8)
    replace P3 := Lib.hid (slO_fresh tRow_law P3.out cd8)
    replace P4_0 := Lib.hid (slO_fresh tVersionS_law P4_0.out cd8)
    replace P6 := Lib.hid (slO_fresh tRow_law P6.out cd8)
    replace d := Lib.hid (d.out.trans (cd8.mono d.out.size))
    clear cd8
    refine take_runs (i := 0) (v := ?_) (by simp only [List.getElem?_toArray, List.getElem?_cons_succ, List.getElem?_cons_zero]; rfl) (by kernel_rfl) (by kernel_rfl) (by kernel_rfl) rfl (by exact fun _ _ _ h => h) (by rfl) ?_ (by assumption) ?_
    rotate_left
    · intro w hSw; (try dsimp only at hSw); go_simp; try (with_reducible rfl)
    try simp only [Act.put, List.setIfInBounds_toArray, List.set_cons_zero, List.set_cons_succ]
    refine take_runs (i := 1) (v := ?_) (by simp only [List.getElem?_toArray, List.getElem?_cons_succ, List.getElem?_cons_zero]; rfl) (by kernel_rfl) (by kernel_rfl) (by kernel_rfl) rfl (by exact fun _ _ _ h => h) (by rfl) ?_ (by assumption) ?_
    rotate_left
    · intro w hSw; (try dsimp only at hSw); go_simp; try (with_reducible rfl)
    try simp only [Act.put, List.setIfInBounds_toArray, List.set_cons_zero, List.set_cons_succ]
    refine wpAnyH_ready (rs := [2]) (by kernel_rfl) (by simp) ?_
    refine AllReadyH.cons (o := _) (by simp only [List.getElem?_toArray, List.getElem?_cons_succ, List.getElem?_cons_zero]; rfl) (fun K hK => ?_) AllReadyH.nil
    go_simp
    refine (toStore_T a0_1 (.slice c0_0 x0_0.length k0_0) x0_0 (v7.drew) (slR_below tVersionS_law A0_0.out d.out) S0_0.out).mono ?_
    rintro e v9 ⟨cs, rfl, ow, c9⟩
    replace B0 := Lib.hid ((c9.block w.heap.size (Array.getElem?_eq_some_iff.1 B0.out).1).trans B0.out)
    replace X1 := Lib.hid ((c9.block v4.heap.size (Array.getElem?_eq_some_iff.1 X1.out).1).trans X1.out)
    replace P2_0 := Lib.hid (slO_fresh tVersionS_law P2_0.out c9)
    replace P3 := Lib.hid (slO_fresh tRow_law P3.out c9)
    replace P4_0 := Lib.hid (slO_fresh tVersionS_law P4_0.out c9)
    replace P6 := Lib.hid (slO_fresh tRow_law P6.out c9)
    replace d := Lib.hid (d.out.trans (c9.mono d.out.size))
    have Z_v9 := Lib.hid (show v7.heap.size ≤ v9.heap.size from c9.size)
    clear c9
    replace ow := tStore_law.lt ow
    obtain ⟨y9_0, K9_0, rfl, p9_0, w9_0⟩ := tStore_O ow
    obtain ⟨ya9_0, yc9_0, rfl⟩ := slO_len p9_0
    have P9_0 := Lib.hid p9_0
    have Q9_0 := Lib.hid (fun b h => (show (v7.drew).heap.size ≤ b ∧ b < v9.heap.size from w9_0 b h))
    clear p9_0 w9_0 ow
    have p_B0_0 := (cell_of_row v9 _ 0 _ _ _ B0.out).trans (show _ = some (Value.slice c0_0 x0_0.length k0_0) from rfl)
    have p_B0_1 := (cell_of_row v9 _ 1 _ _ _ B0.out).trans (show _ = some (Value.int .i64 a0_1) from rfl)
    have p_X1_0 := (cell_of_row v9 _ 0 _ _ _ X1.out).trans (show _ = some (Value.slice ya4_0 x0_0.length yc4_0) from rfl)
    have p_X1_1 := (cell_of_row v9 _ 1 _ _ _ X1.out).trans (show _ = some (Value.int .i64 a0_1) from rfl)
    refine hK.out _ _ ⟨p_B0_0, p_B0_1, p_X1_0, p_X1_1⟩ (fun hHeld => ?_)
    clear p_B0_0 p_B0_1 p_X1_0 p_X1_1
    clear hK K
    try simp only [Act.put, List.setIfInBounds_toArray, List.set_cons_zero, List.set_cons_succ]
    refine wpAnyH_ready (rs := [3]) (by kernel_rfl) (by simp) ?_
    refine AllReadyH.cons (o := _) (by simp only [List.getElem?_toArray, List.getElem?_cons_succ, List.getElem?_cons_zero]; rfl) (fun K hK => ?_) AllReadyH.nil
    go_simp
    refine (eqStore_T a0_1 (.slice ya4_0 x0_0.length yc4_0) x0_0 (.slice ya9_0 x0_0.length yc9_0) v9 (slO_reads tVersionS_law P4_0.out) (slO_reads tVersionS_law P9_0.out) S0_0.out).mono ?_
    rintro e v10 ⟨rfl, c10⟩
    replace B0 := Lib.hid ((c10.block w.heap.size (Array.getElem?_eq_some_iff.1 B0.out).1).trans B0.out)
    replace X1 := Lib.hid ((c10.block v4.heap.size (Array.getElem?_eq_some_iff.1 X1.out).1).trans X1.out)
    replace P2_0 := Lib.hid (slO_fresh tVersionS_law P2_0.out c10)
    replace P3 := Lib.hid (slO_fresh tRow_law P3.out c10)
    replace P4_0 := Lib.hid (slO_fresh tVersionS_law P4_0.out c10)
    replace P6 := Lib.hid (slO_fresh tRow_law P6.out c10)
    replace P9_0 := Lib.hid (slO_fresh tVersionS_law P9_0.out c10)
    replace d := Lib.hid (d.out.trans (c10.mono d.out.size))
    have Z_v10 := Lib.hid (show v9.heap.size ≤ v10.heap.size from c10.size)
    clear c10
    clear P9_0
    have p_B0_0 := (cell_of_row v10 _ 0 _ _ _ B0.out).trans (show _ = some (Value.slice c0_0 x0_0.length k0_0) from rfl)
    have p_B0_1 := (cell_of_row v10 _ 1 _ _ _ B0.out).trans (show _ = some (Value.int .i64 a0_1) from rfl)
    have p_X1_0 := (cell_of_row v10 _ 0 _ _ _ X1.out).trans (show _ = some (Value.slice ya4_0 x0_0.length yc4_0) from rfl)
    have p_X1_1 := (cell_of_row v10 _ 1 _ _ _ X1.out).trans (show _ = some (Value.int .i64 a0_1) from rfl)
    refine hK.out _ _ ⟨p_B0_0, p_B0_1, p_X1_0, p_X1_1⟩ (fun hHeld => ?_)
    clear p_B0_0 p_B0_1 p_X1_0 p_X1_1
    clear hK K
    try simp only [Act.put, List.setIfInBounds_toArray, List.set_cons_zero, List.set_cons_succ]
    refine take_runs (i := 4) (v := ?_) (by simp only [List.getElem?_toArray, List.getElem?_cons_succ, List.getElem?_cons_zero]; rfl) (by kernel_rfl) (by kernel_rfl) (by kernel_rfl) rfl (by exact fun _ _ _ h => h) (by rfl) ?_ (by assumption) ?_
    rotate_left
    · intro w hSw; (try dsimp only at hSw); go_simp; try (with_reducible rfl)
    try simp only [Act.put, List.setIfInBounds_toArray, List.set_cons_zero, List.set_cons_succ]
    refine wpAnyH_done (by kernel_rfl) ?_ _
    clear hHeld
    have p_X1_0 := (cell_of_row v10 _ 0 _ _ _ X1.out).trans (show _ = some (Value.slice ya4_0 x0_0.length yc4_0) from rfl)
    have p_X1_1 := (cell_of_row v10 _ 1 _ _ _ X1.out).trans (show _ = some (Value.int .i64 a0_1) from rfl)
    go_wp2_with fail
    clear p_X1_0 p_X1_1
    refine (markStore_T a0_1 (.slice ya4_0 x0_0.length yc4_0) x0_0 (fun b => v3.heap.size ≤ b ∧ b < v4.heap.size) _ (1) v10 P4_0.out Q4_0.out  S0_0.out M0.out.1 (by have := M0.out.2; omega)).mono ?_
    rintro e v11 ⟨rfl, m0, c11⟩
    have y0 := Y_W.out
    have y1 := Z_v1.out
    have y2 := Z_v2.out
    have y3 := Z_v3.out
    have y4 := Z_v4.out
    have y5 := Y_X1.out
    have y6 := Z_v6.out
    have y7 := Z_v7.out
    have y8 := Z_v9.out
    have y9 := Z_v10.out
    have yd : W.heap.size ≤ v10.heap.size := d.out.size
    replace B0 := Lib.hid ((c11.block w.heap.size (Array.getElem?_eq_some_iff.1 B0.out).1 (fun h => by have r2 := h; omega)).trans B0.out)
    replace X1 := Lib.hid ((c11.block v4.heap.size (Array.getElem?_eq_some_iff.1 X1.out).1 (fun h => by have r2 := h; omega)).trans X1.out)
    replace P2_0 := Lib.hid (slO_turn tVersionS_law P2_0.out c11 (fun b h1 h2 => by have r1 := Q2_0.out b h1; have r2 := h2; omega))
    replace P3 := Lib.hid (slO_turn tRow_law P3.out c11 (fun b h1 h2 => by have r1 := Q3.out b h1; have r2 := h2; omega))
    replace P6 := Lib.hid (slO_turn tRow_law P6.out c11 (fun b h1 h2 => by have r1 := Q6.out b h1; have r2 := h2; omega))
    replace d := Lib.hid (below_turn d.out c11 (fun b h => by have r2 := h; omega) (by omega))
    clear yd y0 y1 y2 y3 y4 y5 y6 y7 y8 y9
    have Z_v11 := Lib.hid (show v10.heap.size ≤ v11.heap.size from c11.size)
    clear P4_0
    clear m0 c11
    go_wp2_with fail
    refine (eqRowS_S (.slice ya6 r0.length yc6) (.slice ya3 r0.length yc3) r0 v11 (slO_reads tRow_law P6.out) (slO_reads tRow_law P3.out) Z0.out).mono ?_
    rintro e v12 ⟨rfl, c12⟩
    replace B0 := Lib.hid ((c12.block w.heap.size (Array.getElem?_eq_some_iff.1 B0.out).1).trans B0.out)
    replace X1 := Lib.hid ((c12.block v4.heap.size (Array.getElem?_eq_some_iff.1 X1.out).1).trans X1.out)
    replace P2_0 := Lib.hid (slO_fresh tVersionS_law P2_0.out c12)
    replace P3 := Lib.hid (slO_fresh tRow_law P3.out c12)
    replace P6 := Lib.hid (slO_fresh tRow_law P6.out c12)
    replace d := Lib.hid (d.out.trans (c12.mono d.out.size))
    have Z_v12 := Lib.hid (show v11.heap.size ≤ v12.heap.size from c12.size)
    clear c12
    go_wp2_with fail
    refine (markRowS_S (.slice ya6 r0.length yc6) r0 _ (1) v12 P6.out Z0.out MR0.out.1 (by have := MR0.out.2; omega)).mono ?_
    rintro e v13 ⟨rfl, m0, c13⟩
    have y0 := Y_W.out
    have y1 := Z_v1.out
    have y2 := Z_v2.out
    have y3 := Z_v3.out
    have y4 := Z_v4.out
    have y5 := Y_X1.out
    have y6 := Z_v6.out
    have y7 := Z_v7.out
    have y8 := Z_v9.out
    have y9 := Z_v10.out
    have y10 := Z_v11.out
    have y11 := Z_v12.out
    have yd : W.heap.size ≤ v12.heap.size := d.out.size
    replace B0 := Lib.hid ((c13.block w.heap.size (Array.getElem?_eq_some_iff.1 B0.out).1 (fun h => by have r2 := Q6.out w.heap.size h; omega)).trans B0.out)
    replace X1 := Lib.hid ((c13.block v4.heap.size (Array.getElem?_eq_some_iff.1 X1.out).1 (fun h => by have r2 := Q6.out v4.heap.size h; omega)).trans X1.out)
    replace P2_0 := Lib.hid (slO_turn tVersionS_law P2_0.out c13 (fun b h1 h2 => by have r1 := Q2_0.out b h1; have r2 := Q6.out b h2; omega))
    replace P3 := Lib.hid (slO_turn tRow_law P3.out c13 (fun b h1 h2 => by have r1 := Q3.out b h1; have r2 := Q6.out b h2; omega))
    replace d := Lib.hid (below_turn d.out c13 (fun b h => by have r2 := Q6.out b h; omega) (by omega))
    clear yd y0 y1 y2 y3 y4 y5 y6 y7 y8 y9 y10 y11
    have Z_v13 := Lib.hid (show v12.heap.size ≤ v13.heap.size from c13.size)
    replace P6 := Lib.hid m0
    clear m0 c13
    go_wp2_with fail
    refine (heldRowS_S (.slice ya6 r0.length yc6) r0 (1) v13 (slO_reads tRow_law P6.out) Z0.out MR0.out.1 (by have := MR0.out.2; omega)).mono ?_
    rintro e v14 ⟨rfl, rfl⟩
    have p_B0_0 := (cell_of_row v13 _ 0 _ _ _ B0.out).trans (show _ = some (Value.slice c0_0 x0_0.length k0_0) from rfl)
    have p_B0_1 := (cell_of_row v13 _ 1 _ _ _ B0.out).trans (show _ = some (Value.int .i64 a0_1) from rfl)
    go_wp2_with fail
    clear p_B0_0 p_B0_1
    refine (toStore_T a0_1 (.slice c0_0 x0_0.length k0_0) x0_0 v13 (slR_below tVersionS_law A0_0.out d.out) S0_0.out).mono ?_
    rintro e v15 ⟨cs, rfl, ow, c15⟩
    replace B0 := Lib.hid ((c15.block w.heap.size (Array.getElem?_eq_some_iff.1 B0.out).1).trans B0.out)
    replace X1 := Lib.hid ((c15.block v4.heap.size (Array.getElem?_eq_some_iff.1 X1.out).1).trans X1.out)
    replace P2_0 := Lib.hid (slO_fresh tVersionS_law P2_0.out c15)
    replace P3 := Lib.hid (slO_fresh tRow_law P3.out c15)
    replace P6 := Lib.hid (slO_fresh tRow_law P6.out c15)
    replace d := Lib.hid (d.out.trans (c15.mono d.out.size))
    have Z_v15 := Lib.hid (show v13.heap.size ≤ v15.heap.size from c15.size)
    clear c15
    replace ow := tStore_law.lt ow
    obtain ⟨y15_0, K15_0, rfl, p15_0, w15_0⟩ := tStore_O ow
    obtain ⟨ya15_0, yc15_0, rfl⟩ := slO_len p15_0
    have P15_0 := Lib.hid p15_0
    have Q15_0 := Lib.hid (fun b h => (show v13.heap.size ≤ b ∧ b < v15.heap.size from w15_0 b h))
    clear p15_0 w15_0 ow
    go_wp2_with fail
    refine (HIM.out (.slice ya15_0 x0_0.length yc15_0) v15 (slO_reads tVersionS_law P15_0.out) HT.out ).mono ?_
    rintro e v16 ⟨g0, G0, rfl, o0, q0, c16⟩
    replace B0 := Lib.hid ((c16.block w.heap.size (Array.getElem?_eq_some_iff.1 B0.out).1).trans B0.out)
    replace X1 := Lib.hid ((c16.block v4.heap.size (Array.getElem?_eq_some_iff.1 X1.out).1).trans X1.out)
    replace P2_0 := Lib.hid (slO_fresh tVersionS_law P2_0.out c16)
    replace P3 := Lib.hid (slO_fresh tRow_law P3.out c16)
    replace P6 := Lib.hid (slO_fresh tRow_law P6.out c16)
    replace P15_0 := Lib.hid (slO_fresh tVersionS_law P15_0.out c16)
    replace d := Lib.hid (d.out.trans (c16.mono d.out.size))
    have Z_v16 := Lib.hid (show v15.heap.size ≤ v16.heap.size from c16.size)
    clear c16
    obtain ⟨ya16, yc16, rfl⟩ := slO_len o0
    have P16 := Lib.hid (slO_lt tRow_law o0)
    have Q16 := Lib.hid (fun b (h : _ ∧ b < v16.heap.size) => (show v15.heap.size ≤ b ∧ b < v16.heap.size from ⟨q0 b h.1, h.2⟩))
    clear o0 q0
    go_wp2_with fail
    refine (eqRowS_S (.slice ya16 r0.length yc16) (.slice ya3 r0.length yc3) r0 v16 (slO_reads tRow_law P16.out) (slO_reads tRow_law P3.out) Z0.out).mono ?_
    rintro e v17 ⟨rfl, c17⟩
    replace B0 := Lib.hid ((c17.block w.heap.size (Array.getElem?_eq_some_iff.1 B0.out).1).trans B0.out)
    replace X1 := Lib.hid ((c17.block v4.heap.size (Array.getElem?_eq_some_iff.1 X1.out).1).trans X1.out)
    replace P2_0 := Lib.hid (slO_fresh tVersionS_law P2_0.out c17)
    replace P3 := Lib.hid (slO_fresh tRow_law P3.out c17)
    replace P6 := Lib.hid (slO_fresh tRow_law P6.out c17)
    replace P15_0 := Lib.hid (slO_fresh tVersionS_law P15_0.out c17)
    replace P16 := Lib.hid (slO_fresh tRow_law P16.out c17)
    replace d := Lib.hid (d.out.trans (c17.mono d.out.size))
    have Z_v17 := Lib.hid (show v16.heap.size ≤ v17.heap.size from c17.size)
    clear c17
    go_wp2_with fail
    refine (heldRowS_S (.slice ya6 r0.length yc6) r0 (1) v17 (slO_reads tRow_law P6.out) Z0.out MR0.out.1 (by have := MR0.out.2; omega)).mono ?_
    rintro e v18 ⟨rfl, rfl⟩
    go_wp2
    go_ret
    exact ⟨rfl, HB0.out.trans (d.out.mono HB0.out.size)⟩
  ·
    have HZ0 : Hid ((1048576 : Int) < ((zL tVersionS x0_0 : Nat) : Int)) := Lib.hid (by omega)
    have HP0 : Hid (0 ≤ (1048576 : Int)) := Lib.hid (by omega)
    have HK0 : Hid ((1048576 : Int) ≤ 1048576) := Lib.hid (by omega)
    clear c0
    go_enter Try.func3, Try.ntmps3
    go_wp2_with fail
    have Y_W : Hid (w.heap.size + 1 ≤ (w.alloc (.cells #[.slice c0_0 x0_0.length k0_0, .int .i64 a0_1] 24)).heap.size) := Lib.hid (by simp [World.size_alloc])
    generalize (w.alloc (.cells #[.slice c0_0 x0_0.length k0_0, .int .i64 a0_1] 24)) = W at *
    have d := Lib.hid (Below.refl W.heap.size W)
    refine (szStore_N a0_1 (.slice c0_0 x0_0.length k0_0) x0_0 ((1048576 : Int)) W (slR_below tVersionS_law A0_0.out d.out) HZ0.out HK0.out HP0.out O0_0.out).mono ?_
    rintro e v1 ⟨rfl, c1⟩
    replace B0 := Lib.hid ((c1.block w.heap.size (Array.getElem?_eq_some_iff.1 B0.out).1).trans B0.out)
    replace d := Lib.hid (d.out.trans (c1.mono d.out.size))
    have Z_v1 := Lib.hid (show W.heap.size ≤ v1.heap.size from c1.size)
    clear c1
    go_wp2
    go_ret
    exact ⟨rfl, HB0.out.trans (d.out.mono HB0.out.size)⟩
end Go.Proofs.Ytdhglmoanpkeoaa
namespace Go.Proofs.Ytdhglmoanpkeoaa
open Go.ChangeShapes Go.WideShapes Go.ChangeAt Go.WideMaps Go.WideElems Go.RowKit
set_option linter.unusedVariables false
theorem laidOutP : laidOutB Try.prog = true := by kernel_rfl
end Go.Proofs.Ytdhglmoanpkeoaa
namespace Go.Proofs.Ytdhglmoanpkeoaa
open Go.ChangeShapes Go.WideShapes Go.ChangeAt Go.WideMaps Go.WideElems Go.RowKit
set_option linter.unusedVariables false
/-- Cells that the statement reads as a value of the type t are a datum of the kind T. -/
def Opn {α : Type} (T : Ty α) (t : TypeId) : Prop := ∀ {H : Type} {enc : TypeId × Value → H} {W : World} {held : Bool} {fuel : Nat} {cs : List Value} {x : DataW H × List MemPlace}, DataW.trod enc Try.prog W 0 (fun _ => true) held fuel t cs = some x → ∃ d, T.R W cs d ∧ T.ok d
theorem opn_int : Opn tInt 3 := by
  intro H enc W held fuel cs x h
  obtain ⟨a, e, _, _⟩ := DataW.trod_int Try.underlying3 h
  exact ⟨a, e, trivial⟩
theorem opn_cast {α : Type} {T : Ty α} {t : TypeId} (O : Opn T t) {H : Type} {enc : TypeId × Value → H} {W : World} {held : Bool} {fuel : Nat} {cs : List Value} {o k : Nat} {x : Option (DataW H × List MemPlace)} (hx : x.isSome) (h : DataW.trod enc Try.prog W 0 (fun _ => true) held fuel t ((cs.drop o).take k) = x) :
    ∃ d, T.R W ((cs.drop o).take k) d ∧ T.ok d := by
  cases x with
  | none => cases hx
  | some y => exact O h
set_option maxRecDepth 100000 in
theorem opn_slice {α : Type} {T : Ty α} (A : T.Law) {e t : TypeId} (e' : TypeId) (O : Opn T e) (hu : Try.prog.underlying t = some (.slice e)) (hC : Try.prog.cellsOf e = T.n) : Opn (tSl e' T) t := by
  intro H enc W held fuel cs x hf
  rcases Go.Deep.open_slice hu hf with ⟨rfl, _⟩ | ⟨a', len', cap', m, n, D, Pl, rfl, _, hl, hm, hmm, _, hx⟩
  · exact ⟨[], ⟨_, rfl, Or.inl ⟨rfl, none, 0, rfl⟩⟩, by simp, fun j hj => by simp at hj⟩
  · rw [if_pos rfl] at hmm
    subst hmm
    unfold maxLen at hm
    rw [hC] at hx
    have hpos := A.pos
    haveI : Inhabited α := ⟨T.d⟩
    obtain ⟨f, hf'⟩ := Go.Deep.choose_lt (α := α × List Value) (n := len') (p := fun i q => (∀ j, j < T.n → W.cell? ((a'.add (i * T.n)).add j) = q.2[j]?) ∧ T.R W q.2 q.1 ∧ T.ok q.1) (fun i hi => by
      obtain ⟨cs', h1, h2⟩ := hx i (by omega)
      obtain ⟨_, hlen, hc⟩ := World.cells?_some h1
      obtain ⟨d, hd, ho⟩ := O h2
      exact ⟨(d, cs'), hc, hd, ho⟩)
    have hat : ∀ j, j < len' → ((List.range len').map fun i => (f i).1).getD j T.d = (f j).1 := fun j hj => by simp [List.getD, hj]
    have hlen : ((List.range len').map fun i => (f i).1).length = len' := by simp
    refine ⟨(List.range len').map fun i => (f i).1, ⟨_, rfl, ?_⟩, by rw [hlen]; omega, fun j hj => by rw [hlen] at hj; rw [hat j hj]; exact (hf' j hj).2.2⟩
    by_cases h0 : len' = 0
    · subst h0
      exact Or.inl ⟨rfl, some a', _, rfl⟩
    · have h1 := (hf' 0 (by omega)).1 0 hpos
      have hcl : 0 < (f 0).2.length := by rw [A.len (hf' 0 (by omega)).2.1]; exact hpos
      rw [List.getElem?_eq_getElem hcl] at h1
      obtain ⟨b, off, spot⟩ := a'
      have hspot : spot = none := by simpa [Addr.add] using World.cell?_spot h1
      subst hspot
      refine Or.inr ⟨b, off, _, fun i => (f i).2, by rw [hlen], by rw [hlen]; exact hl, ?_, ?_⟩
      · have := World.block_lt_of_cell? W _ h1
        simpa [Addr.add] using this
      · intro j hj
        rw [hlen] at hj
        obtain ⟨g1, g2, _⟩ := hf' j hj
        rw [hat j hj]
        refine ⟨fun i hi => ?_, g2⟩
        have := g1 i hi
        rw [Go.WideShapes.add_plain, Go.WideShapes.add_plain] at this
        exact this
theorem opn_ints (e' : TypeId) : Opn (tSl e' tInt) 37 := opn_slice tInt_law e' opn_int Try.underlying37 (by kernel_rfl)
set_option maxRecDepth 100000 in
/-- A struct as an argument. -/
theorem stA_open {α : Type} {T : Ty α} {t : TypeId} {fs : Array Field} (O : Opn T t) (hu : Try.prog.underlying t = some (.struct fs)) {H : Type} {enc : TypeId × Value → H} {W : World} {r : Reach} {b0 : Nat} {v : Value} {d : DataW H} {p : List MemPlace}
    (hval : Value.okWide Try.prog W r b0 t v) (h : DataW.Trod enc Try.prog W 0 (fun _ => true) true t v d p) : ∃ cs x, v = .agg cs.toArray ∧ T.R W cs x ∧ T.ok x := by
  obtain ⟨⟨cs⟩, rfl, hsz⟩ := okWide_struct hu hval
  obtain ⟨fuel, hf⟩ := h
  obtain ⟨x, h, ho⟩ := O hf
  exact ⟨cs, x, rfl, h, ho⟩
end Go.Proofs.Ytdhglmoanpkeoaa
namespace Go.Proofs.Ytdhglmoanpkeoaa
open Go.ChangeShapes Go.WideShapes Go.ChangeAt Go.WideMaps Go.WideElems Go.RowKit
set_option linter.unusedVariables false
set_option maxRecDepth 100000 in
theorem opn_Version : Opn tVersion 150 := by
  intro H enc W held fuel cs x h
  obtain ⟨xs, n, _, _, hl, hlen, hf⟩ := DataW.trod_struct Try.underlying150 h
  have hl2 : cs.length = 4 := hl.trans (by kernel_rfl)
  have hn : xs.length = 4 := hlen
  have f0 : DataW.trod enc Try.prog W 0 (fun _ => true) held n 3 ((cs.drop 0).take (Try.prog.cellsOf 3)) = xs[0]? := hf 0 _ rfl
  rw [show Try.prog.cellsOf 3 = 1 from by kernel_rfl] at f0
  obtain ⟨d0, r0, o0⟩ := opn_cast (opn_int) (by rw [List.getElem?_eq_getElem (by omega)]; rfl) f0
  have f1 : DataW.trod enc Try.prog W 0 (fun _ => true) held n 37 ((cs.drop 1).take (Try.prog.cellsOf 37)) = xs[1]? := hf 1 _ rfl
  rw [show Try.prog.cellsOf 37 = 1 from by kernel_rfl] at f1
  obtain ⟨d1, r1, o1⟩ := opn_cast (opn_ints 3) (by rw [List.getElem?_eq_getElem (by omega)]; rfl) f1
  have f2 : DataW.trod enc Try.prog W 0 (fun _ => true) held n 3 ((cs.drop 2).take (Try.prog.cellsOf 3)) = xs[2]? := hf 2 _ rfl
  rw [show Try.prog.cellsOf 3 = 1 from by kernel_rfl] at f2
  obtain ⟨d2, r2, o2⟩ := opn_cast (opn_int) (by rw [List.getElem?_eq_getElem (by omega)]; rfl) f2
  have f3 : DataW.trod enc Try.prog W 0 (fun _ => true) held n 3 ((cs.drop 3).take (Try.prog.cellsOf 3)) = xs[3]? := hf 3 _ rfl
  rw [show Try.prog.cellsOf 3 = 1 from by kernel_rfl] at f3
  obtain ⟨d3, r3, o3⟩ := opn_cast (opn_int) (by rw [List.getElem?_eq_getElem (by omega)]; rfl) f3
  exact ⟨(d0, d1, d2, d3), ⟨(cs.drop 0).take 1, cs.drop 1, (List.take_append_drop 1 cs).symm, r0, ⟨(cs.drop 1).take 1, cs.drop 2, (List.take_append_drop 1 (cs.drop 1)).symm.trans (by simp), r1, ⟨(cs.drop 2).take 1, cs.drop 3, (List.take_append_drop 1 (cs.drop 2)).symm.trans (by simp), r2, (by have e := List.take_of_length_le (l := cs.drop 3) (i := 1) (by rw [List.length_drop]; omega); rw [e] at r3; exact r3)⟩⟩⟩, ⟨o0, ⟨o1, ⟨o2, o3⟩⟩⟩⟩
end Go.Proofs.Ytdhglmoanpkeoaa
namespace Go.Proofs.Ytdhglmoanpkeoaa
open Go.ChangeShapes Go.WideShapes Go.ChangeAt Go.WideMaps Go.WideElems Go.RowKit
set_option linter.unusedVariables false
theorem opn_VersionS : Opn tVersionS 111 := opn_slice tVersion_law _ opn_Version Try.underlying111 (by kernel_rfl)
end Go.Proofs.Ytdhglmoanpkeoaa
namespace Go.Proofs.Ytdhglmoanpkeoaa
open Go.ChangeShapes Go.WideShapes Go.ChangeAt Go.WideMaps Go.WideElems Go.RowKit
set_option linter.unusedVariables false
theorem opn_VersionSS : Opn tVersionSS 22 := opn_slice tVersionS_law _ opn_VersionS Try.underlying22 (by kernel_rfl)
end Go.Proofs.Ytdhglmoanpkeoaa
namespace Go.Proofs.Ytdhglmoanpkeoaa
open Go.ChangeShapes Go.WideShapes Go.ChangeAt Go.WideMaps Go.WideElems Go.RowKit
set_option linter.unusedVariables false
theorem recT_Store : Try.prog.readableRec 24 = true := by kernel_rfl
theorem rowT_Store : 24 < Try.prog.types.size := of_decide_eq_true (by kernel_rfl)
set_option maxRecDepth 100000 in
theorem opn_Store : Opn tStore 24 := by
  intro H enc W held fuel cs x h
  obtain ⟨xs, n, _, _, hl, hlen, hf⟩ := DataW.trod_struct Try.underlying24 h
  have hl2 : cs.length = 2 := hl.trans (by kernel_rfl)
  have hn : xs.length = 2 := hlen
  have f0 : DataW.trod enc Try.prog W 0 (fun _ => true) held n 22 ((cs.drop 0).take (Try.prog.cellsOf 22)) = xs[0]? := hf 0 _ rfl
  rw [show Try.prog.cellsOf 22 = 1 from by kernel_rfl] at f0
  obtain ⟨d0, r0, o0⟩ := opn_cast (opn_VersionSS) (by rw [List.getElem?_eq_getElem (by omega)]; rfl) f0
  have f1 : DataW.trod enc Try.prog W 0 (fun _ => true) held n 3 ((cs.drop 1).take (Try.prog.cellsOf 3)) = xs[1]? := hf 1 _ rfl
  rw [show Try.prog.cellsOf 3 = 1 from by kernel_rfl] at f1
  obtain ⟨d1, r1, o1⟩ := opn_cast (opn_int) (by rw [List.getElem?_eq_getElem (by omega)]; rfl) f1
  exact ⟨(d0, d1), ⟨(cs.drop 0).take 1, cs.drop 1, (List.take_append_drop 1 cs).symm, r0, (by have e := List.take_of_length_le (l := cs.drop 1) (i := 1) (by rw [List.length_drop]; omega); rw [e] at r1; exact r1)⟩, ⟨o0, o1⟩⟩
set_option maxRecDepth 100000 in
theorem shut_Store {H : Type} {enc : TypeId × Value → H} {W W' : World} {v : Value} {d : DataW H} {ps : List MemPlace} (h : DataW.Trod enc Try.prog W 0 (fun _ => true) true 24 v d ps) (hb : Below W.heap.size W W') (hlt : ∀ x ∈ ps, x.block < W.heap.size) :
    DataW.Trod enc Try.prog W' 0 (fun b => decide (b < W.heap.size)) true 24 v d ps := Below.trod laidOutP recT_Store rowT_Store h hb hlt
end Go.Proofs.Ytdhglmoanpkeoaa
