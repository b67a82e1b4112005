/-
  Texts of the proof, merged: TCharge, TChargeS, TEngine, EngBr, BrRow, EngSpec1, TQueryS, BrQuery, EngSpec2, VerSpec1, TyApp.
-/
import Derived.Test.YtdhglmoanpkeoaaGreatDoorIE2
import Derived.BigQuiet
import Derived.Deep.QuietTactic
import Derived.Deep.RegionHeld3
import Derived.Maps.AppendAt
import Derived.Deep.Upon
import Derived.Deep.Slices
namespace Go.Proofs.YtdhglmoanpkeoaaGreatDoor
open Go.RowKit
set_option linter.unusedVariables false
set_option linter.unusedSimpArgs false
def tCharge : Ty (Int × Int × List Int × List Int × List Int) := tPair tInt (tPair tInt (tPair tIntS (tPair tIntS tIntS)))
theorem tCharge_law : tCharge.Law := tPair_law tInt_law (tPair_law tInt_law (tPair_law tIntS_law (tPair_law tIntS_law tIntS_law)))
theorem tCharge_R {w : World} {cs : List Value} {a0 : Int} {a1 : Int} {x2 : List Int} {x3 : List Int} {x4 : List Int} (h : tCharge.R w cs (a0, a1, x2, x3, x4)) : ∃ v2 v3 v4, cs = [.int .i64 a0, .int .i64 a1, v2, v3, v4] ∧ SlR tInt w v2 x2 ∧ SlR tInt w v3 x3 ∧ SlR tInt w v4 x4 := by
  obtain ⟨_, _, rfl, rfl, ⟨_, _, rfl, rfl, ⟨_, _, rfl, ⟨v2, rfl, h2⟩, ⟨_, _, rfl, ⟨v3, rfl, h3⟩, ⟨v4, rfl, h4⟩⟩⟩⟩⟩ := h
  exact ⟨_, _, _, rfl, h2, h3, h4⟩
theorem tCharge_sz {a0 : Int} {a1 : Int} {x2 : List Int} {x3 : List Int} {x4 : List Int} : tCharge.sz (a0, a1, x2, x3, x4) = zL tInt x2 + zL tInt x3 + zL tInt x4 := by
  simp only [tCharge, tPair_sz, tPair_nd, tPair_nv, tInt_sz, tInt_nd, tInt_nv, tSl_sz, tSl_nd, tSl_nv]
  try omega
theorem tCharge_O {w : World} {F : Nat → Prop} {cs : List Value} {a0 : Int} {a1 : Int} {x2 : List Int} {x3 : List Int} {x4 : List Int} (h : tCharge.O w F cs (a0, a1, x2, x3, x4)) : ∃ v2 v3 v4, ∃ F2 F3 F4 : Nat → Prop, cs = [.int .i64 a0, .int .i64 a1, v2, v3, v4] ∧ SlO 3 tInt w F2 v2 x2 ∧ SlO 3 tInt w F3 v3 x3 ∧ SlO 3 tInt w F4 v4 x4 ∧ (∀ b, F2 b → F b) ∧ (∀ b, F3 b → F b) ∧ (∀ b, F4 b → F b) ∧ (∀ b, F2 b → ¬ F3 b) ∧ (∀ b, F2 b → ¬ F4 b) ∧ (∀ b, F3 b → ¬ F4 b) := by
  obtain ⟨_, _, F0_1, F0_2, rfl, rfl, ⟨_, _, F1_1, F1_2, rfl, rfl, ⟨_, _, F2_1, F2_2, rfl, ⟨v2, rfl, h2⟩, ⟨_, _, F3_1, F3_2, rfl, ⟨v3, rfl, h3⟩, ⟨v4, rfl, h4⟩, s3_1, s3_2, d3⟩, s2_1, s2_2, d2⟩, s1_1, s1_2, d1⟩, s0_1, s0_2, d0⟩ := h
  exact ⟨v2, v3, v4, F2_1, F3_1, F3_2, rfl, h2, h3, h4, fun b h => (s0_2 b (s1_2 b (s2_1 b h))), fun b h => (s0_2 b (s1_2 b (s2_2 b (s3_1 b h)))), fun b h => (s0_2 b (s1_2 b (s2_2 b (s3_2 b h)))), fun b h h2 => d2 b h (s3_1 b h2), fun b h h2 => d2 b h (s3_2 b h2), fun b h h2 => d3 b h h2⟩
theorem tCharge_mkO {w : World} {F : Nat → Prop} {a0 : Int} {a1 : Int} {x2 : List Int} {x3 : List Int} {x4 : List Int} {v2 v3 v4 : Value} {F2 F3 F4 : Nat → Prop} (h2 : SlO 3 tInt w F2 v2 x2) (h3 : SlO 3 tInt w F3 v3 x3) (h4 : SlO 3 tInt w F4 v4 x4) (s2 : ∀ b, F2 b → F b) (s3 : ∀ b, F3 b → F b) (s4 : ∀ b, F4 b → F b) (d2_3 : ∀ b, F2 b → ¬ F3 b) (d2_4 : ∀ b, F2 b → ¬ F4 b) (d3_4 : ∀ b, F3 b → ¬ F4 b) : tCharge.O w F [.int .i64 a0, .int .i64 a1, v2, v3, v4] (a0, a1, x2, x3, x4) := ⟨[.int .i64 a0], [.int .i64 a1, v2, v3, v4], fun _ => False, fun b => F2 b ∨ (F3 b ∨ (F4 b)), rfl, rfl, ⟨[.int .i64 a1], [v2, v3, v4], fun _ => False, fun b => F2 b ∨ (F3 b ∨ (F4 b)), rfl, rfl, ⟨[v2], [v3, v4], F2, fun b => F3 b ∨ (F4 b), rfl, ⟨_, rfl, h2⟩, ⟨[v3], [v4], F3, F4, rfl, ⟨_, rfl, h3⟩, ⟨_, rfl, h4⟩, (fun b h => (Or.inl h)), (fun b h => (Or.inr h)), (fun b h g => d3_4 b h g)⟩, (fun b h => (Or.inl h)), (fun b h => (h.elim (fun q0 => (Or.inr (Or.inl q0))) (fun q0 => (Or.inr (Or.inr q0))))), (fun b h g => (g.elim (fun q10 => d2_3 b h q10) (fun q10 => d2_4 b h q10)))⟩, (fun b h => (False.elim h)), (fun b h => (h.elim (fun q0 => (Or.inl q0)) (fun q0 => (q0.elim (fun q1 => (Or.inr (Or.inl q1))) (fun q1 => (Or.inr (Or.inr q1))))))), (fun b h g => (False.elim h))⟩, (fun b h => (False.elim h)), (fun b h => (h.elim (fun q0 => s2 b q0) (fun q0 => (q0.elim (fun q1 => s3 b q1) (fun q1 => s4 b q1))))), (fun b h g => (False.elim h))⟩
set_option maxHeartbeats 8000000 in
set_option maxRecDepth 100000 in
theorem szCharge_Y (a0 a1 : Int) (v2 v3 v4 : Value) (x2 : List Int) (x3 : List Int) (x4 : List Int) (k0 : Int) (w : World) (h2 : SlR tInt w v2 x2) (h3 : SlR tInt w v3 x3) (h4 : SlR tInt w v4 x4) (hs : ((zL tInt x2 + zL tInt x3 + zL tInt x4 : Nat) : Int) ≤ k0) (hk : k0 ≤ 1048576) :
    Calls Tryz.prog 97 #[.agg #[.int .i64 a0, .int .i64 a1, v2, v3, v4], .int .i64 k0] w fun e w' => e = .returned (.int .i64 (k0 - ((zL tInt x2 + zL tInt x3 + zL tInt x4 : Nat) : Int))) ∧ Below w.heap.size w w' := by
  have H2 := Lib.hid h2
  have H3 := Lib.hid h3
  have H4 := Lib.hid h4
  clear h2 h3 h4
  have HZ2 : Hid (((zL tInt x2 : Nat) : Int) ≤ k0) := Lib.hid (by omega)
  have HK2 : Hid (k0 ≤ 1048576) := Lib.hid (by omega)
  have hn2 : ¬ k0 - ((zL tInt x2 : Nat) : Int) < 0 := by omega
  have HZ3 : Hid (((zL tInt x3 : Nat) : Int) ≤ k0 - ((zL tInt x2 : Nat) : Int)) := Lib.hid (by omega)
  have HK3 : Hid (k0 - ((zL tInt x2 : Nat) : Int) ≤ 1048576) := Lib.hid (by omega)
  have hn3 : ¬ k0 - ((zL tInt x2 : Nat) : Int) - ((zL tInt x3 : Nat) : Int) < 0 := by omega
  have HZ4 : Hid (((zL tInt x4 : Nat) : Int) ≤ k0 - ((zL tInt x2 : Nat) : Int) - ((zL tInt x3 : Nat) : Int)) := Lib.hid (by omega)
  have HK4 : Hid (k0 - ((zL tInt x2 : Nat) : Int) - ((zL tInt x3 : Nat) : Int) ≤ 1048576) := Lib.hid (by omega)
  have hn4 : ¬ k0 - ((zL tInt x2 : Nat) : Int) - ((zL tInt x3 : Nat) : Int) - ((zL tInt x4 : Nat) : Int) < 0 := by omega
  have HE : Hid (k0 - ((zL tInt x2 : Nat) : Int) - ((zL tInt x3 : Nat) : Int) - ((zL tInt x4 : Nat) : Int) = k0 - ((zL tInt x2 + zL tInt x3 + zL tInt x4 : Nat) : Int)) := Lib.hid (by omega)
  clear hs hk
  have hb : Below w.heap.size w (w.alloc (.cells #[.int .i64 a0, .int .i64 a1, v2, v3, v4] 142)) := (Below.refl _ w).alloc (Nat.le_refl _) _
  have g0 : (w.alloc (.cells #[.int .i64 a0, .int .i64 a1, v2, v3, v4] 142)).heap[w.heap.size]? = some (.cells #[.int .i64 a0, .int .i64 a1, v2, v3, v4] 142 (0, 0)) := heap_alloc_new w _
  have hz0 : w.heap.size < (w.alloc (.cells #[.int .i64 a0, .int .i64 a1, v2, v3, v4] 142)).heap.size := by simp
  go_enter Tryz.func97, Tryz.ntmps97
  go_wp2_with fail
  generalize (w.alloc (.cells #[.int .i64 a0, .int .i64 a1, v2, v3, v4] 142)) = W at *
  refine (szIntS_Y v2 x2 (k0) W (slR_below tInt_law H2.out hb) HZ2.out HK2.out).mono ?_
  rintro e W1 ⟨rfl, b1⟩
  replace g0 := (b1.block w.heap.size hz0).trans g0
  replace hz0 := Nat.lt_of_lt_of_le hz0 b1.size
  replace hb := hb.trans (b1.mono hb.size)
  clear b1
  have p3 := (cell_of_row W1 _ 3 _ _ _ g0).trans (show _ = some (v3) from rfl)
  go_wp2_with fail
  clear p3
  refine (szIntS_Y v3 x3 (k0 - ((zL tInt x2 : Nat) : Int)) W1 (slR_below tInt_law H3.out hb) HZ3.out HK3.out).mono ?_
  rintro e W2 ⟨rfl, b1⟩
  replace g0 := (b1.block w.heap.size hz0).trans g0
  replace hz0 := Nat.lt_of_lt_of_le hz0 b1.size
  replace hb := hb.trans (b1.mono hb.size)
  clear b1
  have p4 := (cell_of_row W2 _ 4 _ _ _ g0).trans (show _ = some (v4) from rfl)
  go_wp2_with fail
  clear p4
  refine (szIntS_Y v4 x4 (k0 - ((zL tInt x2 : Nat) : Int) - ((zL tInt x3 : Nat) : Int)) W2 (slR_below tInt_law H4.out hb) HZ4.out HK4.out).mono ?_
  rintro e W3 ⟨rfl, b1⟩
  replace g0 := (b1.block w.heap.size hz0).trans g0
  replace hz0 := Nat.lt_of_lt_of_le hz0 b1.size
  replace hb := hb.trans (b1.mono hb.size)
  clear b1
  go_wp2
  go_ret
  exact ⟨ty_ret HE.out, hb⟩
set_option maxHeartbeats 8000000 in
set_option maxRecDepth 100000 in
theorem szCharge_N (a0 a1 : Int) (v2 v3 v4 : Value) (x2 : List Int) (x3 : List Int) (x4 : List Int) (k0 : Int) (w : World) (h2 : SlR tInt w v2 x2) (h3 : SlR tInt w v3 x3) (h4 : SlR tInt w v4 x4) (hs : k0 < ((zL tInt x2 + zL tInt x3 + zL tInt x4 : Nat) : Int)) (hk : k0 ≤ 1048576) (hp : 0 ≤ k0) (o2 : tIntS.ok x2) (o3 : tIntS.ok x3) (o4 : tIntS.ok x4) :
    Calls Tryz.prog 97 #[.agg #[.int .i64 a0, .int .i64 a1, v2, v3, v4], .int .i64 k0] w fun e w' => e = .returned (.int .i64 (-1)) ∧ Below w.heap.size w w' := by
  have H2 := Lib.hid h2
  have H3 := Lib.hid h3
  have H4 := Lib.hid h4
  clear h2 h3 h4
  have HO2 := Lib.hid o2
  have HO3 := Lib.hid o3
  have HO4 := Lib.hid o4
  clear o2 o3 o4
  by_cases c0 : k0 < ((zL tInt x2 : Nat) : Int)
  · have HZ2 : Hid (k0 < ((zL tInt x2 : Nat) : Int)) := Lib.hid (by omega)
    have HP2 : Hid (0 ≤ k0) := Lib.hid (by omega)
    have HK2 : Hid (k0 ≤ 1048576) := Lib.hid (by omega)
    clear hs hk
    clear c0 hp
    have hb : Below w.heap.size w (w.alloc (.cells #[.int .i64 a0, .int .i64 a1, v2, v3, v4] 142)) := (Below.refl _ w).alloc (Nat.le_refl _) _
    have g0 : (w.alloc (.cells #[.int .i64 a0, .int .i64 a1, v2, v3, v4] 142)).heap[w.heap.size]? = some (.cells #[.int .i64 a0, .int .i64 a1, v2, v3, v4] 142 (0, 0)) := heap_alloc_new w _
    have hz0 : w.heap.size < (w.alloc (.cells #[.int .i64 a0, .int .i64 a1, v2, v3, v4] 142)).heap.size := by simp
    go_enter Tryz.func97, Tryz.ntmps97
    go_wp2_with fail
    generalize (w.alloc (.cells #[.int .i64 a0, .int .i64 a1, v2, v3, v4] 142)) = W at *
    refine (szIntS_N v2 x2 (k0) W (slR_below tInt_law H2.out hb) HZ2.out HK2.out HP2.out HO2.out).mono ?_
    rintro e W1 ⟨rfl, b1⟩
    replace g0 := (b1.block w.heap.size hz0).trans g0
    replace hz0 := Nat.lt_of_lt_of_le hz0 b1.size
    replace hb := hb.trans (b1.mono hb.size)
    clear b1
    go_wp2
    go_ret
    exact ⟨rfl, hb⟩
  ·
    by_cases c1 : k0 - ((zL tInt x2 : Nat) : Int) < ((zL tInt x3 : Nat) : Int)
    · have HZ2 : Hid (((zL tInt x2 : Nat) : Int) ≤ k0) := Lib.hid (by omega)
      have hn2 : ¬ k0 - ((zL tInt x2 : Nat) : Int) < 0 := by omega
      have HK2 : Hid (k0 ≤ 1048576) := Lib.hid (by omega)
      have HZ3 : Hid (k0 - ((zL tInt x2 : Nat) : Int) < ((zL tInt x3 : Nat) : Int)) := Lib.hid (by omega)
      have HP3 : Hid (0 ≤ k0 - ((zL tInt x2 : Nat) : Int)) := Lib.hid (by omega)
      have HK3 : Hid (k0 - ((zL tInt x2 : Nat) : Int) ≤ 1048576) := Lib.hid (by omega)
      clear hs hk
      clear c1 hp c0
      have hb : Below w.heap.size w (w.alloc (.cells #[.int .i64 a0, .int .i64 a1, v2, v3, v4] 142)) := (Below.refl _ w).alloc (Nat.le_refl _) _
      have g0 : (w.alloc (.cells #[.int .i64 a0, .int .i64 a1, v2, v3, v4] 142)).heap[w.heap.size]? = some (.cells #[.int .i64 a0, .int .i64 a1, v2, v3, v4] 142 (0, 0)) := heap_alloc_new w _
      have hz0 : w.heap.size < (w.alloc (.cells #[.int .i64 a0, .int .i64 a1, v2, v3, v4] 142)).heap.size := by simp
      go_enter Tryz.func97, Tryz.ntmps97
      go_wp2_with fail
      generalize (w.alloc (.cells #[.int .i64 a0, .int .i64 a1, v2, v3, v4] 142)) = W at *
      refine (szIntS_Y v2 x2 (k0) W (slR_below tInt_law H2.out hb) HZ2.out HK2.out).mono ?_
      rintro e W1 ⟨rfl, b1⟩
      replace g0 := (b1.block w.heap.size hz0).trans g0
      replace hz0 := Nat.lt_of_lt_of_le hz0 b1.size
      replace hb := hb.trans (b1.mono hb.size)
      clear b1
      have p3 := (cell_of_row W1 _ 3 _ _ _ g0).trans (show _ = some (v3) from rfl)
      go_wp2_with fail
      clear p3
      refine (szIntS_N v3 x3 (k0 - ((zL tInt x2 : Nat) : Int)) W1 (slR_below tInt_law H3.out hb) HZ3.out HK3.out HP3.out HO3.out).mono ?_
      rintro e W2 ⟨rfl, b1⟩
      replace g0 := (b1.block w.heap.size hz0).trans g0
      replace hz0 := Nat.lt_of_lt_of_le hz0 b1.size
      replace hb := hb.trans (b1.mono hb.size)
      clear b1
      go_wp2
      go_ret
      exact ⟨rfl, hb⟩
    ·
      have HZ2 : Hid (((zL tInt x2 : Nat) : Int) ≤ k0) := Lib.hid (by omega)
      have hn2 : ¬ k0 - ((zL tInt x2 : Nat) : Int) < 0 := by omega
      have HK2 : Hid (k0 ≤ 1048576) := Lib.hid (by omega)
      have HZ3 : Hid (((zL tInt x3 : Nat) : Int) ≤ k0 - ((zL tInt x2 : Nat) : Int)) := Lib.hid (by omega)
      have hn3 : ¬ k0 - ((zL tInt x2 : Nat) : Int) - ((zL tInt x3 : Nat) : Int) < 0 := by omega
      have HK3 : Hid (k0 - ((zL tInt x2 : Nat) : Int) ≤ 1048576) := Lib.hid (by omega)
      have HZ4 : Hid (k0 - ((zL tInt x2 : Nat) : Int) - ((zL tInt x3 : Nat) : Int) < ((zL tInt x4 : Nat) : Int)) := Lib.hid (by omega)
      have HP4 : Hid (0 ≤ k0 - ((zL tInt x2 : Nat) : Int) - ((zL tInt x3 : Nat) : Int)) := Lib.hid (by omega)
      have HK4 : Hid (k0 - ((zL tInt x2 : Nat) : Int) - ((zL tInt x3 : Nat) : Int) ≤ 1048576) := Lib.hid (by omega)
      clear hs hk
      clear hp c0 c1
      have hb : Below w.heap.size w (w.alloc (.cells #[.int .i64 a0, .int .i64 a1, v2, v3, v4] 142)) := (Below.refl _ w).alloc (Nat.le_refl _) _
      have g0 : (w.alloc (.cells #[.int .i64 a0, .int .i64 a1, v2, v3, v4] 142)).heap[w.heap.size]? = some (.cells #[.int .i64 a0, .int .i64 a1, v2, v3, v4] 142 (0, 0)) := heap_alloc_new w _
      have hz0 : w.heap.size < (w.alloc (.cells #[.int .i64 a0, .int .i64 a1, v2, v3, v4] 142)).heap.size := by simp
      go_enter Tryz.func97, Tryz.ntmps97
      go_wp2_with fail
      generalize (w.alloc (.cells #[.int .i64 a0, .int .i64 a1, v2, v3, v4] 142)) = W at *
      refine (szIntS_Y v2 x2 (k0) W (slR_below tInt_law H2.out hb) HZ2.out HK2.out).mono ?_
      rintro e W1 ⟨rfl, b1⟩
      replace g0 := (b1.block w.heap.size hz0).trans g0
      replace hz0 := Nat.lt_of_lt_of_le hz0 b1.size
      replace hb := hb.trans (b1.mono hb.size)
      clear b1
      have p3 := (cell_of_row W1 _ 3 _ _ _ g0).trans (show _ = some (v3) from rfl)
      go_wp2_with fail
      clear p3
      refine (szIntS_Y v3 x3 (k0 - ((zL tInt x2 : Nat) : Int)) W1 (slR_below tInt_law H3.out hb) HZ3.out HK3.out).mono ?_
      rintro e W2 ⟨rfl, b1⟩
      replace g0 := (b1.block w.heap.size hz0).trans g0
      replace hz0 := Nat.lt_of_lt_of_le hz0 b1.size
      replace hb := hb.trans (b1.mono hb.size)
      clear b1
      have p4 := (cell_of_row W2 _ 4 _ _ _ g0).trans (show _ = some (v4) from rfl)
      go_wp2_with fail
      clear p4
      refine (szIntS_N v4 x4 (k0 - ((zL tInt x2 : Nat) : Int) - ((zL tInt x3 : Nat) : Int)) W2 (slR_below tInt_law H4.out hb) HZ4.out HK4.out HP4.out HO4.out).mono ?_
      rintro e W3 ⟨rfl, b1⟩
      replace g0 := (b1.block w.heap.size hz0).trans g0
      replace hz0 := Nat.lt_of_lt_of_le hz0 b1.size
      replace hb := hb.trans (b1.mono hb.size)
      clear b1
      go_wp2
      go_ret
      exact ⟨rfl, hb⟩
set_option maxHeartbeats 8000000 in
set_option maxRecDepth 100000 in
theorem toCharge_T (a0 a1 : Int) (v2 v3 v4 : Value) (x2 : List Int) (x3 : List Int) (x4 : List Int) (w : World) (h2 : SlR tInt w v2 x2) (h3 : SlR tInt w v3 x3) (h4 : SlR tInt w v4 x4) (s2 : zL tInt x2 ≤ 1048576) (s3 : zL tInt x3 ≤ 1048576) (s4 : zL tInt x4 ≤ 1048576) :
    Calls Tryz.prog 110 #[.agg #[.int .i64 a0, .int .i64 a1, v2, v3, v4]] w (FreshT tCharge (fun cs => .agg cs.toArray) w (a0, a1, x2, x3, x4)) := by
  have H2 := Lib.hid h2
  have H3 := Lib.hid h3
  have H4 := Lib.hid h4
  clear h2 h3 h4
  have S2 := Lib.hid s2
  have S3 := Lib.hid s3
  have S4 := Lib.hid s4
  clear s2 s3 s4
  go_enter Tryz.func110, Tryz.ntmps110
  go_wp2_with fail
  have hb : Below w.heap.size w (((w.alloc (.cells #[.int .i64 a0, .int .i64 a1, v2, v3, v4] 142)).alloc (.cells #[.int .i64 0, .int .i64 0, .slice none 0 0, .slice none 0 0, .slice none 0 0] 95)).alloc (.cells #[.int .i64 a0, .int .i64 a1, .slice none 0 0, .slice none 0 0, .slice none 0 0] 95)) := (((Below.refl _ w).alloc (Nat.le_refl _) _).alloc (by simp) _).alloc (by simp; omega) _
  have g2 : (((w.alloc (.cells #[.int .i64 a0, .int .i64 a1, v2, v3, v4] 142)).alloc (.cells #[.int .i64 0, .int .i64 0, .slice none 0 0, .slice none 0 0, .slice none 0 0] 95)).alloc (.cells #[.int .i64 a0, .int .i64 a1, .slice none 0 0, .slice none 0 0, .slice none 0 0] 95)).heap[w.heap.size + 1 + 1]? = some (.cells #[.int .i64 a0, .int .i64 a1, .slice none 0 0, .slice none 0 0, .slice none 0 0] 95 (0, 0)) := by
    have := heap_alloc_new ((w.alloc (.cells #[.int .i64 a0, .int .i64 a1, v2, v3, v4] 142)).alloc (.cells #[.int .i64 0, .int .i64 0, .slice none 0 0, .slice none 0 0, .slice none 0 0] 95)) (.cells #[.int .i64 a0, .int .i64 a1, .slice none 0 0, .slice none 0 0, .slice none 0 0] 95)
    simpa only [World.size_alloc] using this
  have g1 : (((w.alloc (.cells #[.int .i64 a0, .int .i64 a1, v2, v3, v4] 142)).alloc (.cells #[.int .i64 0, .int .i64 0, .slice none 0 0, .slice none 0 0, .slice none 0 0] 95)).alloc (.cells #[.int .i64 a0, .int .i64 a1, .slice none 0 0, .slice none 0 0, .slice none 0 0] 95)).heap[w.heap.size + 1]? = some (.cells #[.int .i64 0, .int .i64 0, .slice none 0 0, .slice none 0 0, .slice none 0 0] 95 (0, 0)) := by
    have := heap_alloc_new (w.alloc (.cells #[.int .i64 a0, .int .i64 a1, v2, v3, v4] 142)) (.cells #[.int .i64 0, .int .i64 0, .slice none 0 0, .slice none 0 0, .slice none 0 0] 95)
    rw [Below.heap_alloc _ _ _ (by simp)]
    simpa only [World.size_alloc] using this
  have g0 : (((w.alloc (.cells #[.int .i64 a0, .int .i64 a1, v2, v3, v4] 142)).alloc (.cells #[.int .i64 0, .int .i64 0, .slice none 0 0, .slice none 0 0, .slice none 0 0] 95)).alloc (.cells #[.int .i64 a0, .int .i64 a1, .slice none 0 0, .slice none 0 0, .slice none 0 0] 95)).heap[w.heap.size]? = some (.cells #[.int .i64 a0, .int .i64 a1, v2, v3, v4] 142 (0, 0)) := by
    rw [Below.heap_alloc _ _ _ (by simp; omega), Below.heap_alloc _ _ _ (by simp)]
    exact heap_alloc_new w _
  have hz : w.heap.size + 2 < (((w.alloc (.cells #[.int .i64 a0, .int .i64 a1, v2, v3, v4] 142)).alloc (.cells #[.int .i64 0, .int .i64 0, .slice none 0 0, .slice none 0 0, .slice none 0 0] 95)).alloc (.cells #[.int .i64 a0, .int .i64 a1, .slice none 0 0, .slice none 0 0, .slice none 0 0] 95)).heap.size := by simp [World.size_alloc]
  generalize (((w.alloc (.cells #[.int .i64 a0, .int .i64 a1, v2, v3, v4] 142)).alloc (.cells #[.int .i64 0, .int .i64 0, .slice none 0 0, .slice none 0 0, .slice none 0 0] 95)).alloc (.cells #[.int .i64 a0, .int .i64 a1, .slice none 0 0, .slice none 0 0, .slice none 0 0] 95)) = W at *
  refine (toIntS_S v2 x2 W (slR_below tInt_law H2.out hb) S2.out).mono ?_
  rintro e w1 ⟨u2, rfl, o2, b1⟩
  obtain ⟨ua2, uc2, rfl⟩ := slO_len o2
  replace o2 := slO_mono (slO_lt tInt_law o2) (F' := fun b => W.heap.size ≤ b ∧ b < w1.heap.size) (fun b h => h)
  replace g0 := (b1.block _ (by omega)).trans g0
  replace g1 := (b1.block _ (by omega)).trans g1
  replace g2 := (b1.block _ (by omega)).trans g2
  have zz1 := b1.size
  replace hb := hb.trans (b1.mono (by omega))
  clear b1
  have c2_0 := (cell_of_row w1 _ 0 _ _ _ g2).trans (show _ = some (Value.int .i64 a0) from rfl)
  have f2_0 := frozen_of_row w1 _ 0 _ _ g2
  have c2_1 := (cell_of_row w1 _ 1 _ _ _ g2).trans (show _ = some (Value.int .i64 a1) from rfl)
  have f2_1 := frozen_of_row w1 _ 1 _ _ g2
  have c2_2 := (cell_of_row w1 _ 2 _ _ _ g2).trans (show _ = some (Value.slice none 0 0) from rfl)
  have f2_2 := frozen_of_row w1 _ 2 _ _ g2
  have ne1 : ¬ w.heap.size = w.heap.size + 1 + 1 := by omega
  have ne2 : ¬ w.heap.size + 1 = w.heap.size + 1 + 1 := by omega
  have ne3 : ¬ w.heap.size + 1 + 1 = w.heap.size + 1 := by omega
  have c0_3 := (cell_of_row w1 _ 3 _ _ _ g0).trans (show _ = some (v3) from rfl)
  have l0_3 : (w1.setCell ⟨w.heap.size + 1 + 1, 2, none⟩ (.slice ua2 x2.length uc2)).cell? ⟨w.heap.size, 3, none⟩ = some (v3) := by
    have m : (w1.setCell ⟨w.heap.size + 1 + 1, 2, none⟩ (.slice ua2 x2.length uc2)).heap[w.heap.size]? = some (.cells #[.int .i64 a0, .int .i64 a1, v2, v3, v4] 142 (0, 0)) := by
      repeat rw [heap_setCell_other _ _ _ _ (by simp <;> omega)]
      exact g0
    exact (cell_of_row _ _ 3 _ _ _ m).trans rfl
  go_wp2_with fail
  clear c2_0 f2_0 c2_1 f2_1 c2_2 f2_2 ne1 ne2 ne3 c0_3 l0_3
  have hw : Turn (fun b => b = w.heap.size + 1 + 1) w1 (w1.setCell ⟨w.heap.size + 1 + 1, 2, none⟩ (.slice ua2 x2.length uc2)) := by
    first | exact ((Turn.refl (fun b => b = w.heap.size + 1 + 1) _).trans (turn_set (G := fun b => b = w.heap.size + 1 + 1) (g := w.heap.size + 1 + 1) (j := 2) (u := .slice ua2 x2.length uc2) rfl)) | skip
  replace g0 := (hw.block _ (by omega) (by omega)).trans g0
  replace g1 := (hw.block _ (by omega) (by omega)).trans g1
  have g2n := (heap_setCell_same _ (w.heap.size + 1 + 1) 2 _ _ (.slice ua2 x2.length uc2) g2)
  replace g2 : (w1.setCell ⟨w.heap.size + 1 + 1, 2, none⟩ (.slice ua2 x2.length uc2)).heap[w.heap.size + 1 + 1]? = some (.cells #[.int .i64 a0, .int .i64 a1, .slice ua2 x2.length uc2, .slice none 0 0, .slice none 0 0] 95 (0, 0)) := by simpa using g2n
  clear g2n
  replace o2 := slO_turn tInt_law o2 hw (fun b h1 h2 => by first | (have := h1.1; omega) | (have := q2 b h1; omega))
  replace hb := below_turn hb hw (fun b h => by omega) (by omega)
  have hz0 := hw.size
  clear hw
  generalize (w1.setCell ⟨w.heap.size + 1 + 1, 2, none⟩ (.slice ua2 x2.length uc2)) = W1 at *
  refine (toIntS_S v3 x3 W1 (slR_below tInt_law H3.out hb) S3.out).mono ?_
  rintro e w2 ⟨u3, rfl, o3, b1⟩
  obtain ⟨ua3, uc3, rfl⟩ := slO_len o3
  replace o3 := slO_mono (slO_lt tInt_law o3) (F' := fun b => W1.heap.size ≤ b ∧ b < w2.heap.size) (fun b h => h)
  replace g0 := (b1.block _ (by omega)).trans g0
  replace g1 := (b1.block _ (by omega)).trans g1
  replace g2 := (b1.block _ (by omega)).trans g2
  replace o2 := slO_fresh tInt_law o2 b1
  have zz2 := b1.size
  replace hb := hb.trans (b1.mono (by omega))
  clear b1
  have c2_0 := (cell_of_row w2 _ 0 _ _ _ g2).trans (show _ = some (Value.int .i64 a0) from rfl)
  have f2_0 := frozen_of_row w2 _ 0 _ _ g2
  have c2_1 := (cell_of_row w2 _ 1 _ _ _ g2).trans (show _ = some (Value.int .i64 a1) from rfl)
  have f2_1 := frozen_of_row w2 _ 1 _ _ g2
  have c2_2 := (cell_of_row w2 _ 2 _ _ _ g2).trans (show _ = some (Value.slice ua2 x2.length uc2) from rfl)
  have f2_2 := frozen_of_row w2 _ 2 _ _ g2
  have c2_3 := (cell_of_row w2 _ 3 _ _ _ g2).trans (show _ = some (Value.slice none 0 0) from rfl)
  have f2_3 := frozen_of_row w2 _ 3 _ _ g2
  have ne1 : ¬ w.heap.size = w.heap.size + 1 + 1 := by omega
  have ne2 : ¬ w.heap.size + 1 = w.heap.size + 1 + 1 := by omega
  have ne3 : ¬ w.heap.size + 1 + 1 = w.heap.size + 1 := by omega
  have c0_4 := (cell_of_row w2 _ 4 _ _ _ g0).trans (show _ = some (v4) from rfl)
  have l0_4 : (w2.setCell ⟨w.heap.size + 1 + 1, 3, none⟩ (.slice ua3 x3.length uc3)).cell? ⟨w.heap.size, 4, none⟩ = some (v4) := by
    have m : (w2.setCell ⟨w.heap.size + 1 + 1, 3, none⟩ (.slice ua3 x3.length uc3)).heap[w.heap.size]? = some (.cells #[.int .i64 a0, .int .i64 a1, v2, v3, v4] 142 (0, 0)) := by
      repeat rw [heap_setCell_other _ _ _ _ (by simp <;> omega)]
      exact g0
    exact (cell_of_row _ _ 4 _ _ _ m).trans rfl
  go_wp2_with fail
  clear c2_0 f2_0 c2_1 f2_1 c2_2 f2_2 c2_3 f2_3 ne1 ne2 ne3 c0_4 l0_4
  have hw : Turn (fun b => b = w.heap.size + 1 + 1) w2 (w2.setCell ⟨w.heap.size + 1 + 1, 3, none⟩ (.slice ua3 x3.length uc3)) := by
    first | exact ((Turn.refl (fun b => b = w.heap.size + 1 + 1) _).trans (turn_set (G := fun b => b = w.heap.size + 1 + 1) (g := w.heap.size + 1 + 1) (j := 3) (u := .slice ua3 x3.length uc3) rfl)) | skip
  replace g0 := (hw.block _ (by omega) (by omega)).trans g0
  replace g1 := (hw.block _ (by omega) (by omega)).trans g1
  have g2n := (heap_setCell_same _ (w.heap.size + 1 + 1) 3 _ _ (.slice ua3 x3.length uc3) g2)
  replace g2 : (w2.setCell ⟨w.heap.size + 1 + 1, 3, none⟩ (.slice ua3 x3.length uc3)).heap[w.heap.size + 1 + 1]? = some (.cells #[.int .i64 a0, .int .i64 a1, .slice ua2 x2.length uc2, .slice ua3 x3.length uc3, .slice none 0 0] 95 (0, 0)) := by simpa using g2n
  clear g2n
  replace o2 := slO_turn tInt_law o2 hw (fun b h1 h2 => by first | (have := h1.1; omega) | (have := q2 b h1; omega))
  replace o3 := slO_turn tInt_law o3 hw (fun b h1 h2 => by first | (have := h1.1; omega) | (have := q3 b h1; omega))
  replace hb := below_turn hb hw (fun b h => by omega) (by omega)
  have hz1 := hw.size
  clear hw
  generalize (w2.setCell ⟨w.heap.size + 1 + 1, 3, none⟩ (.slice ua3 x3.length uc3)) = W2 at *
  refine (toIntS_S v4 x4 W2 (slR_below tInt_law H4.out hb) S4.out).mono ?_
  rintro e w3 ⟨u4, rfl, o4, b1⟩
  obtain ⟨ua4, uc4, rfl⟩ := slO_len o4
  replace o4 := slO_mono (slO_lt tInt_law o4) (F' := fun b => W2.heap.size ≤ b ∧ b < w3.heap.size) (fun b h => h)
  replace g0 := (b1.block _ (by omega)).trans g0
  replace g1 := (b1.block _ (by omega)).trans g1
  replace g2 := (b1.block _ (by omega)).trans g2
  replace o2 := slO_fresh tInt_law o2 b1
  replace o3 := slO_fresh tInt_law o3 b1
  have zz3 := b1.size
  replace hb := hb.trans (b1.mono (by omega))
  clear b1
  have c2_0 := (cell_of_row w3 _ 0 _ _ _ g2).trans (show _ = some (Value.int .i64 a0) from rfl)
  have f2_0 := frozen_of_row w3 _ 0 _ _ g2
  have c2_1 := (cell_of_row w3 _ 1 _ _ _ g2).trans (show _ = some (Value.int .i64 a1) from rfl)
  have f2_1 := frozen_of_row w3 _ 1 _ _ g2
  have c2_2 := (cell_of_row w3 _ 2 _ _ _ g2).trans (show _ = some (Value.slice ua2 x2.length uc2) from rfl)
  have f2_2 := frozen_of_row w3 _ 2 _ _ g2
  have c2_3 := (cell_of_row w3 _ 3 _ _ _ g2).trans (show _ = some (Value.slice ua3 x3.length uc3) from rfl)
  have f2_3 := frozen_of_row w3 _ 3 _ _ g2
  have c2_4 := (cell_of_row w3 _ 4 _ _ _ g2).trans (show _ = some (Value.slice none 0 0) from rfl)
  have f2_4 := frozen_of_row w3 _ 4 _ _ g2
  have ne1 : ¬ w.heap.size = w.heap.size + 1 + 1 := by omega
  have ne2 : ¬ w.heap.size + 1 = w.heap.size + 1 + 1 := by omega
  have ne3 : ¬ w.heap.size + 1 + 1 = w.heap.size + 1 := by omega
  have c1_0 := (cell_of_row w3 _ 0 _ _ _ g1).trans (show _ = some (Value.int .i64 0) from rfl)
  have f1_0 := frozen_of_row w3 _ 0 _ _ g1
  have c1_1 := (cell_of_row w3 _ 1 _ _ _ g1).trans (show _ = some (Value.int .i64 0) from rfl)
  have f1_1 := frozen_of_row w3 _ 1 _ _ g1
  have c1_2 := (cell_of_row w3 _ 2 _ _ _ g1).trans (show _ = some (Value.slice none 0 0) from rfl)
  have f1_2 := frozen_of_row w3 _ 2 _ _ g1
  have c1_3 := (cell_of_row w3 _ 3 _ _ _ g1).trans (show _ = some (Value.slice none 0 0) from rfl)
  have f1_3 := frozen_of_row w3 _ 3 _ _ g1
  have c1_4 := (cell_of_row w3 _ 4 _ _ _ g1).trans (show _ = some (Value.slice none 0 0) from rfl)
  have f1_4 := frozen_of_row w3 _ 4 _ _ g1
  go_wp2
  clear c2_0 f2_0 c2_1 f2_1 c2_2 f2_2 c2_3 f2_3 c2_4 f2_4 ne1 ne2 ne3 c1_0 f1_0 c1_1 f1_1 c1_2 f1_2 c1_3 f1_3 c1_4 f1_4
  have hw : Turn (fun b => b = w.heap.size + 1 ∨ b = w.heap.size + 1 + 1) w3 ((((((w3.setCell ⟨w.heap.size + 1 + 1, 4, none⟩ (.slice ua4 x4.length uc4)).setCell ⟨w.heap.size + 1, 0, none⟩ (.int .i64 a0)).setCell ⟨w.heap.size + 1, 1, none⟩ (.int .i64 a1)).setCell ⟨w.heap.size + 1, 2, none⟩ (.slice ua2 x2.length uc2)).setCell ⟨w.heap.size + 1, 3, none⟩ (.slice ua3 x3.length uc3)).setCell ⟨w.heap.size + 1, 4, none⟩ (.slice ua4 x4.length uc4)) := by
    first | exact (((((((Turn.refl _ _).trans (turn_set (g := w.heap.size + 1 + 1) (j := 4) (u := .slice ua4 x4.length uc4) (Or.inr rfl))).trans (turn_set (g := w.heap.size + 1) (j := 0) (u := .int .i64 a0) (Or.inl rfl))).trans (turn_set (g := w.heap.size + 1) (j := 1) (u := .int .i64 a1) (Or.inl rfl))).trans (turn_set (g := w.heap.size + 1) (j := 2) (u := .slice ua2 x2.length uc2) (Or.inl rfl))).trans (turn_set (g := w.heap.size + 1) (j := 3) (u := .slice ua3 x3.length uc3) (Or.inl rfl))).trans (turn_set (g := w.heap.size + 1) (j := 4) (u := .slice ua4 x4.length uc4) (Or.inl rfl))) | skip
  have r := (heap_setCell_same _ (w.heap.size + 1) 4 _ _ (.slice ua4 x4.length uc4) (heap_setCell_same _ (w.heap.size + 1) 3 _ _ (.slice ua3 x3.length uc3) (heap_setCell_same _ (w.heap.size + 1) 2 _ _ (.slice ua2 x2.length uc2) (heap_setCell_same _ (w.heap.size + 1) 1 _ _ (.int .i64 a1) (heap_setCell_same _ (w.heap.size + 1) 0 _ _ (.int .i64 a0) ((heap_setCell_other _ ⟨w.heap.size + 1 + 1, 4, none⟩ (w.heap.size + 1) (.slice ua4 x4.length uc4) (by simp)).trans g1))))))
  have e0 := cell_of_row _ _ 0 _ _ _ r
  have e1 := cell_of_row _ _ 1 _ _ _ r
  have e2 := cell_of_row _ _ 2 _ _ _ r
  have e3 := cell_of_row _ _ 3 _ _ _ r
  have e4 := cell_of_row _ _ 4 _ _ _ r
  simp at e0 e1 e2 e3 e4
  replace o2 := slO_turn tInt_law o2 hw (fun b h1 h2 => by first | (have := h1.1; omega) | (have := q2 b h1; omega))
  replace o3 := slO_turn tInt_law o3 hw (fun b h1 h2 => by first | (have := h1.1; omega) | (have := q3 b h1; omega))
  replace o4 := slO_turn tInt_law o4 hw (fun b h1 h2 => by first | (have := h1.1; omega) | (have := q4 b h1; omega))
  replace hb := below_turn hb hw (fun b h => by omega) (by omega)
  refine bodyPost_ret (v := .agg #[.int .i64 a0, .int .i64 a1, .slice ua2 x2.length uc2, .slice ua3 x3.length uc3, .slice ua4 x4.length uc4]) ?_ rfl ?_
  · simp [results, Tryz.f110, go_sem, e0, e1, e2, e3, e4]
  · exact ⟨[.int .i64 a0, .int .i64 a1, .slice ua2 x2.length uc2, .slice ua3 x3.length uc3, .slice ua4 x4.length uc4], rfl, tCharge_mkO o2 o3 o4 (fun b h => by show w.heap.size ≤ b; first | (have := h.1; omega) | (have := q2 b h; omega)) (fun b h => by show w.heap.size ≤ b; first | (have := h.1; omega) | (have := q3 b h; omega)) (fun b h => by show w.heap.size ≤ b; first | (have := h.1; omega) | (have := q4 b h; omega)) (fun b h1 h2 => by first | exact d2_3 b h1 h2 | (have := h1.1; have := h1.2; have := h2.1; have := h2.2; omega) | (have := q2 b h1; have := h2.1; have := h2.2; omega) | (have := h1.1; have := h1.2; have := q3 b h2; omega) | (have := q2 b h1; have := q3 b h2; omega)) (fun b h1 h2 => by first | exact d2_4 b h1 h2 | (have := h1.1; have := h1.2; have := h2.1; have := h2.2; omega) | (have := q2 b h1; have := h2.1; have := h2.2; omega) | (have := h1.1; have := h1.2; have := q4 b h2; omega) | (have := q2 b h1; have := q4 b h2; omega)) (fun b h1 h2 => by first | exact d3_4 b h1 h2 | (have := h1.1; have := h1.2; have := h2.1; have := h2.2; omega) | (have := q3 b h1; have := h2.1; have := h2.2; omega) | (have := h1.1; have := h1.2; have := q4 b h2; omega) | (have := q3 b h1; have := q4 b h2; omega)), hb⟩
set_option maxHeartbeats 8000000 in
set_option maxRecDepth 100000 in
theorem eqCharge_T (a0 a1 : Int) (v2 v3 v4 : Value) (x2 : List Int) (x3 : List Int) (x4 : List Int) (u2 u3 u4 : Value) (w : World) (h2 : SlR tInt w v2 x2) (h3 : SlR tInt w v3 x3) (h4 : SlR tInt w v4 x4) (g2 : SlR tInt w u2 x2) (g3 : SlR tInt w u3 x3) (g4 : SlR tInt w u4 x4) (s2 : zL tInt x2 ≤ 1048576) (s3 : zL tInt x3 ≤ 1048576) (s4 : zL tInt x4 ≤ 1048576) :
    Calls Tryz.prog 126 #[.agg #[.int .i64 a0, .int .i64 a1, v2, v3, v4], .agg #[.int .i64 a0, .int .i64 a1, u2, u3, u4]] w fun e w' => e = .returned (.bool true) ∧ Below w.heap.size w w' := by
  have H2 := Lib.hid h2; have G2 := Lib.hid g2; have S2 := Lib.hid s2
  have H3 := Lib.hid h3; have G3 := Lib.hid g3; have S3 := Lib.hid s3
  have H4 := Lib.hid h4; have G4 := Lib.hid g4; have S4 := Lib.hid s4
  clear h2 g2 s2 h3 g3 s3 h4 g4 s4
  have e0 : (a0 != a0) = false := by simp
  have e1 : (a1 != a1) = false := by simp
  go_enter Tryz.func126, Tryz.ntmps126
  go_wp2_with fail
  have hb : Below w.heap.size w ((w.alloc (.cells #[.int .i64 a0, .int .i64 a1, v2, v3, v4] 95)).alloc (.cells #[.int .i64 a0, .int .i64 a1, u2, u3, u4] 95)) := ((Below.refl _ w).alloc (Nat.le_refl _) _).alloc (by simp) _
  have g1 : ((w.alloc (.cells #[.int .i64 a0, .int .i64 a1, v2, v3, v4] 95)).alloc (.cells #[.int .i64 a0, .int .i64 a1, u2, u3, u4] 95)).heap[w.heap.size + 1]? = some (.cells #[.int .i64 a0, .int .i64 a1, u2, u3, u4] 95 (0, 0)) := by
    have := heap_alloc_new (w.alloc (.cells #[.int .i64 a0, .int .i64 a1, v2, v3, v4] 95)) (.cells #[.int .i64 a0, .int .i64 a1, u2, u3, u4] 95)
    simpa only [World.size_alloc] using this
  have g0 : ((w.alloc (.cells #[.int .i64 a0, .int .i64 a1, v2, v3, v4] 95)).alloc (.cells #[.int .i64 a0, .int .i64 a1, u2, u3, u4] 95)).heap[w.heap.size]? = some (.cells #[.int .i64 a0, .int .i64 a1, v2, v3, v4] 95 (0, 0)) := by
    rw [Below.heap_alloc _ _ _ (by simp)]
    exact heap_alloc_new w _
  have hz : w.heap.size + 1 < ((w.alloc (.cells #[.int .i64 a0, .int .i64 a1, v2, v3, v4] 95)).alloc (.cells #[.int .i64 a0, .int .i64 a1, u2, u3, u4] 95)).heap.size := by simp [World.size_alloc]
  generalize ((w.alloc (.cells #[.int .i64 a0, .int .i64 a1, v2, v3, v4] 95)).alloc (.cells #[.int .i64 a0, .int .i64 a1, u2, u3, u4] 95)) = W at *
  refine (eqIntS_S v2 u2 x2 W (slR_below tInt_law H2.out hb) (slR_below tInt_law G2.out hb) S2.out).mono ?_
  rintro e w1 ⟨rfl, b1⟩
  replace g0 := (b1.block _ (by omega)).trans g0
  replace g1 := (b1.block _ (by omega)).trans g1
  have zz0 := b1.size
  replace hb := hb.trans (b1.mono (by omega))
  clear b1
  have p0_3 := (cell_of_row w1 _ 3 _ _ _ g0).trans (show _ = some (v3) from rfl)
  have p1_3 := (cell_of_row w1 _ 3 _ _ _ g1).trans (show _ = some (u3) from rfl)
  go_wp2_with fail
  clear p0_3 p1_3
  refine (eqIntS_S v3 u3 x3 w1 (slR_below tInt_law H3.out hb) (slR_below tInt_law G3.out hb) S3.out).mono ?_
  rintro e w2 ⟨rfl, b1⟩
  replace g0 := (b1.block _ (by omega)).trans g0
  replace g1 := (b1.block _ (by omega)).trans g1
  have zz1 := b1.size
  replace hb := hb.trans (b1.mono (by omega))
  clear b1
  have p0_4 := (cell_of_row w2 _ 4 _ _ _ g0).trans (show _ = some (v4) from rfl)
  have p1_4 := (cell_of_row w2 _ 4 _ _ _ g1).trans (show _ = some (u4) from rfl)
  go_wp2_with fail
  clear p0_4 p1_4
  refine (eqIntS_S v4 u4 x4 w2 (slR_below tInt_law H4.out hb) (slR_below tInt_law G4.out hb) S4.out).mono ?_
  rintro e w3 ⟨rfl, b1⟩
  replace g0 := (b1.block _ (by omega)).trans g0
  replace g1 := (b1.block _ (by omega)).trans g1
  have zz2 := b1.size
  replace hb := hb.trans (b1.mono (by omega))
  clear b1
  go_wp2
  go_ret
  exact ⟨rfl, hb⟩
end Go.Proofs.YtdhglmoanpkeoaaGreatDoor
namespace Go.Proofs.YtdhglmoanpkeoaaGreatDoor
open Go.RowKit
set_option linter.unusedVariables false
set_option linter.unusedSimpArgs false
abbrev tChargeS : Ty (List (Int × Int × List Int × List Int × List Int)) := tSl 95 tCharge
theorem tChargeS_law : tChargeS.Law := tSl_law tCharge_law (by decide)
set_option maxHeartbeats 8000000 in
set_option maxRecDepth 100000 in
theorem szChargeS_Y (v : Value) (xs : List (Int × Int × List Int × List Int × List Int)) (k0 : Int) (w : World) (h : SlR tCharge w v xs) (hs : ((zL tCharge xs : Nat) : Int) ≤ k0) (hk : k0 ≤ 1048576) :
    Calls Tryz.prog 38 #[v, .int .i64 k0] w fun e w' => e = .returned (.int .i64 (k0 - ((zL tCharge xs : Nat) : Int))) ∧ Below w.heap.size w w' := by
  have H := Lib.hid h
  obtain ⟨a, cap, rfl⟩ := slR_len h
  clear h
  have h00 := zTo_le (T := tCharge) (xs := xs) (Nat.zero_le _)
  rw [zTo_zero] at h00
  have HS := Lib.hid hs
  go_enter Tryz.func38, Tryz.ntmps38
  have hneg : ¬ k0 - (xs.length : Int) < 0 := by omega
  go_wp2
  clear hneg
  go_loopw [1, 5] (fun l i wr => ∃ k : Nat, k ≤ xs.length ∧ i = .int .i64 k ∧ l = .int .i64 (k0 - (zTo tCharge xs k : Int)) ∧ Below w.heap.size w wr) (fun _ i _ => xs.length - (intOf i).toNat)
  case atStart => exact ⟨0, Nat.zero_le _, rfl, by rw [zTo_zero], Below.refl _ _⟩
  case round =>
    obtain ⟨k, hk', rfl, rfl, hbel⟩ := hrel
    by_cases hlt : k < xs.length
    · have HST := Lib.hid (zTo_step (T := tCharge) hlt)
      have HLE := Lib.hid (zTo_le (T := tCharge) (xs := xs) (k := k + 1) (by omega))
      have i1 : (0 : Int) ≤ (k : Int) := by omega
      have i2 : (k : Int) < (xs.length : Int) := by omega
      obtain ⟨b, off, cap', cs, hv, hbl, hcs, hR⟩ := slR_at (slR_below tCharge_law H.out hbel) hlt
      simp only [Value.slice.injEq] at hv
      obtain ⟨rfl, _, rfl⟩ := hv
      generalize xs.getD k tCharge.d = x at *
      obtain ⟨a0, a1, x2, x3, x4⟩ := x
      obtain ⟨v2, v3, v4, hR'⟩ := tCharge_R hR
      obtain ⟨rfl, h2, h3, h4⟩ := hR'
      have p0 : wr.cell? ⟨b, off + k * 5, none⟩ = some (Value.int .i64 a0) := hcs 0 (by decide)
      have p1 : wr.cell? ⟨b, off + k * 5 + 1, none⟩ = some (Value.int .i64 a1) := hcs 1 (by decide)
      have p2 : wr.cell? ⟨b, off + k * 5 + 2, none⟩ = some (v2) := hcs 2 (by decide)
      have p3 : wr.cell? ⟨b, off + k * 5 + 3, none⟩ = some (v3) := hcs 3 (by decide)
      have p4 : wr.cell? ⟨b, off + k * 5 + 4, none⟩ = some (v4) := hcs 4 (by decide)
      clear hcs
      have HQ : Hid (tCharge.sz (a0, a1, x2, x3, x4) = zL tInt x2 + zL tInt x3 + zL tInt x4) := Lib.hid tCharge_sz
      have hx1 : ((zL tInt x2 + zL tInt x3 + zL tInt x4 : Nat) : Int) ≤ k0 - (zTo tCharge xs k : Int) := by have := HST.out; have := HLE.out; have := HQ.out; omega
      have hx2 : k0 - (zTo tCharge xs k : Int) ≤ 1048576 := by omega
      have hneg : ¬ k0 - (zTo tCharge xs k : Int) - ((zL tInt x2 + zL tInt x3 + zL tInt x4 : Nat) : Int) < 0 := by omega
      have HC := Lib.hid (fun W b => szCharge_Y a0 a1 v2 v3 v4 x2 x3 x4 (k0 - (zTo tCharge xs k : Int)) W (slR_below tInt_law h2 b) (slR_below tInt_law h3 b) (slR_below tInt_law h4 b) hx1 hx2)
      go_wp2_with fail
      refine (HC.out _ (Below.refl _ _)).mono ?_
      rintro e w1 ⟨rfl, b1⟩
      have b2 := hbel.trans (b1.mono hbel.size)
      go_wp2
      go_roundw
      case rel => exact ⟨k + 1, by omega, by go_num, by rw [HST.out, HQ.out]; go_num, b2⟩
      case measure => simp [intOf]; omega
    · obtain rfl : k = xs.length := by omega
      go_wp2
      go_ret
      exact ⟨rfl, hbel⟩
set_option maxHeartbeats 8000000 in
set_option maxRecDepth 100000 in
theorem szChargeS_N (v : Value) (xs : List (Int × Int × List Int × List Int × List Int)) (k0 : Int) (w : World) (h : SlR tCharge w v xs) (hs : k0 < ((zL tCharge xs : Nat) : Int)) (hk : k0 ≤ 1048576) (hp : 0 ≤ k0) (ho : tChargeS.ok xs) :
    Calls Tryz.prog 38 #[v, .int .i64 k0] w fun e w' => e = .returned (.int .i64 (-1)) ∧ Below w.heap.size w w' := by
  have H := Lib.hid h
  have HX := Lib.hid ho.2
  have hn := ho.1
  have HS := Lib.hid hs
  obtain ⟨a, cap, rfl⟩ := slR_len h
  clear h ho hs
  by_cases h1 : k0 < (xs.length : Int)
  · have hneg : k0 - (xs.length : Int) < 0 := by omega
    go_enter Tryz.func38, Tryz.ntmps38
    go_wp2
    go_ret
    exact ⟨rfl, Below.refl _ _⟩
  · go_enter Tryz.func38, Tryz.ntmps38
    have hneg : ¬ k0 - (xs.length : Int) < 0 := by omega
    go_wp2
    clear hneg
    go_loopw [1, 5] (fun l i wr => ∃ k : Nat, k ≤ xs.length ∧ i = .int .i64 k ∧ l = .int .i64 (k0 - (zTo tCharge xs k : Int)) ∧ (zTo tCharge xs k : Int) ≤ k0 ∧ Below w.heap.size w wr) (fun _ i _ => xs.length - (intOf i).toNat)
    case atStart => exact ⟨0, Nat.zero_le _, rfl, by rw [zTo_zero], by rw [zTo_zero]; omega, Below.refl _ _⟩
    case round =>
      obtain ⟨k, hk', rfl, rfl, hle, hbel⟩ := hrel
      by_cases hlt : k < xs.length
      · have HST := Lib.hid (zTo_step (T := tCharge) hlt)
        have hx := HX.out k hlt
        have i1 : (0 : Int) ≤ (k : Int) := by omega
        have i2 : (k : Int) < (xs.length : Int) := by omega
        obtain ⟨b, off, cap', cs, hv, hbl, hcs, hR⟩ := slR_at (slR_below tCharge_law H.out hbel) hlt
        simp only [Value.slice.injEq] at hv
        obtain ⟨rfl, _, rfl⟩ := hv
        generalize xs.getD k tCharge.d = x at *
        obtain ⟨a0, a1, x2, x3, x4⟩ := x
        obtain ⟨v2, v3, v4, hR'⟩ := tCharge_R hR
        obtain ⟨rfl, h2, h3, h4⟩ := hR'
        have p0 : wr.cell? ⟨b, off + k * 5, none⟩ = some (Value.int .i64 a0) := hcs 0 (by decide)
        have p1 : wr.cell? ⟨b, off + k * 5 + 1, none⟩ = some (Value.int .i64 a1) := hcs 1 (by decide)
        have p2 : wr.cell? ⟨b, off + k * 5 + 2, none⟩ = some (v2) := hcs 2 (by decide)
        have p3 : wr.cell? ⟨b, off + k * 5 + 3, none⟩ = some (v3) := hcs 3 (by decide)
        have p4 : wr.cell? ⟨b, off + k * 5 + 4, none⟩ = some (v4) := hcs 4 (by decide)
        clear hcs
        have HQ : Hid (tCharge.sz (a0, a1, x2, x3, x4) = zL tInt x2 + zL tInt x3 + zL tInt x4) := Lib.hid tCharge_sz
        obtain ⟨_, ⟨_, ⟨o2, ⟨o3, o4⟩⟩⟩⟩ := hx
        have hz0 : (0 : Int) ≤ (zTo tCharge xs k : Int) := by omega
        by_cases hg : ((zL tInt x2 + zL tInt x3 + zL tInt x4 : Nat) : Int) ≤ k0 - (zTo tCharge xs k : Int)
        · have hx2 : k0 - (zTo tCharge xs k : Int) ≤ 1048576 := by omega
          have hneg : ¬ k0 - (zTo tCharge xs k : Int) - ((zL tInt x2 + zL tInt x3 + zL tInt x4 : Nat) : Int) < 0 := by omega
          have HC := Lib.hid (fun W b => szCharge_Y a0 a1 v2 v3 v4 x2 x3 x4 (k0 - (zTo tCharge xs k : Int)) W (slR_below tInt_law h2 b) (slR_below tInt_law h3 b) (slR_below tInt_law h4 b) hg hx2)
          go_wp2_with fail
          refine (HC.out _ (Below.refl _ _)).mono ?_
          rintro e w1 ⟨rfl, b1⟩
          have b2 := hbel.trans (b1.mono hbel.size)
          go_wp2
          go_roundw
          case rel => exact ⟨k + 1, by omega, by go_num, by rw [HST.out, HQ.out]; go_num, by rw [HST.out, HQ.out]; omega, b2⟩
          case measure => simp [intOf]; omega
        · have hx1 : k0 - (zTo tCharge xs k : Int) < ((zL tInt x2 + zL tInt x3 + zL tInt x4 : Nat) : Int) := by omega
          have hx0 : 0 ≤ k0 - (zTo tCharge xs k : Int) := by omega
          have hx2 : k0 - (zTo tCharge xs k : Int) ≤ 1048576 := by omega
          have HC := Lib.hid (fun W b => szCharge_N a0 a1 v2 v3 v4 x2 x3 x4 (k0 - (zTo tCharge xs k : Int)) W (slR_below tInt_law h2 b) (slR_below tInt_law h3 b) (slR_below tInt_law h4 b) hx1 hx2 hx0 o2 o3 o4)
          clear hg
          go_wp2_with fail
          refine (HC.out _ (Below.refl _ _)).mono ?_
          rintro e w1 ⟨rfl, b1⟩
          have b2 := hbel.trans (b1.mono hbel.size)
          go_wp2
          go_ret
          exact ⟨rfl, b2⟩
      · obtain rfl : k = xs.length := by omega
        exact absurd HS.out (by show ¬ k0 < ((zTo tCharge xs xs.length : Nat) : Int); omega)
theorem Tryz.info_Charge : (Tryz.prog.info? 95).map (fun i => (i.zero, i.size)) = some (some (.agg #[.int .i64 0, .int .i64 0, .slice none 0 0, .slice none 0 0, .slice none 0 0]), 5) := by kernel_rfl
theorem Tryz.bytes_Charge : ((Tryz.prog.info? 95).map (fun i => decide (i.bytes ≤ 512))) = some true := by kernel_rfl
theorem tCharge_zero (w : World) : tCharge.O w (fun _ => False) #[.int .i64 0, .int .i64 0, .slice none 0 0, .slice none 0 0, .slice none 0 0].toList tCharge.d := tCharge_mkO (slO_nil _ _ _ (fun _ => False)) (slO_nil _ _ _ (fun _ => False)) (slO_nil _ _ _ (fun _ => False)) (fun b h => h) (fun b h => h) (fun b h => h) (fun b h _ => h) (fun b h _ => h) (fun b h _ => h)
set_option maxHeartbeats 8000000 in
set_option maxRecDepth 100000 in
theorem toChargeS_S (v : Value) (xs : List (Int × Int × List Int × List Int × List Int)) (w : World) (h : SlR tCharge w v xs) (hs : zL tCharge xs ≤ 1048576) :
    Calls Tryz.prog 49 #[v] w (FreshS 95 tCharge w xs) := by
  obtain ⟨i0, hi, hz0, hz1⟩ : ∃ i0, Tryz.prog.info? 95 = some i0 ∧ i0.zero = some (.agg #[.int .i64 0, .int .i64 0, .slice none 0 0, .slice none 0 0, .slice none 0 0]) ∧ i0.size = 5 := by
    have h0 := Tryz.info_Charge
    cases q : Tryz.prog.info? 95 with
    | none => rw [q] at h0; simp at h0
    | some i => rw [q] at h0; simp only [Option.map_some, Option.some.injEq, Prod.mk.injEq] at h0; exact ⟨i, rfl, h0.1, h0.2⟩
  have hz2 : i0.bytes ≤ 512 := by
    have h0 := Tryz.bytes_Charge
    rw [hi] at h0
    simpa using h0
  have HI := Lib.hid hi; have HZ0 := Lib.hid hz0; have HZ1 := Lib.hid hz1; have HZ2 := Lib.hid hz2
  clear hi hz0 hz1 hz2
  have H := Lib.hid h
  have hlen := zL_len hs
  have HS := Lib.hid hs
  obtain ⟨a, cap, rfl⟩ := slR_len h
  clear h hs
  go_enter Tryz.func49, Tryz.ntmps49
  go_wp2_with (at_make; refine wpList_make_full _ rfl (.tmp 6) (.tmp 6) 38 rfl w.heap.size 95 i0 (.agg #[.int .i64 0, .int .i64 0, .slice none 0 0, .slice none 0 0, .slice none 0 0]) 5 Tryz.underlying38 HI.out HZ0.out HZ1.out _ _ _ _ xs.length rfl rfl rfl rfl (by have h9 := Nat.mul_le_mul HZ2.out hlen; have h8 := Nat.mul_le_mul hlen HZ2.out; omega) (by unfold maxLen; omega) (Nat.le_refl _) ?_)
  intro w1 hown0 hg0
  have hown1 : SlO 95 tCharge w1 (since w) (.slice (some ⟨w.heap.size, 0, none⟩) xs.length xs.length) (List.replicate xs.length tCharge.d) := slO_made (z := #[.int .i64 0, .int .i64 0, .slice none 0 0, .slice none 0 0, .slice none 0 0]) tCharge_law rfl (tCharge_zero w1) (Nat.le_refl _) hown0
  have hbel1 := (Below.refl w.heap.size w).grown hg0 (Nat.le_refl _) (fun k hk => by cases hk)
  clear hown0 hg0
  go_wp2
  go_loopw [4] (fun i wr => ∃ k : Nat, k ≤ xs.length ∧ i = .int .i64 k ∧ SlO 95 tCharge wr (since w) (.slice (some ⟨w.heap.size, 0, none⟩) xs.length xs.length) (xs.take k ++ List.replicate (xs.length - k) tCharge.d) ∧ Below w.heap.size w wr) (fun i _ => xs.length - (intOf i).toNat)
  case atStart => exact ⟨0, Nat.zero_le _, rfl, by simpa using hown1, hbel1⟩
  case round =>
    obtain ⟨k, hk, rfl, hown, hbel⟩ := hrel
    by_cases hlt : k < xs.length
    · have HSET := Lib.hid (cTo_step (d := tCharge.d) hlt)
      have HKL : Hid (k < (xs.take k ++ List.replicate (xs.length - k) tCharge.d).length) := Lib.hid (by rw [cTo_len hk]; exact hlt)
      have HLL := Lib.hid (cTo_len (d := tCharge.d) hk)
      have i1 : (0 : Int) ≤ (k : Int) := by omega
      have i2 : (k : Int) < (xs.length : Int) := by omega
      have hzx := zL_at HS.out hlt
      obtain ⟨b, off, cap', cs, hv, hbl, hcs, hR⟩ := slR_at (slR_below tCharge_law H.out hbel) hlt
      simp only [Value.slice.injEq] at hv
      obtain ⟨rfl, _, rfl⟩ := hv
      obtain ⟨hme, hFg, hgl, cj, Fj, Lc, hrow, hLc, hO, hFj, hput⟩ := slO_open tCharge_law hown HKL.out
      clear hme
      clear hown1 hbel1
      generalize xs.getD k tCharge.d = x at *
      generalize xs.take k ++ List.replicate (xs.length - k) tCharge.d = ys at *
      obtain ⟨a0, a1, x2, x3, x4⟩ := x
      obtain ⟨v2, v3, v4, hR'⟩ := tCharge_R hR
      obtain ⟨rfl, h2, h3, h4⟩ := hR'
      have p0 : wr.cell? ⟨b, off + k * 5, none⟩ = some (Value.int .i64 a0) := hcs 0 (by decide)
      have p1 : wr.cell? ⟨b, off + k * 5 + 1, none⟩ = some (Value.int .i64 a1) := hcs 1 (by decide)
      have p2 : wr.cell? ⟨b, off + k * 5 + 2, none⟩ = some (v2) := hcs 2 (by decide)
      have p3 : wr.cell? ⟨b, off + k * 5 + 3, none⟩ = some (v3) := hcs 3 (by decide)
      have p4 : wr.cell? ⟨b, off + k * 5 + 4, none⟩ = some (v4) := hcs 4 (by decide)
      rw [tCharge_sz] at hzx
      have S2 := Lib.hid (show zL tInt x2 ≤ 1048576 by omega)
      have S3 := Lib.hid (show zL tInt x3 ≤ 1048576 by omega)
      have S4 := Lib.hid (show zL tInt x4 ≤ 1048576 by omega)
      have HC := Lib.hid (fun w g2 g3 g4 => toCharge_T a0 a1 v2 v3 v4 x2 x3 x4 w g2 g3 g4 S2.out S3.out S4.out)
      have G2 := Lib.hid h2
      have G3 := Lib.hid h3
      have G4 := Lib.hid h4
      clear hcs hzx h2 h3 h4
      go_wp2_with fail
      refine (HC.out _ G2.out G3.out G4.out).mono ?_
      rintro e w2 ⟨cv, rfl, ow, b2⟩
      replace ow := tCharge_law.lt ow
      have ow2 := ow
      obtain ⟨u2, u3, u4, K2, K3, K4, rfl, o2, o3, o4, _, _, _, _, _, _⟩ := tCharge_O ow2
      obtain ⟨ua2, uc2, rfl⟩ := slO_len o2
      obtain ⟨ua3, uc3, rfl⟩ := slO_len o3
      obtain ⟨ua4, uc4, rfl⟩ := slO_len o4
      clear o2 o3 o4
      have r0 := row_turn (G := fun _ => False) hrow (turn_below b2) (fun _ _ => not_false)
      rw [HLL.out] at r0
      have q0 : ∃ x, w2.cell? ⟨w.heap.size, k * 5, none⟩ = some x := ⟨_, (World.ownsRow.cellAt r0 (k * 5) (by have := HKL.out; rw [HLL.out] at this; show _ < xs.length * 5; omega)).trans (List.getElem?_eq_getElem (by have h1 : Lc.length = xs.length * 5 := r0.1; omega))⟩
      obtain ⟨y0, q0⟩ := q0
      have f0 := World.ownsRow.frozenAt r0 (k * 5)
      have q1 : ∃ x, w2.cell? ⟨w.heap.size, k * 5 + 1, none⟩ = some x := ⟨_, (World.ownsRow.cellAt r0 (k * 5 + 1) (by have := HKL.out; rw [HLL.out] at this; show _ < xs.length * 5; omega)).trans (List.getElem?_eq_getElem (by have h1 : Lc.length = xs.length * 5 := r0.1; omega))⟩
      obtain ⟨y1, q1⟩ := q1
      have f1 := World.ownsRow.frozenAt r0 (k * 5 + 1)
      have q2 : ∃ x, w2.cell? ⟨w.heap.size, k * 5 + 2, none⟩ = some x := ⟨_, (World.ownsRow.cellAt r0 (k * 5 + 2) (by have := HKL.out; rw [HLL.out] at this; show _ < xs.length * 5; omega)).trans (List.getElem?_eq_getElem (by have h1 : Lc.length = xs.length * 5 := r0.1; omega))⟩
      obtain ⟨y2, q2⟩ := q2
      have f2 := World.ownsRow.frozenAt r0 (k * 5 + 2)
      have q3 : ∃ x, w2.cell? ⟨w.heap.size, k * 5 + 3, none⟩ = some x := ⟨_, (World.ownsRow.cellAt r0 (k * 5 + 3) (by have := HKL.out; rw [HLL.out] at this; show _ < xs.length * 5; omega)).trans (List.getElem?_eq_getElem (by have h1 : Lc.length = xs.length * 5 := r0.1; omega))⟩
      obtain ⟨y3, q3⟩ := q3
      have f3 := World.ownsRow.frozenAt r0 (k * 5 + 3)
      have q4 : ∃ x, w2.cell? ⟨w.heap.size, k * 5 + 4, none⟩ = some x := ⟨_, (World.ownsRow.cellAt r0 (k * 5 + 4) (by have := HKL.out; rw [HLL.out] at this; show _ < xs.length * 5; omega)).trans (List.getElem?_eq_getElem (by have h1 : Lc.length = xs.length * 5 := r0.1; omega))⟩
      obtain ⟨y4, q4⟩ := q4
      have f4 := World.ownsRow.frozenAt r0 (k * 5 + 4)
      have b3 := hbel.trans (b2.mono hbel.size)
      have B3 := Lib.hid (((((b3.setCell (p := ⟨w.heap.size, k * 5, none⟩) (Nat.le_refl _) (.int .i64 a0)).setCell (p := ⟨w.heap.size, k * 5 + 1, none⟩) (Nat.le_refl _) (.int .i64 a1)).setCell (p := ⟨w.heap.size, k * 5 + 2, none⟩) (Nat.le_refl _) (.slice ua2 x2.length uc2)).setCell (p := ⟨w.heap.size, k * 5 + 3, none⟩) (Nat.le_refl _) (.slice ua3 x3.length uc3)).setCell (p := ⟨w.heap.size, k * 5 + 4, none⟩) (Nat.le_refl _) (.slice ua4 x4.length uc4))
      have hT : Turn (fun b => b = w.heap.size ∨ Fj b ∨ wr.heap.size ≤ b) wr (((((w2.setCell ⟨w.heap.size, k * 5, none⟩ (.int .i64 a0)).setCell ⟨w.heap.size, k * 5 + 1, none⟩ (.int .i64 a1)).setCell ⟨w.heap.size, k * 5 + 2, none⟩ (.slice ua2 x2.length uc2)).setCell ⟨w.heap.size, k * 5 + 3, none⟩ (.slice ua3 x3.length uc3)).setCell ⟨w.heap.size, k * 5 + 4, none⟩ (.slice ua4 x4.length uc4)) := ((((((turn_below b2).trans (turn_set (j := k * 5) (u := .int .i64 a0) (Or.inl rfl))).trans (turn_set (j := k * 5 + 1) (u := .int .i64 a1) (Or.inl rfl))).trans (turn_set (j := k * 5 + 2) (u := .slice ua2 x2.length uc2) (Or.inl rfl))).trans (turn_set (j := k * 5 + 3) (u := .slice ua3 x3.length uc3) (Or.inl rfl))).trans (turn_set (j := k * 5 + 4) (u := .slice ua4 x4.length uc4) (Or.inl rfl)))
      have hT2 : Turn (fun b => b = w.heap.size) w2 (((((w2.setCell ⟨w.heap.size, k * 5, none⟩ (.int .i64 a0)).setCell ⟨w.heap.size, k * 5 + 1, none⟩ (.int .i64 a1)).setCell ⟨w.heap.size, k * 5 + 2, none⟩ (.slice ua2 x2.length uc2)).setCell ⟨w.heap.size, k * 5 + 3, none⟩ (.slice ua3 x3.length uc3)).setCell ⟨w.heap.size, k * 5 + 4, none⟩ (.slice ua4 x4.length uc4)) := ((((((Turn.refl (fun b => b = w.heap.size) _).trans (turn_set (G := fun b => b = w.heap.size) (j := k * 5) (u := .int .i64 a0) rfl)).trans (turn_set (G := fun b => b = w.heap.size) (j := k * 5 + 1) (u := .int .i64 a1) rfl)).trans (turn_set (G := fun b => b = w.heap.size) (j := k * 5 + 2) (u := .slice ua2 x2.length uc2) rfl)).trans (turn_set (G := fun b => b = w.heap.size) (j := k * 5 + 3) (u := .slice ua3 x3.length uc3) rfl)).trans (turn_set (G := fun b => b = w.heap.size) (j := k * 5 + 4) (u := .slice ua4 x4.length uc4) rfl))
      have hO2 := tCharge_law.turn ow hT2 (fun b h1 h2 => by have := h1.1; simp only [since] at this; omega)
      have r9 := (World.ownsRow.stored (World.ownsRow.stored (World.ownsRow.stored (World.ownsRow.stored (World.ownsRow.stored r0 (k * 5) (.int .i64 a0)).1 (k * 5 + 1) (.int .i64 a1)).1 (k * 5 + 2) (.slice ua2 x2.length uc2)).1 (k * 5 + 3) (.slice ua3 x3.length uc3)).1 (k * 5 + 4) (.slice ua4 x4.length uc4)).1
      have hLl : Lc.length = xs.length * 5 := r0.1
      have hst := Lib.hid (hput (((((w2.setCell ⟨w.heap.size, k * 5, none⟩ (.int .i64 a0)).setCell ⟨w.heap.size, k * 5 + 1, none⟩ (.int .i64 a1)).setCell ⟨w.heap.size, k * 5 + 2, none⟩ (.slice ua2 x2.length uc2)).setCell ⟨w.heap.size, k * 5 + 3, none⟩ (.slice ua3 x3.length uc3)).setCell ⟨w.heap.size, k * 5 + 4, none⟩ (.slice ua4 x4.length uc4)) (((((Lc.set (k * 5) (.int .i64 a0)).set (k * 5 + 1) (.int .i64 a1)).set (k * 5 + 2) (.slice ua2 x2.length uc2)).set (k * 5 + 3) (.slice ua3 x3.length uc3)).set (k * 5 + 4) (.slice ua4 x4.length uc4)) [.int .i64 a0, .int .i64 a1, .slice ua2 x2.length uc2, .slice ua3 x3.length uc3, .slice ua4 x4.length uc4] _ (a0, a1, x2, x3, x4) (by rw [HLL.out]; exact r9) (fun p hp => by have hp2 : p < k * 5 ∨ k * 5 + 5 ≤ p := hp; rw [List.getElem?_set_ne (by omega)]; rw [List.getElem?_set_ne (by omega)]; rw [List.getElem?_set_ne (by omega)]; rw [List.getElem?_set_ne (by omega)]; rw [List.getElem?_set_ne (by omega)]) (fun i hi => by have hi' : i < 5 := hi; match i, hi' with | 0, _ => (show ((((((Lc.set (k * 5) (.int .i64 a0)).set (k * 5 + 1) (.int .i64 a1)).set (k * 5 + 2) (.slice ua2 x2.length uc2)).set (k * 5 + 3) (.slice ua3 x3.length uc3)).set (k * 5 + 4) (.slice ua4 x4.length uc4)))[k * 5]? = _; rw [List.getElem?_set_ne (by omega)]; rw [List.getElem?_set_ne (by omega)]; rw [List.getElem?_set_ne (by omega)]; rw [List.getElem?_set_ne (by omega)]; rw [List.getElem?_set_self (by first | omega | (simp only [List.length_set]; omega))]; rfl) | 1, _ => (show ((((((Lc.set (k * 5) (.int .i64 a0)).set (k * 5 + 1) (.int .i64 a1)).set (k * 5 + 2) (.slice ua2 x2.length uc2)).set (k * 5 + 3) (.slice ua3 x3.length uc3)).set (k * 5 + 4) (.slice ua4 x4.length uc4)))[k * 5 + 1]? = _; rw [List.getElem?_set_ne (by omega)]; rw [List.getElem?_set_ne (by omega)]; rw [List.getElem?_set_ne (by omega)]; rw [List.getElem?_set_self (by first | omega | (simp only [List.length_set]; omega))]; rfl) | 2, _ => (show ((((((Lc.set (k * 5) (.int .i64 a0)).set (k * 5 + 1) (.int .i64 a1)).set (k * 5 + 2) (.slice ua2 x2.length uc2)).set (k * 5 + 3) (.slice ua3 x3.length uc3)).set (k * 5 + 4) (.slice ua4 x4.length uc4)))[k * 5 + 2]? = _; rw [List.getElem?_set_ne (by omega)]; rw [List.getElem?_set_ne (by omega)]; rw [List.getElem?_set_self (by first | omega | (simp only [List.length_set]; omega))]; rfl) | 3, _ => (show ((((((Lc.set (k * 5) (.int .i64 a0)).set (k * 5 + 1) (.int .i64 a1)).set (k * 5 + 2) (.slice ua2 x2.length uc2)).set (k * 5 + 3) (.slice ua3 x3.length uc3)).set (k * 5 + 4) (.slice ua4 x4.length uc4)))[k * 5 + 3]? = _; rw [List.getElem?_set_ne (by omega)]; rw [List.getElem?_set_self (by first | omega | (simp only [List.length_set]; omega))]; rfl) | 4, _ => (show ((((((Lc.set (k * 5) (.int .i64 a0)).set (k * 5 + 1) (.int .i64 a1)).set (k * 5 + 2) (.slice ua2 x2.length uc2)).set (k * 5 + 3) (.slice ua3 x3.length uc3)).set (k * 5 + 4) (.slice ua4 x4.length uc4)))[k * 5 + 4]? = _; rw [List.getElem?_set_self (by first | omega | (simp only [List.length_set]; omega))]; rfl)) hO2 (fun b hb => ⟨Nat.le_trans hbel.size hb.1, Or.inr hb.1⟩) hT)
      have hst2 : SlO 95 tCharge (((((w2.setCell ⟨w.heap.size, k * 5, none⟩ (.int .i64 a0)).setCell ⟨w.heap.size, k * 5 + 1, none⟩ (.int .i64 a1)).setCell ⟨w.heap.size, k * 5 + 2, none⟩ (.slice ua2 x2.length uc2)).setCell ⟨w.heap.size, k * 5 + 3, none⟩ (.slice ua3 x3.length uc3)).setCell ⟨w.heap.size, k * 5 + 4, none⟩ (.slice ua4 x4.length uc4)) (since w) (.slice (some ⟨w.heap.size, 0, none⟩) xs.length xs.length) (xs.take (k + 1) ++ List.replicate (xs.length - (k + 1)) tCharge.d) := by have := hst.out; rw [HSET.out] at this; exact this
      have HST := Lib.hid hst2
      clear hst hst2 hT hT2 hO2 r9 r0 hrow hO hput hown hbel b2 ow b3 hLl hLc hFj
      go_wp2
      go_roundw
      case rel => exact ⟨k + 1, by omega, by go_num, HST.out, B3.out⟩
      case measure => simp [intOf]; omega
    · obtain rfl : k = xs.length := by omega
      have HE : Hid (xs.take xs.length ++ List.replicate (xs.length - xs.length) tCharge.d = xs) := Lib.hid (by simp)
      rw [HE.out] at hown
      go_wp2
      go_ret
      exact ⟨_, rfl, hown, hbel⟩
set_option maxHeartbeats 8000000 in
set_option maxRecDepth 100000 in
theorem eqChargeS_S (v u : Value) (xs : List (Int × Int × List Int × List Int × List Int)) (w : World) (h : SlR tCharge w v xs) (g : SlR tCharge w u xs) (hs : zL tCharge xs ≤ 1048576) :
    Calls Tryz.prog 61 #[v, u] w fun e w' => e = .returned (.bool true) ∧ Below w.heap.size w w' := by
  have H := Lib.hid h
  have G := Lib.hid g
  have HS := Lib.hid hs
  have hlen := zL_len hs
  obtain ⟨a, cap, rfl⟩ := slR_len h
  obtain ⟨a2, cap2, rfl⟩ := slR_len g
  clear h g hs
  go_enter Tryz.func61, Tryz.ntmps61
  go_wp2
  go_loopw [5] (fun i wr => ∃ k : Nat, k ≤ xs.length ∧ i = .int .i64 k ∧ Below w.heap.size w wr) (fun i _ => xs.length - (intOf i).toNat)
  case atStart => exact ⟨0, Nat.zero_le _, rfl, Below.refl _ _⟩
  case round =>
    obtain ⟨k, hk, rfl, hbel⟩ := hrel
    by_cases hlt : k < xs.length
    · obtain ⟨b, off, cap', cs, hv, hbl, hcs, hR⟩ := slR_at (slR_below tCharge_law H.out hbel) hlt
      simp only [Value.slice.injEq] at hv
      obtain ⟨rfl, _, rfl⟩ := hv
      obtain ⟨b2, off2, cap2', ds, hv2, hbl2, hds, hQ⟩ := slR_at (slR_below tCharge_law G.out hbel) hlt
      simp only [Value.slice.injEq] at hv2
      obtain ⟨rfl, _, rfl⟩ := hv2
      have hzx := zL_at HS.out hlt
      have i1 : (0 : Int) ≤ (k : Int) := by omega
      have i2 : (k : Int) < (xs.length : Int) := by omega
      generalize xs.getD k tCharge.d = x at *
      obtain ⟨a0, a1, x2, x3, x4⟩ := x
      obtain ⟨v2, v3, v4, hR'⟩ := tCharge_R hR
      obtain ⟨rfl, h2, h3, h4⟩ := hR'
      obtain ⟨u2, u3, u4, hQ'⟩ := tCharge_R hQ
      obtain ⟨rfl, g2, g3, g4⟩ := hQ'
      rw [tCharge_sz] at hzx
      have S2 := Lib.hid (show zL tInt x2 ≤ 1048576 by omega)
      have S3 := Lib.hid (show zL tInt x3 ≤ 1048576 by omega)
      have S4 := Lib.hid (show zL tInt x4 ≤ 1048576 by omega)
      have p0 : wr.cell? ⟨b, off + k * 5, none⟩ = some (Value.int .i64 a0) := hcs 0 (by decide)
      have q0 : wr.cell? ⟨b2, off2 + k * 5, none⟩ = some (Value.int .i64 a0) := hds 0 (by decide)
      have p1 : wr.cell? ⟨b, off + k * 5 + 1, none⟩ = some (Value.int .i64 a1) := hcs 1 (by decide)
      have q1 : wr.cell? ⟨b2, off2 + k * 5 + 1, none⟩ = some (Value.int .i64 a1) := hds 1 (by decide)
      have p2 : wr.cell? ⟨b, off + k * 5 + 2, none⟩ = some (v2) := hcs 2 (by decide)
      have q2 : wr.cell? ⟨b2, off2 + k * 5 + 2, none⟩ = some (u2) := hds 2 (by decide)
      have p3 : wr.cell? ⟨b, off + k * 5 + 3, none⟩ = some (v3) := hcs 3 (by decide)
      have q3 : wr.cell? ⟨b2, off2 + k * 5 + 3, none⟩ = some (u3) := hds 3 (by decide)
      have p4 : wr.cell? ⟨b, off + k * 5 + 4, none⟩ = some (v4) := hcs 4 (by decide)
      have q4 : wr.cell? ⟨b2, off2 + k * 5 + 4, none⟩ = some (u4) := hds 4 (by decide)
      clear hcs hds hzx
      go_wp2
      go_region_with (first | (go_at_call 126; refine (eqCharge_T a0 a1 v2 v3 v4 x2 x3 x4 u2 u3 u4 _ (by exact slR_same tInt_law h2 rfl rfl rfl rfl) (by exact slR_same tInt_law h3 rfl rfl rfl rfl) (by exact slR_same tInt_law h4 rfl rfl rfl rfl) (by exact slR_same tInt_law g2 rfl rfl rfl rfl) (by exact slR_same tInt_law g3 rfl rfl rfl rfl) (by exact slR_same tInt_law g4 rfl rfl rfl rfl) S2.out S3.out S4.out).mono ?_; rintro e w8 ⟨rfl, b9⟩; have b10 : Below wr.heap.size wr w8 := ⟨b9.os, b9.tape, b9.output, b9.size, b9.block⟩))
      all_goals
        have b11 := hbel.trans (b10.mono hbel.size)
        go_wp2
        go_roundw
        case rel => exact ⟨k + 1, by omega, by go_num, b11⟩
        case measure => simp [intOf]; omega
    · go_wp2
      go_ret
      exact ⟨rfl, hbel⟩
end Go.Proofs.YtdhglmoanpkeoaaGreatDoor
namespace Go.Proofs.YtdhglmoanpkeoaaGreatDoor
open Go.RowKit
set_option linter.unusedVariables false
set_option linter.unusedSimpArgs false
def tEngine : Ty ((List (List (Int × List Int × Int × Int)) × Int) × Int × List Int × List ((Int × Int × List (Int × Int × Int) × List Int) × Int × List Int × Int × Int × Int × List (Int × List Int)) × List ((Int × Int × List (Int × Int × Int) × List Int) × Int × Int × List (Int × List Int)) × List (Int × Int × List Int × List Int × List Int) × Int) := tPair tStore (tPair tInt (tPair tIntS (tPair tActiveS (tPair tFinishedS (tPair tChargeS tInt)))))
theorem tEngine_law : tEngine.Law := tPair_law tStore_law (tPair_law tInt_law (tPair_law tIntS_law (tPair_law tActiveS_law (tPair_law tFinishedS_law (tPair_law tChargeS_law tInt_law)))))
theorem tEngine_R {w : World} {cs : List Value} {x0 : List (List (Int × List Int × Int × Int))} {a1 : Int} {a2 : Int} {x3 : List Int} {x4 : List ((Int × Int × List (Int × Int × Int) × List Int) × Int × List Int × Int × Int × Int × List (Int × List Int))} {x5 : List ((Int × Int × List (Int × Int × Int) × List Int) × Int × Int × List (Int × List Int))} {x6 : List (Int × Int × List Int × List Int × List Int)} {a7 : Int} (h : tEngine.R w cs ((x0, a1), a2, x3, x4, x5, x6, a7)) : ∃ v0 v3 v4 v5 v6, cs = [v0, .int .i64 a1, .int .i64 a2, v3, v4, v5, v6, .int .i64 a7] ∧ SlR tVersionS w v0 x0 ∧ SlR tInt w v3 x3 ∧ SlR tActive w v4 x4 ∧ SlR tFinished w v5 x5 ∧ SlR tCharge w v6 x6 := by
  obtain ⟨_, _, rfl, ⟨_, _, rfl, ⟨v0, rfl, h0⟩, rfl⟩, ⟨_, _, rfl, rfl, ⟨_, _, rfl, ⟨v3, rfl, h3⟩, ⟨_, _, rfl, ⟨v4, rfl, h4⟩, ⟨_, _, rfl, ⟨v5, rfl, h5⟩, ⟨_, _, rfl, ⟨v6, rfl, h6⟩, rfl⟩⟩⟩⟩⟩⟩ := h
  exact ⟨_, _, _, _, _, rfl, h0, h3, h4, h5, h6⟩
theorem tEngine_O {w : World} {F : Nat → Prop} {cs : List Value} {x0 : List (List (Int × List Int × Int × Int))} {a1 : Int} {a2 : Int} {x3 : List Int} {x4 : List ((Int × Int × List (Int × Int × Int) × List Int) × Int × List Int × Int × Int × Int × List (Int × List Int))} {x5 : List ((Int × Int × List (Int × Int × Int) × List Int) × Int × Int × List (Int × List Int))} {x6 : List (Int × Int × List Int × List Int × List Int)} {a7 : Int} (h : tEngine.O w F cs ((x0, a1), a2, x3, x4, x5, x6, a7)) : ∃ v0 v3 v4 v5 v6, ∃ F0 F3 F4 F5 F6 : Nat → Prop, cs = [v0, .int .i64 a1, .int .i64 a2, v3, v4, v5, v6, .int .i64 a7] ∧ SlO 143 tVersionS w F0 v0 x0 ∧ SlO 3 tInt w F3 v3 x3 ∧ SlO 88 tActive w F4 v4 x4 ∧ SlO 90 tFinished w F5 v5 x5 ∧ SlO 95 tCharge w F6 v6 x6 ∧ (∀ b, F0 b → F b) ∧ (∀ b, F3 b → F b) ∧ (∀ b, F4 b → F b) ∧ (∀ b, F5 b → F b) ∧ (∀ b, F6 b → F b) ∧ (∀ b, F0 b → ¬ F3 b) ∧ (∀ b, F0 b → ¬ F4 b) ∧ (∀ b, F0 b → ¬ F5 b) ∧ (∀ b, F0 b → ¬ F6 b) ∧ (∀ b, F3 b → ¬ F4 b) ∧ (∀ b, F3 b → ¬ F5 b) ∧ (∀ b, F3 b → ¬ F6 b) ∧ (∀ b, F4 b → ¬ F5 b) ∧ (∀ b, F4 b → ¬ F6 b) ∧ (∀ b, F5 b → ¬ F6 b) := by
  obtain ⟨_, _, F0_1, F0_2, rfl, ⟨_, _, F1_1, F1_2, rfl, ⟨v0, rfl, h0⟩, rfl, s1_1, s1_2, d1⟩, ⟨_, _, F2_1, F2_2, rfl, rfl, ⟨_, _, F3_1, F3_2, rfl, ⟨v3, rfl, h3⟩, ⟨_, _, F4_1, F4_2, rfl, ⟨v4, rfl, h4⟩, ⟨_, _, F5_1, F5_2, rfl, ⟨v5, rfl, h5⟩, ⟨_, _, F6_1, F6_2, rfl, ⟨v6, rfl, h6⟩, rfl, s6_1, s6_2, d6⟩, s5_1, s5_2, d5⟩, s4_1, s4_2, d4⟩, s3_1, s3_2, d3⟩, s2_1, s2_2, d2⟩, s0_1, s0_2, d0⟩ := h
  exact ⟨v0, v3, v4, v5, v6, F1_1, F3_1, F4_1, F5_1, F6_1, rfl, h0, h3, h4, h5, h6, fun b h => (s0_1 b (s1_1 b h)), fun b h => (s0_2 b (s2_2 b (s3_1 b h))), fun b h => (s0_2 b (s2_2 b (s3_2 b (s4_1 b h)))), fun b h => (s0_2 b (s2_2 b (s3_2 b (s4_2 b (s5_1 b h))))), fun b h => (s0_2 b (s2_2 b (s3_2 b (s4_2 b (s5_2 b (s6_1 b h)))))), fun b h h2 => d0 b (s1_1 b h) (s2_2 b (s3_1 b h2)), fun b h h2 => d0 b (s1_1 b h) (s2_2 b (s3_2 b (s4_1 b h2))), fun b h h2 => d0 b (s1_1 b h) (s2_2 b (s3_2 b (s4_2 b (s5_1 b h2)))), fun b h h2 => d0 b (s1_1 b h) (s2_2 b (s3_2 b (s4_2 b (s5_2 b (s6_1 b h2))))), fun b h h2 => d3 b h (s4_1 b h2), fun b h h2 => d3 b h (s4_2 b (s5_1 b h2)), fun b h h2 => d3 b h (s4_2 b (s5_2 b (s6_1 b h2))), fun b h h2 => d4 b h (s5_1 b h2), fun b h h2 => d4 b h (s5_2 b (s6_1 b h2)), fun b h h2 => d5 b h (s6_1 b h2)⟩
theorem tEngine_mkO {w : World} {F : Nat → Prop} {x0 : List (List (Int × List Int × Int × Int))} {a1 : Int} {a2 : Int} {x3 : List Int} {x4 : List ((Int × Int × List (Int × Int × Int) × List Int) × Int × List Int × Int × Int × Int × List (Int × List Int))} {x5 : List ((Int × Int × List (Int × Int × Int) × List Int) × Int × Int × List (Int × List Int))} {x6 : List (Int × Int × List Int × List Int × List Int)} {a7 : Int} {v0 v3 v4 v5 v6 : Value} {F0 F3 F4 F5 F6 : Nat → Prop} (h0 : SlO 143 tVersionS w F0 v0 x0) (h3 : SlO 3 tInt w F3 v3 x3) (h4 : SlO 88 tActive w F4 v4 x4) (h5 : SlO 90 tFinished w F5 v5 x5) (h6 : SlO 95 tCharge w F6 v6 x6) (s0 : ∀ b, F0 b → F b) (s3 : ∀ b, F3 b → F b) (s4 : ∀ b, F4 b → F b) (s5 : ∀ b, F5 b → F b) (s6 : ∀ b, F6 b → F b) (d0_3 : ∀ b, F0 b → ¬ F3 b) (d0_4 : ∀ b, F0 b → ¬ F4 b) (d0_5 : ∀ b, F0 b → ¬ F5 b) (d0_6 : ∀ b, F0 b → ¬ F6 b) (d3_4 : ∀ b, F3 b → ¬ F4 b) (d3_5 : ∀ b, F3 b → ¬ F5 b) (d3_6 : ∀ b, F3 b → ¬ F6 b) (d4_5 : ∀ b, F4 b → ¬ F5 b) (d4_6 : ∀ b, F4 b → ¬ F6 b) (d5_6 : ∀ b, F5 b → ¬ F6 b) : tEngine.O w F [v0, .int .i64 a1, .int .i64 a2, v3, v4, v5, v6, .int .i64 a7] ((x0, a1), a2, x3, x4, x5, x6, a7) := ⟨[v0, .int .i64 a1], [.int .i64 a2, v3, v4, v5, v6, .int .i64 a7], F0, fun b => F3 b ∨ (F4 b ∨ (F5 b ∨ (F6 b))), rfl, ⟨[v0], [.int .i64 a1], F0, fun _ => False, rfl, ⟨_, rfl, h0⟩, rfl, (fun b h => h), (fun b h => (False.elim h)), (fun b h g => (False.elim g))⟩, ⟨[.int .i64 a2], [v3, v4, v5, v6, .int .i64 a7], fun _ => False, fun b => F3 b ∨ (F4 b ∨ (F5 b ∨ (F6 b))), rfl, rfl, ⟨[v3], [v4, v5, v6, .int .i64 a7], F3, fun b => F4 b ∨ (F5 b ∨ (F6 b)), rfl, ⟨_, rfl, h3⟩, ⟨[v4], [v5, v6, .int .i64 a7], F4, fun b => F5 b ∨ (F6 b), rfl, ⟨_, rfl, h4⟩, ⟨[v5], [v6, .int .i64 a7], F5, F6, rfl, ⟨_, rfl, h5⟩, ⟨[v6], [.int .i64 a7], F6, fun _ => False, rfl, ⟨_, rfl, h6⟩, rfl, (fun b h => h), (fun b h => (False.elim h)), (fun b h g => (False.elim g))⟩, (fun b h => (Or.inl h)), (fun b h => (Or.inr h)), (fun b h g => d5_6 b h g)⟩, (fun b h => (Or.inl h)), (fun b h => (h.elim (fun q0 => (Or.inr (Or.inl q0))) (fun q0 => (Or.inr (Or.inr q0))))), (fun b h g => (g.elim (fun q10 => d4_5 b h q10) (fun q10 => d4_6 b h q10)))⟩, (fun b h => (Or.inl h)), (fun b h => (h.elim (fun q0 => (Or.inr (Or.inl q0))) (fun q0 => (q0.elim (fun q1 => (Or.inr (Or.inr (Or.inl q1)))) (fun q1 => (Or.inr (Or.inr (Or.inr q1)))))))), (fun b h g => (g.elim (fun q10 => d3_4 b h q10) (fun q10 => (q10.elim (fun q11 => d3_5 b h q11) (fun q11 => d3_6 b h q11)))))⟩, (fun b h => (False.elim h)), (fun b h => (h.elim (fun q0 => (Or.inl q0)) (fun q0 => (q0.elim (fun q1 => (Or.inr (Or.inl q1))) (fun q1 => (q1.elim (fun q2 => (Or.inr (Or.inr (Or.inl q2)))) (fun q2 => (Or.inr (Or.inr (Or.inr q2)))))))))), (fun b h g => (False.elim h))⟩, (fun b h => s0 b h), (fun b h => (h.elim (fun q0 => s3 b q0) (fun q0 => (q0.elim (fun q1 => s4 b q1) (fun q1 => (q1.elim (fun q2 => s5 b q2) (fun q2 => s6 b q2))))))), (fun b h g => (g.elim (fun q10 => d0_3 b h q10) (fun q10 => (q10.elim (fun q11 => d0_4 b h q11) (fun q11 => (q11.elim (fun q12 => d0_5 b h q12) (fun q12 => d0_6 b h q12)))))))⟩
set_option maxHeartbeats 8000000 in
set_option maxRecDepth 100000 in
theorem szEngine_Y (a1 a2 a7 : Int) (v0 v3 v4 v5 v6 : Value) (x0 : List (List (Int × List Int × Int × Int))) (x3 : List Int) (x4 : List ((Int × Int × List (Int × Int × Int) × List Int) × Int × List Int × Int × Int × Int × List (Int × List Int))) (x5 : List ((Int × Int × List (Int × Int × Int) × List Int) × Int × Int × List (Int × List Int))) (x6 : List (Int × Int × List Int × List Int × List Int)) (k0 : Int) (w : World) (h0 : SlR tVersionS w v0 x0) (h3 : SlR tInt w v3 x3) (h4 : SlR tActive w v4 x4) (h5 : SlR tFinished w v5 x5) (h6 : SlR tCharge w v6 x6) (hs : ((zL tVersionS x0 + zL tInt x3 + zL tActive x4 + zL tFinished x5 + zL tCharge x6 : Nat) : Int) ≤ k0) (hk : k0 ≤ 1048576) :
    Calls Tryz.prog 8 #[.agg #[v0, .int .i64 a1, .int .i64 a2, v3, v4, v5, v6, .int .i64 a7], .int .i64 k0] w fun e w' => e = .returned (.int .i64 (k0 - ((zL tVersionS x0 + zL tInt x3 + zL tActive x4 + zL tFinished x5 + zL tCharge x6 : Nat) : Int))) ∧ Below w.heap.size w w' := by
  have H0 := Lib.hid h0
  have H3 := Lib.hid h3
  have H4 := Lib.hid h4
  have H5 := Lib.hid h5
  have H6 := Lib.hid h6
  clear h0 h3 h4 h5 h6
  have HZ0 : Hid (((zL tVersionS x0 : Nat) : Int) ≤ k0) := Lib.hid (by omega)
  have HK0 : Hid (k0 ≤ 1048576) := Lib.hid (by omega)
  have hn0 : ¬ k0 - ((zL tVersionS x0 : Nat) : Int) < 0 := by omega
  have HZ3 : Hid (((zL tInt x3 : Nat) : Int) ≤ k0 - ((zL tVersionS x0 : Nat) : Int)) := Lib.hid (by omega)
  have HK3 : Hid (k0 - ((zL tVersionS x0 : Nat) : Int) ≤ 1048576) := Lib.hid (by omega)
  have hn3 : ¬ k0 - ((zL tVersionS x0 : Nat) : Int) - ((zL tInt x3 : Nat) : Int) < 0 := by omega
  have HZ4 : Hid (((zL tActive x4 : Nat) : Int) ≤ k0 - ((zL tVersionS x0 : Nat) : Int) - ((zL tInt x3 : Nat) : Int)) := Lib.hid (by omega)
  have HK4 : Hid (k0 - ((zL tVersionS x0 : Nat) : Int) - ((zL tInt x3 : Nat) : Int) ≤ 1048576) := Lib.hid (by omega)
  have hn4 : ¬ k0 - ((zL tVersionS x0 : Nat) : Int) - ((zL tInt x3 : Nat) : Int) - ((zL tActive x4 : Nat) : Int) < 0 := by omega
  have HZ5 : Hid (((zL tFinished x5 : Nat) : Int) ≤ k0 - ((zL tVersionS x0 : Nat) : Int) - ((zL tInt x3 : Nat) : Int) - ((zL tActive x4 : Nat) : Int)) := Lib.hid (by omega)
  have HK5 : Hid (k0 - ((zL tVersionS x0 : Nat) : Int) - ((zL tInt x3 : Nat) : Int) - ((zL tActive x4 : Nat) : Int) ≤ 1048576) := Lib.hid (by omega)
  have hn5 : ¬ k0 - ((zL tVersionS x0 : Nat) : Int) - ((zL tInt x3 : Nat) : Int) - ((zL tActive x4 : Nat) : Int) - ((zL tFinished x5 : Nat) : Int) < 0 := by omega
  have HZ6 : Hid (((zL tCharge x6 : Nat) : Int) ≤ k0 - ((zL tVersionS x0 : Nat) : Int) - ((zL tInt x3 : Nat) : Int) - ((zL tActive x4 : Nat) : Int) - ((zL tFinished x5 : Nat) : Int)) := Lib.hid (by omega)
  have HK6 : Hid (k0 - ((zL tVersionS x0 : Nat) : Int) - ((zL tInt x3 : Nat) : Int) - ((zL tActive x4 : Nat) : Int) - ((zL tFinished x5 : Nat) : Int) ≤ 1048576) := Lib.hid (by omega)
  have hn6 : ¬ k0 - ((zL tVersionS x0 : Nat) : Int) - ((zL tInt x3 : Nat) : Int) - ((zL tActive x4 : Nat) : Int) - ((zL tFinished x5 : Nat) : Int) - ((zL tCharge x6 : Nat) : Int) < 0 := by omega
  have HE : Hid (k0 - ((zL tVersionS x0 : Nat) : Int) - ((zL tInt x3 : Nat) : Int) - ((zL tActive x4 : Nat) : Int) - ((zL tFinished x5 : Nat) : Int) - ((zL tCharge x6 : Nat) : Int) = k0 - ((zL tVersionS x0 + zL tInt x3 + zL tActive x4 + zL tFinished x5 + zL tCharge x6 : Nat) : Int)) := Lib.hid (by omega)
  clear hs hk
  have hb : Below w.heap.size w (w.alloc (.cells #[v0, .int .i64 a1, .int .i64 a2, v3, v4, v5, v6, .int .i64 a7] 30)) := (Below.refl _ w).alloc (Nat.le_refl _) _
  have g0 : (w.alloc (.cells #[v0, .int .i64 a1, .int .i64 a2, v3, v4, v5, v6, .int .i64 a7] 30)).heap[w.heap.size]? = some (.cells #[v0, .int .i64 a1, .int .i64 a2, v3, v4, v5, v6, .int .i64 a7] 30 (0, 0)) := heap_alloc_new w _
  have hz0 : w.heap.size < (w.alloc (.cells #[v0, .int .i64 a1, .int .i64 a2, v3, v4, v5, v6, .int .i64 a7] 30)).heap.size := by simp
  go_enter Tryz.func8, Tryz.ntmps8
  go_wp2_with fail
  generalize (w.alloc (.cells #[v0, .int .i64 a1, .int .i64 a2, v3, v4, v5, v6, .int .i64 a7] 30)) = W at *
  refine (szStore_Y a1 v0 x0 (k0) W (slR_below tVersionS_law H0.out hb) HZ0.out HK0.out).mono ?_
  rintro e W1 ⟨rfl, b1⟩
  replace g0 := (b1.block w.heap.size hz0).trans g0
  replace hz0 := Nat.lt_of_lt_of_le hz0 b1.size
  replace hb := hb.trans (b1.mono hb.size)
  clear b1
  have p3 := (cell_of_row W1 _ 3 _ _ _ g0).trans (show _ = some (v3) from rfl)
  go_wp2_with fail
  clear p3
  refine (szIntS_Y v3 x3 (k0 - ((zL tVersionS x0 : Nat) : Int)) W1 (slR_below tInt_law H3.out hb) HZ3.out HK3.out).mono ?_
  rintro e W2 ⟨rfl, b1⟩
  replace g0 := (b1.block w.heap.size hz0).trans g0
  replace hz0 := Nat.lt_of_lt_of_le hz0 b1.size
  replace hb := hb.trans (b1.mono hb.size)
  clear b1
  have p4 := (cell_of_row W2 _ 4 _ _ _ g0).trans (show _ = some (v4) from rfl)
  go_wp2_with fail
  clear p4
  refine (szActiveS_Y v4 x4 (k0 - ((zL tVersionS x0 : Nat) : Int) - ((zL tInt x3 : Nat) : Int)) W2 (slR_below tActive_law H4.out hb) HZ4.out HK4.out).mono ?_
  rintro e W3 ⟨rfl, b1⟩
  replace g0 := (b1.block w.heap.size hz0).trans g0
  replace hz0 := Nat.lt_of_lt_of_le hz0 b1.size
  replace hb := hb.trans (b1.mono hb.size)
  clear b1
  have p5 := (cell_of_row W3 _ 5 _ _ _ g0).trans (show _ = some (v5) from rfl)
  go_wp2_with fail
  clear p5
  refine (szFinishedS_Y v5 x5 (k0 - ((zL tVersionS x0 : Nat) : Int) - ((zL tInt x3 : Nat) : Int) - ((zL tActive x4 : Nat) : Int)) W3 (slR_below tFinished_law H5.out hb) HZ5.out HK5.out).mono ?_
  rintro e W4 ⟨rfl, b1⟩
  replace g0 := (b1.block w.heap.size hz0).trans g0
  replace hz0 := Nat.lt_of_lt_of_le hz0 b1.size
  replace hb := hb.trans (b1.mono hb.size)
  clear b1
  have p6 := (cell_of_row W4 _ 6 _ _ _ g0).trans (show _ = some (v6) from rfl)
  go_wp2_with fail
  clear p6
  refine (szChargeS_Y v6 x6 (k0 - ((zL tVersionS x0 : Nat) : Int) - ((zL tInt x3 : Nat) : Int) - ((zL tActive x4 : Nat) : Int) - ((zL tFinished x5 : Nat) : Int)) W4 (slR_below tCharge_law H6.out hb) HZ6.out HK6.out).mono ?_
  rintro e W5 ⟨rfl, b1⟩
  replace g0 := (b1.block w.heap.size hz0).trans g0
  replace hz0 := Nat.lt_of_lt_of_le hz0 b1.size
  replace hb := hb.trans (b1.mono hb.size)
  clear b1
  go_wp2
  go_ret
  exact ⟨ty_ret HE.out, hb⟩
set_option maxHeartbeats 8000000 in
set_option maxRecDepth 100000 in
theorem szEngine_N (a1 a2 a7 : Int) (v0 v3 v4 v5 v6 : Value) (x0 : List (List (Int × List Int × Int × Int))) (x3 : List Int) (x4 : List ((Int × Int × List (Int × Int × Int) × List Int) × Int × List Int × Int × Int × Int × List (Int × List Int))) (x5 : List ((Int × Int × List (Int × Int × Int) × List Int) × Int × Int × List (Int × List Int))) (x6 : List (Int × Int × List Int × List Int × List Int)) (k0 : Int) (w : World) (h0 : SlR tVersionS w v0 x0) (h3 : SlR tInt w v3 x3) (h4 : SlR tActive w v4 x4) (h5 : SlR tFinished w v5 x5) (h6 : SlR tCharge w v6 x6) (hs : k0 < ((zL tVersionS x0 + zL tInt x3 + zL tActive x4 + zL tFinished x5 + zL tCharge x6 : Nat) : Int)) (hk : k0 ≤ 1048576) (hp : 0 ≤ k0) (o0 : tVersionSS.ok x0) (o3 : tIntS.ok x3) (o4 : tActiveS.ok x4) (o5 : tFinishedS.ok x5) (o6 : tChargeS.ok x6) :
    Calls Tryz.prog 8 #[.agg #[v0, .int .i64 a1, .int .i64 a2, v3, v4, v5, v6, .int .i64 a7], .int .i64 k0] w fun e w' => e = .returned (.int .i64 (-1)) ∧ Below w.heap.size w w' := by
  have H0 := Lib.hid h0
  have H3 := Lib.hid h3
  have H4 := Lib.hid h4
  have H5 := Lib.hid h5
  have H6 := Lib.hid h6
  clear h0 h3 h4 h5 h6
  have HO0 := Lib.hid o0
  have HO3 := Lib.hid o3
  have HO4 := Lib.hid o4
  have HO5 := Lib.hid o5
  have HO6 := Lib.hid o6
  clear o0 o3 o4 o5 o6
  by_cases c0 : k0 < ((zL tVersionS x0 : Nat) : Int)
  · have HZ0 : Hid (k0 < ((zL tVersionS x0 : Nat) : Int)) := Lib.hid (by omega)
    have HP0 : Hid (0 ≤ k0) := Lib.hid (by omega)
    have HK0 : Hid (k0 ≤ 1048576) := Lib.hid (by omega)
    clear hs hk
    clear c0 hp
    have hb : Below w.heap.size w (w.alloc (.cells #[v0, .int .i64 a1, .int .i64 a2, v3, v4, v5, v6, .int .i64 a7] 30)) := (Below.refl _ w).alloc (Nat.le_refl _) _
    have g0 : (w.alloc (.cells #[v0, .int .i64 a1, .int .i64 a2, v3, v4, v5, v6, .int .i64 a7] 30)).heap[w.heap.size]? = some (.cells #[v0, .int .i64 a1, .int .i64 a2, v3, v4, v5, v6, .int .i64 a7] 30 (0, 0)) := heap_alloc_new w _
    have hz0 : w.heap.size < (w.alloc (.cells #[v0, .int .i64 a1, .int .i64 a2, v3, v4, v5, v6, .int .i64 a7] 30)).heap.size := by simp
    go_enter Tryz.func8, Tryz.ntmps8
    go_wp2_with fail
    generalize (w.alloc (.cells #[v0, .int .i64 a1, .int .i64 a2, v3, v4, v5, v6, .int .i64 a7] 30)) = W at *
    refine (szStore_N a1 v0 x0 (k0) W (slR_below tVersionS_law H0.out hb) HZ0.out HK0.out HP0.out HO0.out).mono ?_
    rintro e W1 ⟨rfl, b1⟩
    replace g0 := (b1.block w.heap.size hz0).trans g0
    replace hz0 := Nat.lt_of_lt_of_le hz0 b1.size
    replace hb := hb.trans (b1.mono hb.size)
    clear b1
    go_wp2
    go_ret
    exact ⟨rfl, hb⟩
  ·
    by_cases c1 : k0 - ((zL tVersionS x0 : Nat) : Int) < ((zL tInt x3 : Nat) : Int)
    · have HZ0 : Hid (((zL tVersionS x0 : Nat) : Int) ≤ k0) := Lib.hid (by omega)
      have hn0 : ¬ k0 - ((zL tVersionS x0 : Nat) : Int) < 0 := by omega
      have HK0 : Hid (k0 ≤ 1048576) := Lib.hid (by omega)
      have HZ3 : Hid (k0 - ((zL tVersionS x0 : Nat) : Int) < ((zL tInt x3 : Nat) : Int)) := Lib.hid (by omega)
      have HP3 : Hid (0 ≤ k0 - ((zL tVersionS x0 : Nat) : Int)) := Lib.hid (by omega)
      have HK3 : Hid (k0 - ((zL tVersionS x0 : Nat) : Int) ≤ 1048576) := Lib.hid (by omega)
      clear hs hk
      clear c1 hp c0
      have hb : Below w.heap.size w (w.alloc (.cells #[v0, .int .i64 a1, .int .i64 a2, v3, v4, v5, v6, .int .i64 a7] 30)) := (Below.refl _ w).alloc (Nat.le_refl _) _
      have g0 : (w.alloc (.cells #[v0, .int .i64 a1, .int .i64 a2, v3, v4, v5, v6, .int .i64 a7] 30)).heap[w.heap.size]? = some (.cells #[v0, .int .i64 a1, .int .i64 a2, v3, v4, v5, v6, .int .i64 a7] 30 (0, 0)) := heap_alloc_new w _
      have hz0 : w.heap.size < (w.alloc (.cells #[v0, .int .i64 a1, .int .i64 a2, v3, v4, v5, v6, .int .i64 a7] 30)).heap.size := by simp
      go_enter Tryz.func8, Tryz.ntmps8
      go_wp2_with fail
      generalize (w.alloc (.cells #[v0, .int .i64 a1, .int .i64 a2, v3, v4, v5, v6, .int .i64 a7] 30)) = W at *
      refine (szStore_Y a1 v0 x0 (k0) W (slR_below tVersionS_law H0.out hb) HZ0.out HK0.out).mono ?_
      rintro e W1 ⟨rfl, b1⟩
      replace g0 := (b1.block w.heap.size hz0).trans g0
      replace hz0 := Nat.lt_of_lt_of_le hz0 b1.size
      replace hb := hb.trans (b1.mono hb.size)
      clear b1
      have p3 := (cell_of_row W1 _ 3 _ _ _ g0).trans (show _ = some (v3) from rfl)
      go_wp2_with fail
      clear p3
      refine (szIntS_N v3 x3 (k0 - ((zL tVersionS x0 : Nat) : Int)) W1 (slR_below tInt_law H3.out hb) HZ3.out HK3.out HP3.out HO3.out).mono ?_
      rintro e W2 ⟨rfl, b1⟩
      replace g0 := (b1.block w.heap.size hz0).trans g0
      replace hz0 := Nat.lt_of_lt_of_le hz0 b1.size
      replace hb := hb.trans (b1.mono hb.size)
      clear b1
      go_wp2
      go_ret
      exact ⟨rfl, hb⟩
    ·
      by_cases c2 : k0 - ((zL tVersionS x0 : Nat) : Int) - ((zL tInt x3 : Nat) : Int) < ((zL tActive x4 : Nat) : Int)
      · have HZ0 : Hid (((zL tVersionS x0 : Nat) : Int) ≤ k0) := Lib.hid (by omega)
        have hn0 : ¬ k0 - ((zL tVersionS x0 : Nat) : Int) < 0 := by omega
        have HK0 : Hid (k0 ≤ 1048576) := Lib.hid (by omega)
        have HZ3 : Hid (((zL tInt x3 : Nat) : Int) ≤ k0 - ((zL tVersionS x0 : Nat) : Int)) := Lib.hid (by omega)
        have hn3 : ¬ k0 - ((zL tVersionS x0 : Nat) : Int) - ((zL tInt x3 : Nat) : Int) < 0 := by omega
        have HK3 : Hid (k0 - ((zL tVersionS x0 : Nat) : Int) ≤ 1048576) := Lib.hid (by omega)
        have HZ4 : Hid (k0 - ((zL tVersionS x0 : Nat) : Int) - ((zL tInt x3 : Nat) : Int) < ((zL tActive x4 : Nat) : Int)) := Lib.hid (by omega)
        have HP4 : Hid (0 ≤ k0 - ((zL tVersionS x0 : Nat) : Int) - ((zL tInt x3 : Nat) : Int)) := Lib.hid (by omega)
        have HK4 : Hid (k0 - ((zL tVersionS x0 : Nat) : Int) - ((zL tInt x3 : Nat) : Int) ≤ 1048576) := Lib.hid (by omega)
        clear hs hk
        clear c2 hp c0 c1
        have hb : Below w.heap.size w (w.alloc (.cells #[v0, .int .i64 a1, .int .i64 a2, v3, v4, v5, v6, .int .i64 a7] 30)) := (Below.refl _ w).alloc (Nat.le_refl _) _
        have g0 : (w.alloc (.cells #[v0, .int .i64 a1, .int .i64 a2, v3, v4, v5, v6, .int .i64 a7] 30)).heap[w.heap.size]? = some (.cells #[v0, .int .i64 a1, .int .i64 a2, v3, v4, v5, v6, .int .i64 a7] 30 (0, 0)) := heap_alloc_new w _
        have hz0 : w.heap.size < (w.alloc (.cells #[v0, .int .i64 a1, .int .i64 a2, v3, v4, v5, v6, .int .i64 a7] 30)).heap.size := by simp
        go_enter Tryz.func8, Tryz.ntmps8
        go_wp2_with fail
        generalize (w.alloc (.cells #[v0, .int .i64 a1, .int .i64 a2, v3, v4, v5, v6, .int .i64 a7] 30)) = W at *
        refine (szStore_Y a1 v0 x0 (k0) W (slR_below tVersionS_law H0.out hb) HZ0.out HK0.out).mono ?_
        rintro e W1 ⟨rfl, b1⟩
        replace g0 := (b1.block w.heap.size hz0).trans g0
        replace hz0 := Nat.lt_of_lt_of_le hz0 b1.size
        replace hb := hb.trans (b1.mono hb.size)
        clear b1
        have p3 := (cell_of_row W1 _ 3 _ _ _ g0).trans (show _ = some (v3) from rfl)
        go_wp2_with fail
        clear p3
        refine (szIntS_Y v3 x3 (k0 - ((zL tVersionS x0 : Nat) : Int)) W1 (slR_below tInt_law H3.out hb) HZ3.out HK3.out).mono ?_
        rintro e W2 ⟨rfl, b1⟩
        replace g0 := (b1.block w.heap.size hz0).trans g0
        replace hz0 := Nat.lt_of_lt_of_le hz0 b1.size
        replace hb := hb.trans (b1.mono hb.size)
        clear b1
        have p4 := (cell_of_row W2 _ 4 _ _ _ g0).trans (show _ = some (v4) from rfl)
        go_wp2_with fail
        clear p4
        refine (szActiveS_N v4 x4 (k0 - ((zL tVersionS x0 : Nat) : Int) - ((zL tInt x3 : Nat) : Int)) W2 (slR_below tActive_law H4.out hb) HZ4.out HK4.out HP4.out HO4.out).mono ?_
        rintro e W3 ⟨rfl, b1⟩
        replace g0 := (b1.block w.heap.size hz0).trans g0
        replace hz0 := Nat.lt_of_lt_of_le hz0 b1.size
        replace hb := hb.trans (b1.mono hb.size)
        clear b1
        go_wp2
        go_ret
        exact ⟨rfl, hb⟩
      ·
        by_cases c3 : k0 - ((zL tVersionS x0 : Nat) : Int) - ((zL tInt x3 : Nat) : Int) - ((zL tActive x4 : Nat) : Int) < ((zL tFinished x5 : Nat) : Int)
        · have HZ0 : Hid (((zL tVersionS x0 : Nat) : Int) ≤ k0) := Lib.hid (by omega)
          have hn0 : ¬ k0 - ((zL tVersionS x0 : Nat) : Int) < 0 := by omega
          have HK0 : Hid (k0 ≤ 1048576) := Lib.hid (by omega)
          have HZ3 : Hid (((zL tInt x3 : Nat) : Int) ≤ k0 - ((zL tVersionS x0 : Nat) : Int)) := Lib.hid (by omega)
          have hn3 : ¬ k0 - ((zL tVersionS x0 : Nat) : Int) - ((zL tInt x3 : Nat) : Int) < 0 := by omega
          have HK3 : Hid (k0 - ((zL tVersionS x0 : Nat) : Int) ≤ 1048576) := Lib.hid (by omega)
          have HZ4 : Hid (((zL tActive x4 : Nat) : Int) ≤ k0 - ((zL tVersionS x0 : Nat) : Int) - ((zL tInt x3 : Nat) : Int)) := Lib.hid (by omega)
          have hn4 : ¬ k0 - ((zL tVersionS x0 : Nat) : Int) - ((zL tInt x3 : Nat) : Int) - ((zL tActive x4 : Nat) : Int) < 0 := by omega
          have HK4 : Hid (k0 - ((zL tVersionS x0 : Nat) : Int) - ((zL tInt x3 : Nat) : Int) ≤ 1048576) := Lib.hid (by omega)
          have HZ5 : Hid (k0 - ((zL tVersionS x0 : Nat) : Int) - ((zL tInt x3 : Nat) : Int) - ((zL tActive x4 : Nat) : Int) < ((zL tFinished x5 : Nat) : Int)) := Lib.hid (by omega)
          have HP5 : Hid (0 ≤ k0 - ((zL tVersionS x0 : Nat) : Int) - ((zL tInt x3 : Nat) : Int) - ((zL tActive x4 : Nat) : Int)) := Lib.hid (by omega)
          have HK5 : Hid (k0 - ((zL tVersionS x0 : Nat) : Int) - ((zL tInt x3 : Nat) : Int) - ((zL tActive x4 : Nat) : Int) ≤ 1048576) := Lib.hid (by omega)
          clear hs hk
          clear c3 hp c0 c1 c2
          have hb : Below w.heap.size w (w.alloc (.cells #[v0, .int .i64 a1, .int .i64 a2, v3, v4, v5, v6, .int .i64 a7] 30)) := (Below.refl _ w).alloc (Nat.le_refl _) _
          have g0 : (w.alloc (.cells #[v0, .int .i64 a1, .int .i64 a2, v3, v4, v5, v6, .int .i64 a7] 30)).heap[w.heap.size]? = some (.cells #[v0, .int .i64 a1, .int .i64 a2, v3, v4, v5, v6, .int .i64 a7] 30 (0, 0)) := heap_alloc_new w _
          have hz0 : w.heap.size < (w.alloc (.cells #[v0, .int .i64 a1, .int .i64 a2, v3, v4, v5, v6, .int .i64 a7] 30)).heap.size := by simp
          go_enter Tryz.func8, Tryz.ntmps8
          go_wp2_with fail
          generalize (w.alloc (.cells #[v0, .int .i64 a1, .int .i64 a2, v3, v4, v5, v6, .int .i64 a7] 30)) = W at *
          refine (szStore_Y a1 v0 x0 (k0) W (slR_below tVersionS_law H0.out hb) HZ0.out HK0.out).mono ?_
          rintro e W1 ⟨rfl, b1⟩
          replace g0 := (b1.block w.heap.size hz0).trans g0
          replace hz0 := Nat.lt_of_lt_of_le hz0 b1.size
          replace hb := hb.trans (b1.mono hb.size)
          clear b1
          have p3 := (cell_of_row W1 _ 3 _ _ _ g0).trans (show _ = some (v3) from rfl)
          go_wp2_with fail
          clear p3
          refine (szIntS_Y v3 x3 (k0 - ((zL tVersionS x0 : Nat) : Int)) W1 (slR_below tInt_law H3.out hb) HZ3.out HK3.out).mono ?_
          rintro e W2 ⟨rfl, b1⟩
          replace g0 := (b1.block w.heap.size hz0).trans g0
          replace hz0 := Nat.lt_of_lt_of_le hz0 b1.size
          replace hb := hb.trans (b1.mono hb.size)
          clear b1
          have p4 := (cell_of_row W2 _ 4 _ _ _ g0).trans (show _ = some (v4) from rfl)
          go_wp2_with fail
          clear p4
          refine (szActiveS_Y v4 x4 (k0 - ((zL tVersionS x0 : Nat) : Int) - ((zL tInt x3 : Nat) : Int)) W2 (slR_below tActive_law H4.out hb) HZ4.out HK4.out).mono ?_
          rintro e W3 ⟨rfl, b1⟩
          replace g0 := (b1.block w.heap.size hz0).trans g0
          replace hz0 := Nat.lt_of_lt_of_le hz0 b1.size
          replace hb := hb.trans (b1.mono hb.size)
          clear b1
          have p5 := (cell_of_row W3 _ 5 _ _ _ g0).trans (show _ = some (v5) from rfl)
          go_wp2_with fail
          clear p5
          refine (szFinishedS_N v5 x5 (k0 - ((zL tVersionS x0 : Nat) : Int) - ((zL tInt x3 : Nat) : Int) - ((zL tActive x4 : Nat) : Int)) W3 (slR_below tFinished_law H5.out hb) HZ5.out HK5.out HP5.out HO5.out).mono ?_
          rintro e W4 ⟨rfl, b1⟩
          replace g0 := (b1.block w.heap.size hz0).trans g0
          replace hz0 := Nat.lt_of_lt_of_le hz0 b1.size
          replace hb := hb.trans (b1.mono hb.size)
          clear b1
          go_wp2
          go_ret
          exact ⟨rfl, hb⟩
        ·
          have HZ0 : Hid (((zL tVersionS x0 : Nat) : Int) ≤ k0) := Lib.hid (by omega)
          have hn0 : ¬ k0 - ((zL tVersionS x0 : Nat) : Int) < 0 := by omega
          have HK0 : Hid (k0 ≤ 1048576) := Lib.hid (by omega)
          have HZ3 : Hid (((zL tInt x3 : Nat) : Int) ≤ k0 - ((zL tVersionS x0 : Nat) : Int)) := Lib.hid (by omega)
          have hn3 : ¬ k0 - ((zL tVersionS x0 : Nat) : Int) - ((zL tInt x3 : Nat) : Int) < 0 := by omega
          have HK3 : Hid (k0 - ((zL tVersionS x0 : Nat) : Int) ≤ 1048576) := Lib.hid (by omega)
          have HZ4 : Hid (((zL tActive x4 : Nat) : Int) ≤ k0 - ((zL tVersionS x0 : Nat) : Int) - ((zL tInt x3 : Nat) : Int)) := Lib.hid (by omega)
          have hn4 : ¬ k0 - ((zL tVersionS x0 : Nat) : Int) - ((zL tInt x3 : Nat) : Int) - ((zL tActive x4 : Nat) : Int) < 0 := by omega
          have HK4 : Hid (k0 - ((zL tVersionS x0 : Nat) : Int) - ((zL tInt x3 : Nat) : Int) ≤ 1048576) := Lib.hid (by omega)
          have HZ5 : Hid (((zL tFinished x5 : Nat) : Int) ≤ k0 - ((zL tVersionS x0 : Nat) : Int) - ((zL tInt x3 : Nat) : Int) - ((zL tActive x4 : Nat) : Int)) := Lib.hid (by omega)
          have hn5 : ¬ k0 - ((zL tVersionS x0 : Nat) : Int) - ((zL tInt x3 : Nat) : Int) - ((zL tActive x4 : Nat) : Int) - ((zL tFinished x5 : Nat) : Int) < 0 := by omega
          have HK5 : Hid (k0 - ((zL tVersionS x0 : Nat) : Int) - ((zL tInt x3 : Nat) : Int) - ((zL tActive x4 : Nat) : Int) ≤ 1048576) := Lib.hid (by omega)
          have HZ6 : Hid (k0 - ((zL tVersionS x0 : Nat) : Int) - ((zL tInt x3 : Nat) : Int) - ((zL tActive x4 : Nat) : Int) - ((zL tFinished x5 : Nat) : Int) < ((zL tCharge x6 : Nat) : Int)) := Lib.hid (by omega)
          have HP6 : Hid (0 ≤ k0 - ((zL tVersionS x0 : Nat) : Int) - ((zL tInt x3 : Nat) : Int) - ((zL tActive x4 : Nat) : Int) - ((zL tFinished x5 : Nat) : Int)) := Lib.hid (by omega)
          have HK6 : Hid (k0 - ((zL tVersionS x0 : Nat) : Int) - ((zL tInt x3 : Nat) : Int) - ((zL tActive x4 : Nat) : Int) - ((zL tFinished x5 : Nat) : Int) ≤ 1048576) := Lib.hid (by omega)
          clear hs hk
          clear hp c0 c1 c2 c3
          have hb : Below w.heap.size w (w.alloc (.cells #[v0, .int .i64 a1, .int .i64 a2, v3, v4, v5, v6, .int .i64 a7] 30)) := (Below.refl _ w).alloc (Nat.le_refl _) _
          have g0 : (w.alloc (.cells #[v0, .int .i64 a1, .int .i64 a2, v3, v4, v5, v6, .int .i64 a7] 30)).heap[w.heap.size]? = some (.cells #[v0, .int .i64 a1, .int .i64 a2, v3, v4, v5, v6, .int .i64 a7] 30 (0, 0)) := heap_alloc_new w _
          have hz0 : w.heap.size < (w.alloc (.cells #[v0, .int .i64 a1, .int .i64 a2, v3, v4, v5, v6, .int .i64 a7] 30)).heap.size := by simp
          go_enter Tryz.func8, Tryz.ntmps8
          go_wp2_with fail
          generalize (w.alloc (.cells #[v0, .int .i64 a1, .int .i64 a2, v3, v4, v5, v6, .int .i64 a7] 30)) = W at *
          refine (szStore_Y a1 v0 x0 (k0) W (slR_below tVersionS_law H0.out hb) HZ0.out HK0.out).mono ?_
          rintro e W1 ⟨rfl, b1⟩
          replace g0 := (b1.block w.heap.size hz0).trans g0
          replace hz0 := Nat.lt_of_lt_of_le hz0 b1.size
          replace hb := hb.trans (b1.mono hb.size)
          clear b1
          have p3 := (cell_of_row W1 _ 3 _ _ _ g0).trans (show _ = some (v3) from rfl)
          go_wp2_with fail
          clear p3
          refine (szIntS_Y v3 x3 (k0 - ((zL tVersionS x0 : Nat) : Int)) W1 (slR_below tInt_law H3.out hb) HZ3.out HK3.out).mono ?_
          rintro e W2 ⟨rfl, b1⟩
          replace g0 := (b1.block w.heap.size hz0).trans g0
          replace hz0 := Nat.lt_of_lt_of_le hz0 b1.size
          replace hb := hb.trans (b1.mono hb.size)
          clear b1
          have p4 := (cell_of_row W2 _ 4 _ _ _ g0).trans (show _ = some (v4) from rfl)
          go_wp2_with fail
          clear p4
          refine (szActiveS_Y v4 x4 (k0 - ((zL tVersionS x0 : Nat) : Int) - ((zL tInt x3 : Nat) : Int)) W2 (slR_below tActive_law H4.out hb) HZ4.out HK4.out).mono ?_
          rintro e W3 ⟨rfl, b1⟩
          replace g0 := (b1.block w.heap.size hz0).trans g0
          replace hz0 := Nat.lt_of_lt_of_le hz0 b1.size
          replace hb := hb.trans (b1.mono hb.size)
          clear b1
          have p5 := (cell_of_row W3 _ 5 _ _ _ g0).trans (show _ = some (v5) from rfl)
          go_wp2_with fail
          clear p5
          refine (szFinishedS_Y v5 x5 (k0 - ((zL tVersionS x0 : Nat) : Int) - ((zL tInt x3 : Nat) : Int) - ((zL tActive x4 : Nat) : Int)) W3 (slR_below tFinished_law H5.out hb) HZ5.out HK5.out).mono ?_
          rintro e W4 ⟨rfl, b1⟩
          replace g0 := (b1.block w.heap.size hz0).trans g0
          replace hz0 := Nat.lt_of_lt_of_le hz0 b1.size
          replace hb := hb.trans (b1.mono hb.size)
          clear b1
          have p6 := (cell_of_row W4 _ 6 _ _ _ g0).trans (show _ = some (v6) from rfl)
          go_wp2_with fail
          clear p6
          refine (szChargeS_N v6 x6 (k0 - ((zL tVersionS x0 : Nat) : Int) - ((zL tInt x3 : Nat) : Int) - ((zL tActive x4 : Nat) : Int) - ((zL tFinished x5 : Nat) : Int)) W4 (slR_below tCharge_law H6.out hb) HZ6.out HK6.out HP6.out HO6.out).mono ?_
          rintro e W5 ⟨rfl, b1⟩
          replace g0 := (b1.block w.heap.size hz0).trans g0
          replace hz0 := Nat.lt_of_lt_of_le hz0 b1.size
          replace hb := hb.trans (b1.mono hb.size)
          clear b1
          go_wp2
          go_ret
          exact ⟨rfl, hb⟩
set_option maxHeartbeats 8000000 in
set_option maxRecDepth 100000 in
theorem toEngine_T (a1 a2 a7 : Int) (v0 v3 v4 v5 v6 : Value) (x0 : List (List (Int × List Int × Int × Int))) (x3 : List Int) (x4 : List ((Int × Int × List (Int × Int × Int) × List Int) × Int × List Int × Int × Int × Int × List (Int × List Int))) (x5 : List ((Int × Int × List (Int × Int × Int) × List Int) × Int × Int × List (Int × List Int))) (x6 : List (Int × Int × List Int × List Int × List Int)) (w : World) (h0 : SlR tVersionS w v0 x0) (h3 : SlR tInt w v3 x3) (h4 : SlR tActive w v4 x4) (h5 : SlR tFinished w v5 x5) (h6 : SlR tCharge w v6 x6) (s0 : zL tVersionS x0 ≤ 1048576) (s3 : zL tInt x3 ≤ 1048576) (s4 : zL tActive x4 ≤ 1048576) (s5 : zL tFinished x5 ≤ 1048576) (s6 : zL tCharge x6 ≤ 1048576) :
    Calls Tryz.prog 10 #[.agg #[v0, .int .i64 a1, .int .i64 a2, v3, v4, v5, v6, .int .i64 a7]] w (FreshT tEngine (fun cs => .agg cs.toArray) w ((x0, a1), a2, x3, x4, x5, x6, a7)) := by
  have H0 := Lib.hid h0
  have H3 := Lib.hid h3
  have H4 := Lib.hid h4
  have H5 := Lib.hid h5
  have H6 := Lib.hid h6
  clear h0 h3 h4 h5 h6
  have S0 := Lib.hid s0
  have S3 := Lib.hid s3
  have S4 := Lib.hid s4
  have S5 := Lib.hid s5
  have S6 := Lib.hid s6
  clear s0 s3 s4 s5 s6
  go_enter Tryz.func10, Tryz.ntmps10
  go_wp2_with fail
  have hb : Below w.heap.size w (((w.alloc (.cells #[v0, .int .i64 a1, .int .i64 a2, v3, v4, v5, v6, .int .i64 a7] 30)).alloc (.cells #[.slice none 0 0, .int .i64 0, .int .i64 0, .slice none 0 0, .slice none 0 0, .slice none 0 0, .slice none 0 0, .int .i64 0] 40)).alloc (.cells #[.slice none 0 0, .int .i64 0, .int .i64 0, .slice none 0 0, .slice none 0 0, .slice none 0 0, .slice none 0 0, .int .i64 0] 40)) := (((Below.refl _ w).alloc (Nat.le_refl _) _).alloc (by simp) _).alloc (by simp; omega) _
  have g2 : (((w.alloc (.cells #[v0, .int .i64 a1, .int .i64 a2, v3, v4, v5, v6, .int .i64 a7] 30)).alloc (.cells #[.slice none 0 0, .int .i64 0, .int .i64 0, .slice none 0 0, .slice none 0 0, .slice none 0 0, .slice none 0 0, .int .i64 0] 40)).alloc (.cells #[.slice none 0 0, .int .i64 0, .int .i64 0, .slice none 0 0, .slice none 0 0, .slice none 0 0, .slice none 0 0, .int .i64 0] 40)).heap[w.heap.size + 1 + 1]? = some (.cells #[.slice none 0 0, .int .i64 0, .int .i64 0, .slice none 0 0, .slice none 0 0, .slice none 0 0, .slice none 0 0, .int .i64 0] 40 (0, 0)) := by
    have := heap_alloc_new ((w.alloc (.cells #[v0, .int .i64 a1, .int .i64 a2, v3, v4, v5, v6, .int .i64 a7] 30)).alloc (.cells #[.slice none 0 0, .int .i64 0, .int .i64 0, .slice none 0 0, .slice none 0 0, .slice none 0 0, .slice none 0 0, .int .i64 0] 40)) (.cells #[.slice none 0 0, .int .i64 0, .int .i64 0, .slice none 0 0, .slice none 0 0, .slice none 0 0, .slice none 0 0, .int .i64 0] 40)
    simpa only [World.size_alloc] using this
  have g1 : (((w.alloc (.cells #[v0, .int .i64 a1, .int .i64 a2, v3, v4, v5, v6, .int .i64 a7] 30)).alloc (.cells #[.slice none 0 0, .int .i64 0, .int .i64 0, .slice none 0 0, .slice none 0 0, .slice none 0 0, .slice none 0 0, .int .i64 0] 40)).alloc (.cells #[.slice none 0 0, .int .i64 0, .int .i64 0, .slice none 0 0, .slice none 0 0, .slice none 0 0, .slice none 0 0, .int .i64 0] 40)).heap[w.heap.size + 1]? = some (.cells #[.slice none 0 0, .int .i64 0, .int .i64 0, .slice none 0 0, .slice none 0 0, .slice none 0 0, .slice none 0 0, .int .i64 0] 40 (0, 0)) := by
    have := heap_alloc_new (w.alloc (.cells #[v0, .int .i64 a1, .int .i64 a2, v3, v4, v5, v6, .int .i64 a7] 30)) (.cells #[.slice none 0 0, .int .i64 0, .int .i64 0, .slice none 0 0, .slice none 0 0, .slice none 0 0, .slice none 0 0, .int .i64 0] 40)
    rw [Below.heap_alloc _ _ _ (by simp)]
    simpa only [World.size_alloc] using this
  have g0 : (((w.alloc (.cells #[v0, .int .i64 a1, .int .i64 a2, v3, v4, v5, v6, .int .i64 a7] 30)).alloc (.cells #[.slice none 0 0, .int .i64 0, .int .i64 0, .slice none 0 0, .slice none 0 0, .slice none 0 0, .slice none 0 0, .int .i64 0] 40)).alloc (.cells #[.slice none 0 0, .int .i64 0, .int .i64 0, .slice none 0 0, .slice none 0 0, .slice none 0 0, .slice none 0 0, .int .i64 0] 40)).heap[w.heap.size]? = some (.cells #[v0, .int .i64 a1, .int .i64 a2, v3, v4, v5, v6, .int .i64 a7] 30 (0, 0)) := by
    rw [Below.heap_alloc _ _ _ (by simp; omega), Below.heap_alloc _ _ _ (by simp)]
    exact heap_alloc_new w _
  have hz : w.heap.size + 2 < (((w.alloc (.cells #[v0, .int .i64 a1, .int .i64 a2, v3, v4, v5, v6, .int .i64 a7] 30)).alloc (.cells #[.slice none 0 0, .int .i64 0, .int .i64 0, .slice none 0 0, .slice none 0 0, .slice none 0 0, .slice none 0 0, .int .i64 0] 40)).alloc (.cells #[.slice none 0 0, .int .i64 0, .int .i64 0, .slice none 0 0, .slice none 0 0, .slice none 0 0, .slice none 0 0, .int .i64 0] 40)).heap.size := by simp [World.size_alloc]
  generalize (((w.alloc (.cells #[v0, .int .i64 a1, .int .i64 a2, v3, v4, v5, v6, .int .i64 a7] 30)).alloc (.cells #[.slice none 0 0, .int .i64 0, .int .i64 0, .slice none 0 0, .slice none 0 0, .slice none 0 0, .slice none 0 0, .int .i64 0] 40)).alloc (.cells #[.slice none 0 0, .int .i64 0, .int .i64 0, .slice none 0 0, .slice none 0 0, .slice none 0 0, .slice none 0 0, .int .i64 0] 40)) = W at *
  refine (toStore_T a1 v0 x0 W (slR_below tVersionS_law H0.out hb) S0.out).mono ?_
  rintro e w1 ⟨cs, rfl, ow, b1⟩
  replace ow := tStore_law.mono (tStore_law.lt ow) (F' := fun b => W.heap.size ≤ b ∧ b < w1.heap.size) (fun b h => h)
  obtain ⟨u0, F0, rfl, o0, q0⟩ := tStore_O ow
  obtain ⟨ua0, uc0, rfl⟩ := slO_len o0
  replace g0 := (b1.block _ (by omega)).trans g0
  replace g1 := (b1.block _ (by omega)).trans g1
  replace g2 := (b1.block _ (by omega)).trans g2
  have zz1 := b1.size
  replace hb := hb.trans (b1.mono (by omega))
  clear b1
  have c2_0 := (cell_of_row w1 _ 0 _ _ _ g2).trans (show _ = some (Value.slice none 0 0) from rfl)
  have f2_0 := frozen_of_row w1 _ 0 _ _ g2
  have c2_1 := (cell_of_row w1 _ 1 _ _ _ g2).trans (show _ = some (Value.int .i64 0) from rfl)
  have f2_1 := frozen_of_row w1 _ 1 _ _ g2
  have c2_2 := (cell_of_row w1 _ 2 _ _ _ g2).trans (show _ = some (Value.int .i64 0) from rfl)
  have f2_2 := frozen_of_row w1 _ 2 _ _ g2
  have ne1 : ¬ w.heap.size = w.heap.size + 1 + 1 := by omega
  have ne2 : ¬ w.heap.size + 1 = w.heap.size + 1 + 1 := by omega
  have ne3 : ¬ w.heap.size + 1 + 1 = w.heap.size + 1 := by omega
  have c0_2 := (cell_of_row w1 _ 2 _ _ _ g0).trans (show _ = some (Value.int .i64 a2) from rfl)
  have c0_3 := (cell_of_row w1 _ 3 _ _ _ g0).trans (show _ = some (v3) from rfl)
  have l0_2 : ((w1.setCell ⟨w.heap.size + 1 + 1, 0, none⟩ (.slice ua0 x0.length uc0)).setCell ⟨w.heap.size + 1 + 1, 1, none⟩ (.int .i64 a1)).cell? ⟨w.heap.size, 2, none⟩ = some (Value.int .i64 a2) := by
    have m : ((w1.setCell ⟨w.heap.size + 1 + 1, 0, none⟩ (.slice ua0 x0.length uc0)).setCell ⟨w.heap.size + 1 + 1, 1, none⟩ (.int .i64 a1)).heap[w.heap.size]? = some (.cells #[v0, .int .i64 a1, .int .i64 a2, v3, v4, v5, v6, .int .i64 a7] 30 (0, 0)) := by
      repeat rw [heap_setCell_other _ _ _ _ (by simp <;> omega)]
      exact g0
    exact (cell_of_row _ _ 2 _ _ _ m).trans rfl
  have l0_3 : (((w1.setCell ⟨w.heap.size + 1 + 1, 0, none⟩ (.slice ua0 x0.length uc0)).setCell ⟨w.heap.size + 1 + 1, 1, none⟩ (.int .i64 a1)).setCell ⟨w.heap.size + 1 + 1, 2, none⟩ (.int .i64 a2)).cell? ⟨w.heap.size, 3, none⟩ = some (v3) := by
    have m : (((w1.setCell ⟨w.heap.size + 1 + 1, 0, none⟩ (.slice ua0 x0.length uc0)).setCell ⟨w.heap.size + 1 + 1, 1, none⟩ (.int .i64 a1)).setCell ⟨w.heap.size + 1 + 1, 2, none⟩ (.int .i64 a2)).heap[w.heap.size]? = some (.cells #[v0, .int .i64 a1, .int .i64 a2, v3, v4, v5, v6, .int .i64 a7] 30 (0, 0)) := by
      repeat rw [heap_setCell_other _ _ _ _ (by simp <;> omega)]
      exact g0
    exact (cell_of_row _ _ 3 _ _ _ m).trans rfl
  go_wp2_with fail
  clear c2_0 f2_0 c2_1 f2_1 c2_2 f2_2 ne1 ne2 ne3 c0_2 c0_3 l0_2 l0_3
  have hw : Turn (fun b => b = w.heap.size + 1 + 1) w1 (((w1.setCell ⟨w.heap.size + 1 + 1, 0, none⟩ (.slice ua0 x0.length uc0)).setCell ⟨w.heap.size + 1 + 1, 1, none⟩ (.int .i64 a1)).setCell ⟨w.heap.size + 1 + 1, 2, none⟩ (.int .i64 a2)) := by
    first | exact ((((Turn.refl (fun b => b = w.heap.size + 1 + 1) _).trans (turn_set (G := fun b => b = w.heap.size + 1 + 1) (g := w.heap.size + 1 + 1) (j := 0) (u := .slice ua0 x0.length uc0) rfl)).trans (turn_set (G := fun b => b = w.heap.size + 1 + 1) (g := w.heap.size + 1 + 1) (j := 1) (u := .int .i64 a1) rfl)).trans (turn_set (G := fun b => b = w.heap.size + 1 + 1) (g := w.heap.size + 1 + 1) (j := 2) (u := .int .i64 a2) rfl)) | skip
  replace g0 := (hw.block _ (by omega) (by omega)).trans g0
  replace g1 := (hw.block _ (by omega) (by omega)).trans g1
  have g2n := (heap_setCell_same _ (w.heap.size + 1 + 1) 2 _ _ (.int .i64 a2) (heap_setCell_same _ (w.heap.size + 1 + 1) 1 _ _ (.int .i64 a1) (heap_setCell_same _ (w.heap.size + 1 + 1) 0 _ _ (.slice ua0 x0.length uc0) g2)))
  replace g2 : (((w1.setCell ⟨w.heap.size + 1 + 1, 0, none⟩ (.slice ua0 x0.length uc0)).setCell ⟨w.heap.size + 1 + 1, 1, none⟩ (.int .i64 a1)).setCell ⟨w.heap.size + 1 + 1, 2, none⟩ (.int .i64 a2)).heap[w.heap.size + 1 + 1]? = some (.cells #[.slice ua0 x0.length uc0, .int .i64 a1, .int .i64 a2, .slice none 0 0, .slice none 0 0, .slice none 0 0, .slice none 0 0, .int .i64 0] 40 (0, 0)) := by simpa using g2n
  clear g2n
  replace o0 := slO_turn tVersionS_law o0 hw (fun b h1 h2 => by first | (have := h1.1; omega) | (have := q0 b h1; omega))
  replace hb := below_turn hb hw (fun b h => by omega) (by omega)
  have hz0 := hw.size
  clear hw
  generalize (((w1.setCell ⟨w.heap.size + 1 + 1, 0, none⟩ (.slice ua0 x0.length uc0)).setCell ⟨w.heap.size + 1 + 1, 1, none⟩ (.int .i64 a1)).setCell ⟨w.heap.size + 1 + 1, 2, none⟩ (.int .i64 a2)) = W1 at *
  refine (toIntS_S v3 x3 W1 (slR_below tInt_law H3.out hb) S3.out).mono ?_
  rintro e w2 ⟨u3, rfl, o3, b1⟩
  obtain ⟨ua3, uc3, rfl⟩ := slO_len o3
  replace o3 := slO_mono (slO_lt tInt_law o3) (F' := fun b => W1.heap.size ≤ b ∧ b < w2.heap.size) (fun b h => h)
  replace g0 := (b1.block _ (by omega)).trans g0
  replace g1 := (b1.block _ (by omega)).trans g1
  replace g2 := (b1.block _ (by omega)).trans g2
  replace o0 := slO_fresh tVersionS_law o0 b1
  have zz2 := b1.size
  replace hb := hb.trans (b1.mono (by omega))
  clear b1
  have c2_0 := (cell_of_row w2 _ 0 _ _ _ g2).trans (show _ = some (Value.slice ua0 x0.length uc0) from rfl)
  have f2_0 := frozen_of_row w2 _ 0 _ _ g2
  have c2_1 := (cell_of_row w2 _ 1 _ _ _ g2).trans (show _ = some (Value.int .i64 a1) from rfl)
  have f2_1 := frozen_of_row w2 _ 1 _ _ g2
  have c2_2 := (cell_of_row w2 _ 2 _ _ _ g2).trans (show _ = some (Value.int .i64 a2) from rfl)
  have f2_2 := frozen_of_row w2 _ 2 _ _ g2
  have c2_3 := (cell_of_row w2 _ 3 _ _ _ g2).trans (show _ = some (Value.slice none 0 0) from rfl)
  have f2_3 := frozen_of_row w2 _ 3 _ _ g2
  have ne1 : ¬ w.heap.size = w.heap.size + 1 + 1 := by omega
  have ne2 : ¬ w.heap.size + 1 = w.heap.size + 1 + 1 := by omega
  have ne3 : ¬ w.heap.size + 1 + 1 = w.heap.size + 1 := by omega
  have c0_4 := (cell_of_row w2 _ 4 _ _ _ g0).trans (show _ = some (v4) from rfl)
  have l0_4 : (w2.setCell ⟨w.heap.size + 1 + 1, 3, none⟩ (.slice ua3 x3.length uc3)).cell? ⟨w.heap.size, 4, none⟩ = some (v4) := by
    have m : (w2.setCell ⟨w.heap.size + 1 + 1, 3, none⟩ (.slice ua3 x3.length uc3)).heap[w.heap.size]? = some (.cells #[v0, .int .i64 a1, .int .i64 a2, v3, v4, v5, v6, .int .i64 a7] 30 (0, 0)) := by
      repeat rw [heap_setCell_other _ _ _ _ (by simp <;> omega)]
      exact g0
    exact (cell_of_row _ _ 4 _ _ _ m).trans rfl
  go_wp2_with fail
  clear c2_0 f2_0 c2_1 f2_1 c2_2 f2_2 c2_3 f2_3 ne1 ne2 ne3 c0_4 l0_4
  have hw : Turn (fun b => b = w.heap.size + 1 + 1) w2 (w2.setCell ⟨w.heap.size + 1 + 1, 3, none⟩ (.slice ua3 x3.length uc3)) := by
    first | exact ((Turn.refl (fun b => b = w.heap.size + 1 + 1) _).trans (turn_set (G := fun b => b = w.heap.size + 1 + 1) (g := w.heap.size + 1 + 1) (j := 3) (u := .slice ua3 x3.length uc3) rfl)) | skip
  replace g0 := (hw.block _ (by omega) (by omega)).trans g0
  replace g1 := (hw.block _ (by omega) (by omega)).trans g1
  have g2n := (heap_setCell_same _ (w.heap.size + 1 + 1) 3 _ _ (.slice ua3 x3.length uc3) g2)
  replace g2 : (w2.setCell ⟨w.heap.size + 1 + 1, 3, none⟩ (.slice ua3 x3.length uc3)).heap[w.heap.size + 1 + 1]? = some (.cells #[.slice ua0 x0.length uc0, .int .i64 a1, .int .i64 a2, .slice ua3 x3.length uc3, .slice none 0 0, .slice none 0 0, .slice none 0 0, .int .i64 0] 40 (0, 0)) := by simpa using g2n
  clear g2n
  replace o0 := slO_turn tVersionS_law o0 hw (fun b h1 h2 => by first | (have := h1.1; omega) | (have := q0 b h1; omega))
  replace o3 := slO_turn tInt_law o3 hw (fun b h1 h2 => by first | (have := h1.1; omega) | (have := q3 b h1; omega))
  replace hb := below_turn hb hw (fun b h => by omega) (by omega)
  have hz1 := hw.size
  clear hw
  generalize (w2.setCell ⟨w.heap.size + 1 + 1, 3, none⟩ (.slice ua3 x3.length uc3)) = W2 at *
  refine (toActiveS_S v4 x4 W2 (slR_below tActive_law H4.out hb) S4.out).mono ?_
  rintro e w3 ⟨u4, rfl, o4, b1⟩
  obtain ⟨ua4, uc4, rfl⟩ := slO_len o4
  replace o4 := slO_mono (slO_lt tActive_law o4) (F' := fun b => W2.heap.size ≤ b ∧ b < w3.heap.size) (fun b h => h)
  replace g0 := (b1.block _ (by omega)).trans g0
  replace g1 := (b1.block _ (by omega)).trans g1
  replace g2 := (b1.block _ (by omega)).trans g2
  replace o0 := slO_fresh tVersionS_law o0 b1
  replace o3 := slO_fresh tInt_law o3 b1
  have zz3 := b1.size
  replace hb := hb.trans (b1.mono (by omega))
  clear b1
  have c2_0 := (cell_of_row w3 _ 0 _ _ _ g2).trans (show _ = some (Value.slice ua0 x0.length uc0) from rfl)
  have f2_0 := frozen_of_row w3 _ 0 _ _ g2
  have c2_1 := (cell_of_row w3 _ 1 _ _ _ g2).trans (show _ = some (Value.int .i64 a1) from rfl)
  have f2_1 := frozen_of_row w3 _ 1 _ _ g2
  have c2_2 := (cell_of_row w3 _ 2 _ _ _ g2).trans (show _ = some (Value.int .i64 a2) from rfl)
  have f2_2 := frozen_of_row w3 _ 2 _ _ g2
  have c2_3 := (cell_of_row w3 _ 3 _ _ _ g2).trans (show _ = some (Value.slice ua3 x3.length uc3) from rfl)
  have f2_3 := frozen_of_row w3 _ 3 _ _ g2
  have c2_4 := (cell_of_row w3 _ 4 _ _ _ g2).trans (show _ = some (Value.slice none 0 0) from rfl)
  have f2_4 := frozen_of_row w3 _ 4 _ _ g2
  have ne1 : ¬ w.heap.size = w.heap.size + 1 + 1 := by omega
  have ne2 : ¬ w.heap.size + 1 = w.heap.size + 1 + 1 := by omega
  have ne3 : ¬ w.heap.size + 1 + 1 = w.heap.size + 1 := by omega
  have c0_5 := (cell_of_row w3 _ 5 _ _ _ g0).trans (show _ = some (v5) from rfl)
  have l0_5 : (w3.setCell ⟨w.heap.size + 1 + 1, 4, none⟩ (.slice ua4 x4.length uc4)).cell? ⟨w.heap.size, 5, none⟩ = some (v5) := by
    have m : (w3.setCell ⟨w.heap.size + 1 + 1, 4, none⟩ (.slice ua4 x4.length uc4)).heap[w.heap.size]? = some (.cells #[v0, .int .i64 a1, .int .i64 a2, v3, v4, v5, v6, .int .i64 a7] 30 (0, 0)) := by
      repeat rw [heap_setCell_other _ _ _ _ (by simp <;> omega)]
      exact g0
    exact (cell_of_row _ _ 5 _ _ _ m).trans rfl
  go_wp2_with fail
  clear c2_0 f2_0 c2_1 f2_1 c2_2 f2_2 c2_3 f2_3 c2_4 f2_4 ne1 ne2 ne3 c0_5 l0_5
  have hw : Turn (fun b => b = w.heap.size + 1 + 1) w3 (w3.setCell ⟨w.heap.size + 1 + 1, 4, none⟩ (.slice ua4 x4.length uc4)) := by
    first | exact ((Turn.refl (fun b => b = w.heap.size + 1 + 1) _).trans (turn_set (G := fun b => b = w.heap.size + 1 + 1) (g := w.heap.size + 1 + 1) (j := 4) (u := .slice ua4 x4.length uc4) rfl)) | skip
  replace g0 := (hw.block _ (by omega) (by omega)).trans g0
  replace g1 := (hw.block _ (by omega) (by omega)).trans g1
  have g2n := (heap_setCell_same _ (w.heap.size + 1 + 1) 4 _ _ (.slice ua4 x4.length uc4) g2)
  replace g2 : (w3.setCell ⟨w.heap.size + 1 + 1, 4, none⟩ (.slice ua4 x4.length uc4)).heap[w.heap.size + 1 + 1]? = some (.cells #[.slice ua0 x0.length uc0, .int .i64 a1, .int .i64 a2, .slice ua3 x3.length uc3, .slice ua4 x4.length uc4, .slice none 0 0, .slice none 0 0, .int .i64 0] 40 (0, 0)) := by simpa using g2n
  clear g2n
  replace o0 := slO_turn tVersionS_law o0 hw (fun b h1 h2 => by first | (have := h1.1; omega) | (have := q0 b h1; omega))
  replace o3 := slO_turn tInt_law o3 hw (fun b h1 h2 => by first | (have := h1.1; omega) | (have := q3 b h1; omega))
  replace o4 := slO_turn tActive_law o4 hw (fun b h1 h2 => by first | (have := h1.1; omega) | (have := q4 b h1; omega))
  replace hb := below_turn hb hw (fun b h => by omega) (by omega)
  have hz2 := hw.size
  clear hw
  generalize (w3.setCell ⟨w.heap.size + 1 + 1, 4, none⟩ (.slice ua4 x4.length uc4)) = W3 at *
  refine (toFinishedS_S v5 x5 W3 (slR_below tFinished_law H5.out hb) S5.out).mono ?_
  rintro e w4 ⟨u5, rfl, o5, b1⟩
  obtain ⟨ua5, uc5, rfl⟩ := slO_len o5
  replace o5 := slO_mono (slO_lt tFinished_law o5) (F' := fun b => W3.heap.size ≤ b ∧ b < w4.heap.size) (fun b h => h)
  replace g0 := (b1.block _ (by omega)).trans g0
  replace g1 := (b1.block _ (by omega)).trans g1
  replace g2 := (b1.block _ (by omega)).trans g2
  replace o0 := slO_fresh tVersionS_law o0 b1
  replace o3 := slO_fresh tInt_law o3 b1
  replace o4 := slO_fresh tActive_law o4 b1
  have zz4 := b1.size
  replace hb := hb.trans (b1.mono (by omega))
  clear b1
  have c2_0 := (cell_of_row w4 _ 0 _ _ _ g2).trans (show _ = some (Value.slice ua0 x0.length uc0) from rfl)
  have f2_0 := frozen_of_row w4 _ 0 _ _ g2
  have c2_1 := (cell_of_row w4 _ 1 _ _ _ g2).trans (show _ = some (Value.int .i64 a1) from rfl)
  have f2_1 := frozen_of_row w4 _ 1 _ _ g2
  have c2_2 := (cell_of_row w4 _ 2 _ _ _ g2).trans (show _ = some (Value.int .i64 a2) from rfl)
  have f2_2 := frozen_of_row w4 _ 2 _ _ g2
  have c2_3 := (cell_of_row w4 _ 3 _ _ _ g2).trans (show _ = some (Value.slice ua3 x3.length uc3) from rfl)
  have f2_3 := frozen_of_row w4 _ 3 _ _ g2
  have c2_4 := (cell_of_row w4 _ 4 _ _ _ g2).trans (show _ = some (Value.slice ua4 x4.length uc4) from rfl)
  have f2_4 := frozen_of_row w4 _ 4 _ _ g2
  have c2_5 := (cell_of_row w4 _ 5 _ _ _ g2).trans (show _ = some (Value.slice none 0 0) from rfl)
  have f2_5 := frozen_of_row w4 _ 5 _ _ g2
  have ne1 : ¬ w.heap.size = w.heap.size + 1 + 1 := by omega
  have ne2 : ¬ w.heap.size + 1 = w.heap.size + 1 + 1 := by omega
  have ne3 : ¬ w.heap.size + 1 + 1 = w.heap.size + 1 := by omega
  have c0_6 := (cell_of_row w4 _ 6 _ _ _ g0).trans (show _ = some (v6) from rfl)
  have l0_6 : (w4.setCell ⟨w.heap.size + 1 + 1, 5, none⟩ (.slice ua5 x5.length uc5)).cell? ⟨w.heap.size, 6, none⟩ = some (v6) := by
    have m : (w4.setCell ⟨w.heap.size + 1 + 1, 5, none⟩ (.slice ua5 x5.length uc5)).heap[w.heap.size]? = some (.cells #[v0, .int .i64 a1, .int .i64 a2, v3, v4, v5, v6, .int .i64 a7] 30 (0, 0)) := by
      repeat rw [heap_setCell_other _ _ _ _ (by simp <;> omega)]
      exact g0
    exact (cell_of_row _ _ 6 _ _ _ m).trans rfl
  go_wp2_with fail
  clear c2_0 f2_0 c2_1 f2_1 c2_2 f2_2 c2_3 f2_3 c2_4 f2_4 c2_5 f2_5 ne1 ne2 ne3 c0_6 l0_6
  have hw : Turn (fun b => b = w.heap.size + 1 + 1) w4 (w4.setCell ⟨w.heap.size + 1 + 1, 5, none⟩ (.slice ua5 x5.length uc5)) := by
    first | exact ((Turn.refl (fun b => b = w.heap.size + 1 + 1) _).trans (turn_set (G := fun b => b = w.heap.size + 1 + 1) (g := w.heap.size + 1 + 1) (j := 5) (u := .slice ua5 x5.length uc5) rfl)) | skip
  replace g0 := (hw.block _ (by omega) (by omega)).trans g0
  replace g1 := (hw.block _ (by omega) (by omega)).trans g1
  have g2n := (heap_setCell_same _ (w.heap.size + 1 + 1) 5 _ _ (.slice ua5 x5.length uc5) g2)
  replace g2 : (w4.setCell ⟨w.heap.size + 1 + 1, 5, none⟩ (.slice ua5 x5.length uc5)).heap[w.heap.size + 1 + 1]? = some (.cells #[.slice ua0 x0.length uc0, .int .i64 a1, .int .i64 a2, .slice ua3 x3.length uc3, .slice ua4 x4.length uc4, .slice ua5 x5.length uc5, .slice none 0 0, .int .i64 0] 40 (0, 0)) := by simpa using g2n
  clear g2n
  replace o0 := slO_turn tVersionS_law o0 hw (fun b h1 h2 => by first | (have := h1.1; omega) | (have := q0 b h1; omega))
  replace o3 := slO_turn tInt_law o3 hw (fun b h1 h2 => by first | (have := h1.1; omega) | (have := q3 b h1; omega))
  replace o4 := slO_turn tActive_law o4 hw (fun b h1 h2 => by first | (have := h1.1; omega) | (have := q4 b h1; omega))
  replace o5 := slO_turn tFinished_law o5 hw (fun b h1 h2 => by first | (have := h1.1; omega) | (have := q5 b h1; omega))
  replace hb := below_turn hb hw (fun b h => by omega) (by omega)
  have hz3 := hw.size
  clear hw
  generalize (w4.setCell ⟨w.heap.size + 1 + 1, 5, none⟩ (.slice ua5 x5.length uc5)) = W4 at *
  refine (toChargeS_S v6 x6 W4 (slR_below tCharge_law H6.out hb) S6.out).mono ?_
  rintro e w5 ⟨u6, rfl, o6, b1⟩
  obtain ⟨ua6, uc6, rfl⟩ := slO_len o6
  replace o6 := slO_mono (slO_lt tCharge_law o6) (F' := fun b => W4.heap.size ≤ b ∧ b < w5.heap.size) (fun b h => h)
  replace g0 := (b1.block _ (by omega)).trans g0
  replace g1 := (b1.block _ (by omega)).trans g1
  replace g2 := (b1.block _ (by omega)).trans g2
  replace o0 := slO_fresh tVersionS_law o0 b1
  replace o3 := slO_fresh tInt_law o3 b1
  replace o4 := slO_fresh tActive_law o4 b1
  replace o5 := slO_fresh tFinished_law o5 b1
  have zz5 := b1.size
  replace hb := hb.trans (b1.mono (by omega))
  clear b1
  have c2_0 := (cell_of_row w5 _ 0 _ _ _ g2).trans (show _ = some (Value.slice ua0 x0.length uc0) from rfl)
  have f2_0 := frozen_of_row w5 _ 0 _ _ g2
  have c2_1 := (cell_of_row w5 _ 1 _ _ _ g2).trans (show _ = some (Value.int .i64 a1) from rfl)
  have f2_1 := frozen_of_row w5 _ 1 _ _ g2
  have c2_2 := (cell_of_row w5 _ 2 _ _ _ g2).trans (show _ = some (Value.int .i64 a2) from rfl)
  have f2_2 := frozen_of_row w5 _ 2 _ _ g2
  have c2_3 := (cell_of_row w5 _ 3 _ _ _ g2).trans (show _ = some (Value.slice ua3 x3.length uc3) from rfl)
  have f2_3 := frozen_of_row w5 _ 3 _ _ g2
  have c2_4 := (cell_of_row w5 _ 4 _ _ _ g2).trans (show _ = some (Value.slice ua4 x4.length uc4) from rfl)
  have f2_4 := frozen_of_row w5 _ 4 _ _ g2
  have c2_5 := (cell_of_row w5 _ 5 _ _ _ g2).trans (show _ = some (Value.slice ua5 x5.length uc5) from rfl)
  have f2_5 := frozen_of_row w5 _ 5 _ _ g2
  have c2_6 := (cell_of_row w5 _ 6 _ _ _ g2).trans (show _ = some (Value.slice none 0 0) from rfl)
  have f2_6 := frozen_of_row w5 _ 6 _ _ g2
  have c2_7 := (cell_of_row w5 _ 7 _ _ _ g2).trans (show _ = some (Value.int .i64 0) from rfl)
  have f2_7 := frozen_of_row w5 _ 7 _ _ g2
  have ne1 : ¬ w.heap.size = w.heap.size + 1 + 1 := by omega
  have ne2 : ¬ w.heap.size + 1 = w.heap.size + 1 + 1 := by omega
  have ne3 : ¬ w.heap.size + 1 + 1 = w.heap.size + 1 := by omega
  have c0_7 := (cell_of_row w5 _ 7 _ _ _ g0).trans (show _ = some (Value.int .i64 a7) from rfl)
  have c1_0 := (cell_of_row w5 _ 0 _ _ _ g1).trans (show _ = some (Value.slice none 0 0) from rfl)
  have f1_0 := frozen_of_row w5 _ 0 _ _ g1
  have c1_1 := (cell_of_row w5 _ 1 _ _ _ g1).trans (show _ = some (Value.int .i64 0) from rfl)
  have f1_1 := frozen_of_row w5 _ 1 _ _ g1
  have c1_2 := (cell_of_row w5 _ 2 _ _ _ g1).trans (show _ = some (Value.int .i64 0) from rfl)
  have f1_2 := frozen_of_row w5 _ 2 _ _ g1
  have c1_3 := (cell_of_row w5 _ 3 _ _ _ g1).trans (show _ = some (Value.slice none 0 0) from rfl)
  have f1_3 := frozen_of_row w5 _ 3 _ _ g1
  have c1_4 := (cell_of_row w5 _ 4 _ _ _ g1).trans (show _ = some (Value.slice none 0 0) from rfl)
  have f1_4 := frozen_of_row w5 _ 4 _ _ g1
  have c1_5 := (cell_of_row w5 _ 5 _ _ _ g1).trans (show _ = some (Value.slice none 0 0) from rfl)
  have f1_5 := frozen_of_row w5 _ 5 _ _ g1
  have c1_6 := (cell_of_row w5 _ 6 _ _ _ g1).trans (show _ = some (Value.slice none 0 0) from rfl)
  have f1_6 := frozen_of_row w5 _ 6 _ _ g1
  have c1_7 := (cell_of_row w5 _ 7 _ _ _ g1).trans (show _ = some (Value.int .i64 0) from rfl)
  have f1_7 := frozen_of_row w5 _ 7 _ _ g1
  have l0_7 : (w5.setCell ⟨w.heap.size + 1 + 1, 6, none⟩ (.slice ua6 x6.length uc6)).cell? ⟨w.heap.size, 7, none⟩ = some (Value.int .i64 a7) := by
    have m : (w5.setCell ⟨w.heap.size + 1 + 1, 6, none⟩ (.slice ua6 x6.length uc6)).heap[w.heap.size]? = some (.cells #[v0, .int .i64 a1, .int .i64 a2, v3, v4, v5, v6, .int .i64 a7] 30 (0, 0)) := by
      repeat rw [heap_setCell_other _ _ _ _ (by simp <;> omega)]
      exact g0
    exact (cell_of_row _ _ 7 _ _ _ m).trans rfl
  go_wp2
  clear c2_0 f2_0 c2_1 f2_1 c2_2 f2_2 c2_3 f2_3 c2_4 f2_4 c2_5 f2_5 c2_6 f2_6 c2_7 f2_7 ne1 ne2 ne3 c0_7 c1_0 f1_0 c1_1 f1_1 c1_2 f1_2 c1_3 f1_3 c1_4 f1_4 c1_5 f1_5 c1_6 f1_6 c1_7 f1_7 l0_7
  have hw : Turn (fun b => b = w.heap.size + 1 ∨ b = w.heap.size + 1 + 1) w5 ((((((((((w5.setCell ⟨w.heap.size + 1 + 1, 6, none⟩ (.slice ua6 x6.length uc6)).setCell ⟨w.heap.size + 1 + 1, 7, none⟩ (.int .i64 a7)).setCell ⟨w.heap.size + 1, 0, none⟩ (.slice ua0 x0.length uc0)).setCell ⟨w.heap.size + 1, 1, none⟩ (.int .i64 a1)).setCell ⟨w.heap.size + 1, 2, none⟩ (.int .i64 a2)).setCell ⟨w.heap.size + 1, 3, none⟩ (.slice ua3 x3.length uc3)).setCell ⟨w.heap.size + 1, 4, none⟩ (.slice ua4 x4.length uc4)).setCell ⟨w.heap.size + 1, 5, none⟩ (.slice ua5 x5.length uc5)).setCell ⟨w.heap.size + 1, 6, none⟩ (.slice ua6 x6.length uc6)).setCell ⟨w.heap.size + 1, 7, none⟩ (.int .i64 a7)) := by
    first | exact (((((((((((Turn.refl _ _).trans (turn_set (g := w.heap.size + 1 + 1) (j := 6) (u := .slice ua6 x6.length uc6) (Or.inr rfl))).trans (turn_set (g := w.heap.size + 1 + 1) (j := 7) (u := .int .i64 a7) (Or.inr rfl))).trans (turn_set (g := w.heap.size + 1) (j := 0) (u := .slice ua0 x0.length uc0) (Or.inl rfl))).trans (turn_set (g := w.heap.size + 1) (j := 1) (u := .int .i64 a1) (Or.inl rfl))).trans (turn_set (g := w.heap.size + 1) (j := 2) (u := .int .i64 a2) (Or.inl rfl))).trans (turn_set (g := w.heap.size + 1) (j := 3) (u := .slice ua3 x3.length uc3) (Or.inl rfl))).trans (turn_set (g := w.heap.size + 1) (j := 4) (u := .slice ua4 x4.length uc4) (Or.inl rfl))).trans (turn_set (g := w.heap.size + 1) (j := 5) (u := .slice ua5 x5.length uc5) (Or.inl rfl))).trans (turn_set (g := w.heap.size + 1) (j := 6) (u := .slice ua6 x6.length uc6) (Or.inl rfl))).trans (turn_set (g := w.heap.size + 1) (j := 7) (u := .int .i64 a7) (Or.inl rfl))) | skip
  have r := (heap_setCell_same _ (w.heap.size + 1) 7 _ _ (.int .i64 a7) (heap_setCell_same _ (w.heap.size + 1) 6 _ _ (.slice ua6 x6.length uc6) (heap_setCell_same _ (w.heap.size + 1) 5 _ _ (.slice ua5 x5.length uc5) (heap_setCell_same _ (w.heap.size + 1) 4 _ _ (.slice ua4 x4.length uc4) (heap_setCell_same _ (w.heap.size + 1) 3 _ _ (.slice ua3 x3.length uc3) (heap_setCell_same _ (w.heap.size + 1) 2 _ _ (.int .i64 a2) (heap_setCell_same _ (w.heap.size + 1) 1 _ _ (.int .i64 a1) (heap_setCell_same _ (w.heap.size + 1) 0 _ _ (.slice ua0 x0.length uc0) ((heap_setCell_other _ ⟨w.heap.size + 1 + 1, 7, none⟩ (w.heap.size + 1) (.int .i64 a7) (by simp)).trans ((heap_setCell_other _ ⟨w.heap.size + 1 + 1, 6, none⟩ (w.heap.size + 1) (.slice ua6 x6.length uc6) (by simp)).trans g1))))))))))
  have e0 := cell_of_row _ _ 0 _ _ _ r
  have e1 := cell_of_row _ _ 1 _ _ _ r
  have e2 := cell_of_row _ _ 2 _ _ _ r
  have e3 := cell_of_row _ _ 3 _ _ _ r
  have e4 := cell_of_row _ _ 4 _ _ _ r
  have e5 := cell_of_row _ _ 5 _ _ _ r
  have e6 := cell_of_row _ _ 6 _ _ _ r
  have e7 := cell_of_row _ _ 7 _ _ _ r
  simp at e0 e1 e2 e3 e4 e5 e6 e7
  replace o0 := slO_turn tVersionS_law o0 hw (fun b h1 h2 => by first | (have := h1.1; omega) | (have := q0 b h1; omega))
  replace o3 := slO_turn tInt_law o3 hw (fun b h1 h2 => by first | (have := h1.1; omega) | (have := q3 b h1; omega))
  replace o4 := slO_turn tActive_law o4 hw (fun b h1 h2 => by first | (have := h1.1; omega) | (have := q4 b h1; omega))
  replace o5 := slO_turn tFinished_law o5 hw (fun b h1 h2 => by first | (have := h1.1; omega) | (have := q5 b h1; omega))
  replace o6 := slO_turn tCharge_law o6 hw (fun b h1 h2 => by first | (have := h1.1; omega) | (have := q6 b h1; omega))
  replace hb := below_turn hb hw (fun b h => by omega) (by omega)
  refine bodyPost_ret (v := .agg #[.slice ua0 x0.length uc0, .int .i64 a1, .int .i64 a2, .slice ua3 x3.length uc3, .slice ua4 x4.length uc4, .slice ua5 x5.length uc5, .slice ua6 x6.length uc6, .int .i64 a7]) ?_ rfl ?_
  · simp [results, Tryz.f10, go_sem, e0, e1, e2, e3, e4, e5, e6, e7]
  · exact ⟨[.slice ua0 x0.length uc0, .int .i64 a1, .int .i64 a2, .slice ua3 x3.length uc3, .slice ua4 x4.length uc4, .slice ua5 x5.length uc5, .slice ua6 x6.length uc6, .int .i64 a7], rfl, tEngine_mkO o0 o3 o4 o5 o6 (fun b h => by show w.heap.size ≤ b; first | (have := h.1; omega) | (have := q0 b h; omega)) (fun b h => by show w.heap.size ≤ b; first | (have := h.1; omega) | (have := q3 b h; omega)) (fun b h => by show w.heap.size ≤ b; first | (have := h.1; omega) | (have := q4 b h; omega)) (fun b h => by show w.heap.size ≤ b; first | (have := h.1; omega) | (have := q5 b h; omega)) (fun b h => by show w.heap.size ≤ b; first | (have := h.1; omega) | (have := q6 b h; omega)) (fun b h1 h2 => by first | exact d0_3 b h1 h2 | (have := h1.1; have := h1.2; have := h2.1; have := h2.2; omega) | (have := q0 b h1; have := h2.1; have := h2.2; omega) | (have := h1.1; have := h1.2; have := q3 b h2; omega) | (have := q0 b h1; have := q3 b h2; omega)) (fun b h1 h2 => by first | exact d0_4 b h1 h2 | (have := h1.1; have := h1.2; have := h2.1; have := h2.2; omega) | (have := q0 b h1; have := h2.1; have := h2.2; omega) | (have := h1.1; have := h1.2; have := q4 b h2; omega) | (have := q0 b h1; have := q4 b h2; omega)) (fun b h1 h2 => by first | exact d0_5 b h1 h2 | (have := h1.1; have := h1.2; have := h2.1; have := h2.2; omega) | (have := q0 b h1; have := h2.1; have := h2.2; omega) | (have := h1.1; have := h1.2; have := q5 b h2; omega) | (have := q0 b h1; have := q5 b h2; omega)) (fun b h1 h2 => by first | exact d0_6 b h1 h2 | (have := h1.1; have := h1.2; have := h2.1; have := h2.2; omega) | (have := q0 b h1; have := h2.1; have := h2.2; omega) | (have := h1.1; have := h1.2; have := q6 b h2; omega) | (have := q0 b h1; have := q6 b h2; omega)) (fun b h1 h2 => by first | exact d3_4 b h1 h2 | (have := h1.1; have := h1.2; have := h2.1; have := h2.2; omega) | (have := q3 b h1; have := h2.1; have := h2.2; omega) | (have := h1.1; have := h1.2; have := q4 b h2; omega) | (have := q3 b h1; have := q4 b h2; omega)) (fun b h1 h2 => by first | exact d3_5 b h1 h2 | (have := h1.1; have := h1.2; have := h2.1; have := h2.2; omega) | (have := q3 b h1; have := h2.1; have := h2.2; omega) | (have := h1.1; have := h1.2; have := q5 b h2; omega) | (have := q3 b h1; have := q5 b h2; omega)) (fun b h1 h2 => by first | exact d3_6 b h1 h2 | (have := h1.1; have := h1.2; have := h2.1; have := h2.2; omega) | (have := q3 b h1; have := h2.1; have := h2.2; omega) | (have := h1.1; have := h1.2; have := q6 b h2; omega) | (have := q3 b h1; have := q6 b h2; omega)) (fun b h1 h2 => by first | exact d4_5 b h1 h2 | (have := h1.1; have := h1.2; have := h2.1; have := h2.2; omega) | (have := q4 b h1; have := h2.1; have := h2.2; omega) | (have := h1.1; have := h1.2; have := q5 b h2; omega) | (have := q4 b h1; have := q5 b h2; omega)) (fun b h1 h2 => by first | exact d4_6 b h1 h2 | (have := h1.1; have := h1.2; have := h2.1; have := h2.2; omega) | (have := q4 b h1; have := h2.1; have := h2.2; omega) | (have := h1.1; have := h1.2; have := q6 b h2; omega) | (have := q4 b h1; have := q6 b h2; omega)) (fun b h1 h2 => by first | exact d5_6 b h1 h2 | (have := h1.1; have := h1.2; have := h2.1; have := h2.2; omega) | (have := q5 b h1; have := h2.1; have := h2.2; omega) | (have := h1.1; have := h1.2; have := q6 b h2; omega) | (have := q5 b h1; have := q6 b h2; omega)), hb⟩
set_option maxHeartbeats 8000000 in
set_option maxRecDepth 100000 in
theorem eqEngine_T (a1 a2 a7 : Int) (v0 v3 v4 v5 v6 : Value) (x0 : List (List (Int × List Int × Int × Int))) (x3 : List Int) (x4 : List ((Int × Int × List (Int × Int × Int) × List Int) × Int × List Int × Int × Int × Int × List (Int × List Int))) (x5 : List ((Int × Int × List (Int × Int × Int) × List Int) × Int × Int × List (Int × List Int))) (x6 : List (Int × Int × List Int × List Int × List Int)) (u0 u3 u4 u5 u6 : Value) (w : World) (h0 : SlR tVersionS w v0 x0) (h3 : SlR tInt w v3 x3) (h4 : SlR tActive w v4 x4) (h5 : SlR tFinished w v5 x5) (h6 : SlR tCharge w v6 x6) (g0 : SlR tVersionS w u0 x0) (g3 : SlR tInt w u3 x3) (g4 : SlR tActive w u4 x4) (g5 : SlR tFinished w u5 x5) (g6 : SlR tCharge w u6 x6) (s0 : zL tVersionS x0 ≤ 1048576) (s3 : zL tInt x3 ≤ 1048576) (s4 : zL tActive x4 ≤ 1048576) (s5 : zL tFinished x5 ≤ 1048576) (s6 : zL tCharge x6 ≤ 1048576) :
    Calls Tryz.prog 12 #[.agg #[v0, .int .i64 a1, .int .i64 a2, v3, v4, v5, v6, .int .i64 a7], .agg #[u0, .int .i64 a1, .int .i64 a2, u3, u4, u5, u6, .int .i64 a7]] w fun e w' => e = .returned (.bool true) ∧ Below w.heap.size w w' := by
  have H0 := Lib.hid h0; have G0 := Lib.hid g0; have S0 := Lib.hid s0
  have H3 := Lib.hid h3; have G3 := Lib.hid g3; have S3 := Lib.hid s3
  have H4 := Lib.hid h4; have G4 := Lib.hid g4; have S4 := Lib.hid s4
  have H5 := Lib.hid h5; have G5 := Lib.hid g5; have S5 := Lib.hid s5
  have H6 := Lib.hid h6; have G6 := Lib.hid g6; have S6 := Lib.hid s6
  clear h0 g0 s0 h3 g3 s3 h4 g4 s4 h5 g5 s5 h6 g6 s6
  have e1 : (a1 != a1) = false := by simp
  have e2 : (a2 != a2) = false := by simp
  have e7 : (a7 != a7) = false := by simp
  go_enter Tryz.func12, Tryz.ntmps12
  go_wp2_with fail
  have hb : Below w.heap.size w ((w.alloc (.cells #[v0, .int .i64 a1, .int .i64 a2, v3, v4, v5, v6, .int .i64 a7] 40)).alloc (.cells #[u0, .int .i64 a1, .int .i64 a2, u3, u4, u5, u6, .int .i64 a7] 40)) := ((Below.refl _ w).alloc (Nat.le_refl _) _).alloc (by simp) _
  have g1 : ((w.alloc (.cells #[v0, .int .i64 a1, .int .i64 a2, v3, v4, v5, v6, .int .i64 a7] 40)).alloc (.cells #[u0, .int .i64 a1, .int .i64 a2, u3, u4, u5, u6, .int .i64 a7] 40)).heap[w.heap.size + 1]? = some (.cells #[u0, .int .i64 a1, .int .i64 a2, u3, u4, u5, u6, .int .i64 a7] 40 (0, 0)) := by
    have := heap_alloc_new (w.alloc (.cells #[v0, .int .i64 a1, .int .i64 a2, v3, v4, v5, v6, .int .i64 a7] 40)) (.cells #[u0, .int .i64 a1, .int .i64 a2, u3, u4, u5, u6, .int .i64 a7] 40)
    simpa only [World.size_alloc] using this
  have g0 : ((w.alloc (.cells #[v0, .int .i64 a1, .int .i64 a2, v3, v4, v5, v6, .int .i64 a7] 40)).alloc (.cells #[u0, .int .i64 a1, .int .i64 a2, u3, u4, u5, u6, .int .i64 a7] 40)).heap[w.heap.size]? = some (.cells #[v0, .int .i64 a1, .int .i64 a2, v3, v4, v5, v6, .int .i64 a7] 40 (0, 0)) := by
    rw [Below.heap_alloc _ _ _ (by simp)]
    exact heap_alloc_new w _
  have hz : w.heap.size + 1 < ((w.alloc (.cells #[v0, .int .i64 a1, .int .i64 a2, v3, v4, v5, v6, .int .i64 a7] 40)).alloc (.cells #[u0, .int .i64 a1, .int .i64 a2, u3, u4, u5, u6, .int .i64 a7] 40)).heap.size := by simp [World.size_alloc]
  generalize ((w.alloc (.cells #[v0, .int .i64 a1, .int .i64 a2, v3, v4, v5, v6, .int .i64 a7] 40)).alloc (.cells #[u0, .int .i64 a1, .int .i64 a2, u3, u4, u5, u6, .int .i64 a7] 40)) = W at *
  refine (eqStore_T a1 v0 x0 u0 W (slR_below tVersionS_law H0.out hb) (slR_below tVersionS_law G0.out hb) S0.out).mono ?_
  rintro e w1 ⟨rfl, b1⟩
  replace g0 := (b1.block _ (by omega)).trans g0
  replace g1 := (b1.block _ (by omega)).trans g1
  have zz0 := b1.size
  replace hb := hb.trans (b1.mono (by omega))
  clear b1
  have p0_2 := (cell_of_row w1 _ 2 _ _ _ g0).trans (show _ = some (Value.int .i64 a2) from rfl)
  have p1_2 := (cell_of_row w1 _ 2 _ _ _ g1).trans (show _ = some (Value.int .i64 a2) from rfl)
  have p0_3 := (cell_of_row w1 _ 3 _ _ _ g0).trans (show _ = some (v3) from rfl)
  have p1_3 := (cell_of_row w1 _ 3 _ _ _ g1).trans (show _ = some (u3) from rfl)
  go_wp2_with fail
  clear p0_2 p1_2 p0_3 p1_3
  refine (eqIntS_S v3 u3 x3 w1 (slR_below tInt_law H3.out hb) (slR_below tInt_law G3.out hb) S3.out).mono ?_
  rintro e w2 ⟨rfl, b1⟩
  replace g0 := (b1.block _ (by omega)).trans g0
  replace g1 := (b1.block _ (by omega)).trans g1
  have zz1 := b1.size
  replace hb := hb.trans (b1.mono (by omega))
  clear b1
  have p0_4 := (cell_of_row w2 _ 4 _ _ _ g0).trans (show _ = some (v4) from rfl)
  have p1_4 := (cell_of_row w2 _ 4 _ _ _ g1).trans (show _ = some (u4) from rfl)
  go_wp2_with fail
  clear p0_4 p1_4
  refine (eqActiveS_S v4 u4 x4 w2 (slR_below tActive_law H4.out hb) (slR_below tActive_law G4.out hb) S4.out).mono ?_
  rintro e w3 ⟨rfl, b1⟩
  replace g0 := (b1.block _ (by omega)).trans g0
  replace g1 := (b1.block _ (by omega)).trans g1
  have zz2 := b1.size
  replace hb := hb.trans (b1.mono (by omega))
  clear b1
  have p0_5 := (cell_of_row w3 _ 5 _ _ _ g0).trans (show _ = some (v5) from rfl)
  have p1_5 := (cell_of_row w3 _ 5 _ _ _ g1).trans (show _ = some (u5) from rfl)
  go_wp2_with fail
  clear p0_5 p1_5
  refine (eqFinishedS_S v5 u5 x5 w3 (slR_below tFinished_law H5.out hb) (slR_below tFinished_law G5.out hb) S5.out).mono ?_
  rintro e w4 ⟨rfl, b1⟩
  replace g0 := (b1.block _ (by omega)).trans g0
  replace g1 := (b1.block _ (by omega)).trans g1
  have zz3 := b1.size
  replace hb := hb.trans (b1.mono (by omega))
  clear b1
  have p0_6 := (cell_of_row w4 _ 6 _ _ _ g0).trans (show _ = some (v6) from rfl)
  have p1_6 := (cell_of_row w4 _ 6 _ _ _ g1).trans (show _ = some (u6) from rfl)
  go_wp2_with fail
  clear p0_6 p1_6
  refine (eqChargeS_S v6 u6 x6 w4 (slR_below tCharge_law H6.out hb) (slR_below tCharge_law G6.out hb) S6.out).mono ?_
  rintro e w5 ⟨rfl, b1⟩
  replace g0 := (b1.block _ (by omega)).trans g0
  replace g1 := (b1.block _ (by omega)).trans g1
  have zz4 := b1.size
  replace hb := hb.trans (b1.mono (by omega))
  clear b1
  have p0_7 := (cell_of_row w5 _ 7 _ _ _ g0).trans (show _ = some (Value.int .i64 a7) from rfl)
  have p1_7 := (cell_of_row w5 _ 7 _ _ _ g1).trans (show _ = some (Value.int .i64 a7) from rfl)
  go_wp2
  clear p0_7 p1_7
  go_ret
  exact ⟨rfl, hb⟩
end Go.Proofs.YtdhglmoanpkeoaaGreatDoor
namespace Go.Proofs.YtdhglmoanpkeoaaGreatDoor
open Go.RowKit
set_option linter.unusedVariables false
set_option linter.unusedSimpArgs false
theorem act_at {w : World} {v : Value} {l : List ActD} (h : SlR tActive w v l) {k : Nat} (hk : k < l.length) :
    ∃ (b off cap : Nat) (p2 : Option Addr) (c2 : Nat) (p3 : Option Addr) (c3 : Nat) (p5 : Option Addr) (c5 : Nat) (p9 : Option Addr) (c9 : Nat), v = .slice (some ⟨b, off, none⟩) l.length cap ∧ b < w.heap.size ∧ w.cell? ⟨b, off + k * 10, none⟩ = some (.int .i64 (l.getD k a0D).1.1) ∧ w.cell? ⟨b, off + k * 10 + 1, none⟩ = some (.int .i64 (l.getD k a0D).1.2.1) ∧ w.cell? ⟨b, off + k * 10 + 2, none⟩ = some (.slice p2 (l.getD k a0D).1.2.2.1.length c2) ∧ w.cell? ⟨b, off + k * 10 + 3, none⟩ = some (.slice p3 (l.getD k a0D).1.2.2.2.length c3) ∧ w.cell? ⟨b, off + k * 10 + 4, none⟩ = some (.int .i64 (l.getD k a0D).2.1) ∧ w.cell? ⟨b, off + k * 10 + 5, none⟩ = some (.slice p5 (l.getD k a0D).2.2.1.length c5) ∧ w.cell? ⟨b, off + k * 10 + 6, none⟩ = some (.int .i64 (l.getD k a0D).2.2.2.1) ∧ w.cell? ⟨b, off + k * 10 + 7, none⟩ = some (.int .i64 (l.getD k a0D).2.2.2.2.1) ∧ w.cell? ⟨b, off + k * 10 + 8, none⟩ = some (.int .i64 (l.getD k a0D).2.2.2.2.2.1) ∧ w.cell? ⟨b, off + k * 10 + 9, none⟩ = some (.slice p9 (l.getD k a0D).2.2.2.2.2.2.length c9) ∧ SlR tCond w (.slice p2 (l.getD k a0D).1.2.2.1.length c2) (l.getD k a0D).1.2.2.1 ∧ SlR tInt w (.slice p3 (l.getD k a0D).1.2.2.2.length c3) (l.getD k a0D).1.2.2.2 ∧ SlR tInt w (.slice p5 (l.getD k a0D).2.2.1.length c5) (l.getD k a0D).2.2.1 ∧ SlR tRow w (.slice p9 (l.getD k a0D).2.2.2.2.2.2.length c9) (l.getD k a0D).2.2.2.2.2.2 := by
  obtain ⟨b, off, cap, cs, hv, hb, hc, hR⟩ := slR_at h hk
  change tActive.R w cs (l.getD k a0D) at hR
  generalize l.getD k a0D = r at *
  obtain ⟨⟨a0, a1, x2, x3⟩, a4, x5, a6, a7, a8, x9⟩ := r
  obtain ⟨v2, v3, v5, v9, rfl, h2, h3, h5, h9⟩ := tActive_R hR
  obtain ⟨p2, c2, rfl⟩ := slR_len h2
  obtain ⟨p3, c3, rfl⟩ := slR_len h3
  obtain ⟨p5, c5, rfl⟩ := slR_len h5
  obtain ⟨p9, c9, rfl⟩ := slR_len h9
  exact ⟨b, off, cap, p2, c2, p3, c3, p5, c5, p9, c9, hv, hb, hc 0 (by decide), hc 1 (by decide), hc 2 (by decide), hc 3 (by decide), hc 4 (by decide), hc 5 (by decide), hc 6 (by decide), hc 7 (by decide), hc 8 (by decide), hc 9 (by decide), h2, h3, h5, h9⟩
theorem fin_at {w : World} {v : Value} {l : List FinD} (h : SlR tFinished w v l) {k : Nat} (hk : k < l.length) :
    ∃ (b off cap : Nat) (p2 : Option Addr) (c2 : Nat) (p3 : Option Addr) (c3 : Nat) (p6 : Option Addr) (c6 : Nat), v = .slice (some ⟨b, off, none⟩) l.length cap ∧ b < w.heap.size ∧ w.cell? ⟨b, off + k * 7, none⟩ = some (.int .i64 (l.getD k f0D).1.1) ∧ w.cell? ⟨b, off + k * 7 + 1, none⟩ = some (.int .i64 (l.getD k f0D).1.2.1) ∧ w.cell? ⟨b, off + k * 7 + 2, none⟩ = some (.slice p2 (l.getD k f0D).1.2.2.1.length c2) ∧ w.cell? ⟨b, off + k * 7 + 3, none⟩ = some (.slice p3 (l.getD k f0D).1.2.2.2.length c3) ∧ w.cell? ⟨b, off + k * 7 + 4, none⟩ = some (.int .i64 (l.getD k f0D).2.1) ∧ w.cell? ⟨b, off + k * 7 + 5, none⟩ = some (.int .i64 (l.getD k f0D).2.2.1) ∧ w.cell? ⟨b, off + k * 7 + 6, none⟩ = some (.slice p6 (l.getD k f0D).2.2.2.length c6) ∧ SlR tCond w (.slice p2 (l.getD k f0D).1.2.2.1.length c2) (l.getD k f0D).1.2.2.1 ∧ SlR tInt w (.slice p3 (l.getD k f0D).1.2.2.2.length c3) (l.getD k f0D).1.2.2.2 ∧ SlR tRow w (.slice p6 (l.getD k f0D).2.2.2.length c6) (l.getD k f0D).2.2.2 := by
  obtain ⟨b, off, cap, cs, hv, hb, hc, hR⟩ := slR_at h hk
  change tFinished.R w cs (l.getD k f0D) at hR
  generalize l.getD k f0D = r at *
  obtain ⟨⟨a0, a1, x2, x3⟩, a4, a5, x6⟩ := r
  obtain ⟨v2, v3, v6, rfl, h2, h3, h6⟩ := tFinished_R hR
  obtain ⟨p2, c2, rfl⟩ := slR_len h2
  obtain ⟨p3, c3, rfl⟩ := slR_len h3
  obtain ⟨p6, c6, rfl⟩ := slR_len h6
  exact ⟨b, off, cap, p2, c2, p3, c3, p6, c6, hv, hb, hc 0 (by decide), hc 1 (by decide), hc 2 (by decide), hc 3 (by decide), hc 4 (by decide), hc 5 (by decide), hc 6 (by decide), h2, h3, h6⟩
theorem chg_at {w : World} {v : Value} {l : List ChargeD} (h : SlR tCharge w v l) {k : Nat} (hk : k < l.length) :
    ∃ (b off cap : Nat) (p2 : Option Addr) (c2 : Nat) (p3 : Option Addr) (c3 : Nat) (p4 : Option Addr) (c4 : Nat), v = .slice (some ⟨b, off, none⟩) l.length cap ∧ b < w.heap.size ∧ w.cell? ⟨b, off + k * 5, none⟩ = some (.int .i64 (l.getD k x0D).1) ∧ w.cell? ⟨b, off + k * 5 + 1, none⟩ = some (.int .i64 (l.getD k x0D).2.1) ∧ w.cell? ⟨b, off + k * 5 + 2, none⟩ = some (.slice p2 (l.getD k x0D).2.2.1.length c2) ∧ w.cell? ⟨b, off + k * 5 + 3, none⟩ = some (.slice p3 (l.getD k x0D).2.2.2.1.length c3) ∧ w.cell? ⟨b, off + k * 5 + 4, none⟩ = some (.slice p4 (l.getD k x0D).2.2.2.2.length c4) ∧ SlR tInt w (.slice p2 (l.getD k x0D).2.2.1.length c2) (l.getD k x0D).2.2.1 ∧ SlR tInt w (.slice p3 (l.getD k x0D).2.2.2.1.length c3) (l.getD k x0D).2.2.2.1 ∧ SlR tInt w (.slice p4 (l.getD k x0D).2.2.2.2.length c4) (l.getD k x0D).2.2.2.2 := by
  obtain ⟨b, off, cap, cs, hv, hb, hc, hR⟩ := slR_at h hk
  change tCharge.R w cs (l.getD k x0D) at hR
  generalize l.getD k x0D = r at *
  obtain ⟨a0, a1, x2, x3, x4⟩ := r
  obtain ⟨v2, v3, v4, rfl, h2, h3, h4⟩ := tCharge_R hR
  obtain ⟨p2, c2, rfl⟩ := slR_len h2
  obtain ⟨p3, c3, rfl⟩ := slR_len h3
  obtain ⟨p4, c4, rfl⟩ := slR_len h4
  exact ⟨b, off, cap, p2, c2, p3, c3, p4, c4, hv, hb, hc 0 (by decide), hc 1 (by decide), hc 2 (by decide), hc 3 (by decide), hc 4 (by decide), h2, h3, h4⟩
end Go.Proofs.YtdhglmoanpkeoaaGreatDoor
namespace Go.Proofs.YtdhglmoanpkeoaaGreatDoor
open Go.RowKit
set_option linter.unusedVariables false
set_option linter.unusedSimpArgs false
end Go.Proofs.YtdhglmoanpkeoaaGreatDoor
namespace Go.Proofs.YtdhglmoanpkeoaaGreatDoor
open Go.RowKit
set_option linter.unusedVariables false
set_option linter.unusedSimpArgs false
set_option maxHeartbeats 8000000 in
set_option maxRecDepth 100000 in
theorem specL9List (v : Value) (l : List RowD) (w : World) (h : SlR tRow w v l) (hs : zL tRow l ≤ 1048576) :
    Calls Tryz.prog 44 #[v] w (fun e w' => e = .returned (.bool (listB l)) ∧ Below w.heap.size w w') := by
  have hlen := zL_len hs
  have HS := Lib.hid hs
  have H := Lib.hid h
  obtain ⟨a, cap, rfl⟩ := slR_len h
  clear h hs
  go_enter Tryz.func44, Tryz.ntmps44
  go_wp2
  go_loopw [3] (fun i wr => ∃ k : Nat, k ≤ l.length ∧ i = .int .i64 k ∧ Hid (AllTo rowB (0, []) l k) ∧ Below w.heap.size w wr) (fun i _ => l.length - (intOf i).toNat)
  case atStart => exact ⟨0, Nat.zero_le _, rfl, Lib.hid (allTo_zero _ _ _), Below.refl _ _⟩
  case round =>
    obtain ⟨k, hk, rfl, hno, c⟩ := hrel
    by_cases hlt : k < l.length
    · have i1 : (0 : Int) ≤ (k : Int) := by omega
      have i2 : (k : Int) < (l.length : Int) := by omega
      have hz := zL_at HS.out hlt
      obtain ⟨b, off, cap', cs, hv, hbl, hcs, hR⟩ := slR_at (slR_below tRow_law H.out c) hlt
      simp only [Value.slice.injEq] at hv
      obtain ⟨rfl, _, rfl⟩ := hv
      change tRow.R wr cs (l.getD k (0, [])) at hR
      change tRow.sz (l.getD k (0, [])) ≤ 1048576 at hz
      have HST : Hid (rowB (l.getD k (0, [])) = true → AllTo rowB (0, []) l (k + 1)) := Lib.hid (fun g => allTo_step hno.out g)
      have HNO : Hid (rowB (l.getD k (0, [])) = false → listB l = false) := Lib.hid (fun g => by unfold listB; rw [allB_no (0, []) hlt g]; simp)
      have cw := Lib.hid c
      clear hno c hbl
      generalize l.getD k (0, []) = r at *
      obtain ⟨id, xs⟩ := r
      obtain ⟨v1, rfl, h1⟩ := tRow_R hR
      rw [tRow_sz] at hz
      obtain ⟨xa, xc, rfl⟩ := slR_len h1
      have e0 : wr.cell? ⟨b, off + k * 2, none⟩ = some (Value.int .i64 id) := hcs 0 (by decide)
      have e1 : wr.cell? ⟨b, off + k * 2 + 1, none⟩ = some (Value.slice xa xs.length xc) := hcs 1 (by decide)
      have HX := Lib.hid (slR_ints h1)
      have HXL := Lib.hid (zL_len hz)
      clear hcs hR h1 hz
      cases hr : rowB (id, xs) with
      | true =>
        have HT := Lib.hid (HST.out hr)
        have HR := Lib.hid hr
        clear hr HST HNO
        go_wp2_with fail
        refine (specIsRow id (.slice xa xs.length xc) xs wr HX.out HXL.out).mono ?_
        rintro e w2 ⟨rfl, c2⟩
        rw [HR.out]
        have cw2 := Lib.hid (cw.out.trans (c2.mono cw.out.size))
        clear c2 e0 e1
        go_wp2
        go_roundw
        case rel => exact ⟨k + 1, by omega, by go_num, HT, cw2.out⟩
        case measure => simp [intOf]; omega
      | false =>
        have HF := Lib.hid (HNO.out hr)
        have HR := Lib.hid hr
        clear hr HST HNO
        go_wp2_with fail
        refine (specIsRow id (.slice xa xs.length xc) xs wr HX.out HXL.out).mono ?_
        rintro e w2 ⟨rfl, c2⟩
        rw [HR.out]
        have cw2 := Lib.hid (cw.out.trans (c2.mono cw.out.size))
        clear c2 e0 e1
        go_wp2
        go_ret
        exact ⟨ret_b HF.out.symm, cw2.out⟩
    · obtain rfl : k = l.length := by omega
      have HA := Lib.hid (allB_yes (p := rowB) (0, []) hno.out)
      have cw := Lib.hid c
      clear hno c
      by_cases h9 : l.length ≤ 1000
      · have HT : Hid (listB l = true) := Lib.hid (by unfold listB; rw [HA.out, decide_eq_true h9]; rfl)
        have h8 : (l.length : Int) ≤ 1000 := by omega
        clear h9
        go_wp2
        go_ret
        exact ⟨ret_b HT.out.symm, cw.out⟩
      · have HT : Hid (listB l = false) := Lib.hid (by unfold listB; rw [decide_eq_false h9]; rfl)
        have h8 : ¬ (l.length : Int) ≤ 1000 := by omega
        clear h9
        go_wp2
        go_ret
        exact ⟨ret_b (by simpa using HT.out), cw.out⟩
set_option maxHeartbeats 8000000 in
set_option maxRecDepth 100000 in
theorem specL9Todo (v : Value) (l : List Int) (n : Nat) (w : World) (h : Ints w v l) (hn : l.length ≤ 1048576) (hn2 : n ≤ 1048576) :
    Calls Tryz.prog 102 #[v, .int .i64 n] w (fun e w' => e = .returned (.bool (todoB l n)) ∧ Below w.heap.size w w') := by
  have H := Lib.hid h
  obtain ⟨a, cap, rfl⟩ := slR_len (ints_slR h)
  clear h
  go_enter Tryz.func102, Tryz.ntmps102
  go_wp2
  go_loopw [5] (fun i wr => ∃ k : Nat, k ≤ l.length ∧ i = .int .i64 k ∧ Hid (TodoTo l n k) ∧ Below w.heap.size w wr) (fun i _ => l.length - (intOf i).toNat)
  case atStart => exact ⟨0, Nat.zero_le _, rfl, Lib.hid (todoTo_zero _ _), Below.refl _ _⟩
  case round =>
    obtain ⟨k, hk, rfl, hno, c⟩ := hrel
    have cw := Lib.hid c
    by_cases hlt : k < l.length
    · obtain ⟨b, off, cap', hv, hbl, hc⟩ := ints_cell H.out (by omega)
      simp only [Value.slice.injEq] at hv
      obtain ⟨rfl, _, rfl⟩ := hv
      have hcell := (c.cell (p := ⟨b, off + k, none⟩) hbl).trans (hc k hlt)
      have i1 : (0 : Int) ≤ (k : Int) := by omega
      have i2 : (k : Int) < (l.length : Int) := by omega
      by_cases hin : 0 ≤ l.getD k 0 ∧ l.getD k 0 ≤ (n : Int) - 1
      · by_cases hz : k = 0
        · have HS : Hid (TodoTo l n (k + 1)) := Lib.hid (todoTo_step hno.out hin.1 (by omega) (fun g => by omega))
          have HI := Lib.hid (fun W => in_yes (l.getD k 0) 0 ((n : Int) - 1) W hin.1 hin.2)
          have hd : decide (0 < k) = false := by simp [hz]
          have hd2 : decide ((0 : Int) < (k : Int)) = false := by simp [hz]
          clear hc hz hin
          generalize l.getD k 0 = y at *
          go_wp2
          go_quiet ((go_at_call 40; exact Calls.quiet_of_same (HI.out _)))
          go_wp2
          go_roundw
          case rel => exact ⟨k + 1, by omega, by go_num, HS, below_same cw.out rfl rfl rfl rfl⟩
          case measure => simp [intOf]; omega
        · have hcellp := (c.cell (p := ⟨b, off + (k - 1), none⟩) hbl).trans (hc (k - 1) (by omega))
          have HI := Lib.hid (fun W => in_yes (l.getD k 0) 0 ((n : Int) - 1) W hin.1 hin.2)
          have hd : 0 < k := by omega
          have i3 : (0 : Int) ≤ (k : Int) - 1 := by omega
          have i4 : (k : Int) - 1 < (l.length : Int) := by omega
          have i5 : ((k : Int) - 1).toNat = k - 1 := by omega
          have e1 : IntKind.i64.wrap ((k : Int) - 1) = (k : Int) - 1 := IntWalk.i64_in _ (by omega)
          by_cases hle : l.getD k 0 ≤ l.getD (k - 1) 0
          · have HNO : Hid (todoB l n = false) := Lib.hid (decide_eq_false (fun g => todo_no hlt (fun q => by have := q.2 hd; omega) g.2))
            clear hc hz hin
            generalize l.getD (k - 1) 0 = z at *
            generalize l.getD k 0 = y at *
            have hdl : decide (y ≤ z) = true := decide_eq_true hle
            go_wp2
            go_quiet ((go_at_call 40; exact Calls.quiet_of_same (HI.out _)))
            go_wp2
            go_ret
            exact ⟨ret_b HNO.out.symm, below_same cw.out rfl rfl rfl rfl⟩
          · have HS : Hid (TodoTo l n (k + 1)) := Lib.hid (todoTo_step hno.out hin.1 (by omega) (fun _ => by omega))
            clear hc hz hin
            generalize l.getD (k - 1) 0 = z at *
            generalize l.getD k 0 = y at *
            have hdl : decide (y ≤ z) = false := decide_eq_false hle
            go_wp2
            go_quiet ((go_at_call 40; exact Calls.quiet_of_same (HI.out _)))
            go_wp2
            go_roundw
            case rel => exact ⟨k + 1, by omega, by go_num, HS, below_same cw.out rfl rfl rfl rfl⟩
            case measure => simp [intOf]; omega
      · have HNO : Hid (todoB l n = false) := Lib.hid (decide_eq_false (fun g => todo_no hlt (fun q => hin ⟨q.1.1, by omega⟩) g.2))
        have HI := Lib.hid (fun W => in_no (l.getD k 0) 0 ((n : Int) - 1) W hin)
        clear hc hin
        generalize l.getD k 0 = y at *
        go_wp2
        go_quiet ((go_at_call 40; exact Calls.quiet_of_same (HI.out _)))
        go_wp2
        go_ret
        exact ⟨ret_b HNO.out.symm, below_same cw.out rfl rfl rfl rfl⟩
    · obtain rfl : k = l.length := by omega
      have HA := Lib.hid hno.out
      clear hno c
      by_cases h9 : 1 ≤ l.length
      · have HT : Hid (todoB l n = true) := Lib.hid (decide_eq_true ⟨h9, HA.out⟩)
        have h8 : (0 : Int) < (l.length : Int) := by omega
        clear h9
        go_wp2
        go_ret
        exact ⟨ret_b (by rw [HT.out]; exact decide_eq_true (by omega)), cw.out⟩
      · have HT : Hid (todoB l n = false) := Lib.hid (decide_eq_false (fun g => h9 g.1))
        have h8 : ¬ (0 : Int) < (l.length : Int) := by omega
        clear h9
        go_wp2
        go_ret
        exact ⟨ret_b (by rw [HT.out]; exact decide_eq_false (by omega)), cw.out⟩
end Go.Proofs.YtdhglmoanpkeoaaGreatDoor
namespace Go.Proofs.YtdhglmoanpkeoaaGreatDoor
open Go.RowKit
set_option linter.unusedVariables false
set_option linter.unusedSimpArgs false
end Go.Proofs.YtdhglmoanpkeoaaGreatDoor
namespace Go.Proofs.YtdhglmoanpkeoaaGreatDoor
open Go.RowKit
set_option linter.unusedVariables false
set_option linter.unusedSimpArgs false
theorem slR_conds {w : World} {v : Value} {cs : List CondD} (h : SlR tCond w v cs) : CondsR w v cs := by
  rcases h with h | ⟨b, off, cap, us, h1, h2, h3, h4⟩
  · exact Or.inl h
  · refine Or.inr ⟨b, off, cap, h1, h2, h3, fun j hj => ?_⟩
    obtain ⟨hc, hR⟩ := h4 j hj
    have e := tCond_R (a0 := (cs.getD j (0, 0, 0)).1) (a1 := (cs.getD j (0, 0, 0)).2.1) (a2 := (cs.getD j (0, 0, 0)).2.2) hR
    have c0 := hc 0 (by decide); have c1 := hc 1 (by decide); have c2 := hc 2 (by decide)
    simp only [e] at c0 c1 c2
    exact ⟨c0, c1, c2⟩
end Go.Proofs.YtdhglmoanpkeoaaGreatDoor
namespace Go.Proofs.YtdhglmoanpkeoaaGreatDoor
open Go.RowKit
set_option linter.unusedVariables false
set_option linter.unusedSimpArgs false
theorem in_any (a l h : Int) (w : World) : Calls Tryz.prog 40 #[.int .i64 a, .int .i64 l, .int .i64 h] w fun e w' => e = .returned (.bool (decide (l ≤ a ∧ a ≤ h))) ∧ w' = w := by
  by_cases g : l ≤ a ∧ a ≤ h
  · rw [decide_eq_true g]; exact in_yes a l h w g.1 g.2
  · rw [decide_eq_false g]; exact in_no a l h w g
set_option maxHeartbeats 8000000 in
set_option maxRecDepth 100000 in
theorem specIsCharge (sg ba : Int) (iv tv rv : Value) (is ts rs : List Int) (w : World) (h2 : SlR tInt w iv is) (h3 : SlR tInt w tv ts) (h4 : SlR tInt w rv rs) (n2 : is.length ≤ 1048576) (n3 : ts.length ≤ 1048576) (n4 : rs.length ≤ 1048576) :
    Calls Tryz.prog 45 #[.agg #[.int .i64 sg, .int .i64 ba, iv, tv, rv]] w (fun e w' => e = .returned (.bool (chargeB (sg, ba, is, ts, rs))) ∧ Below w.heap.size w w') := by
  obtain ⟨ia, ic, rfl⟩ := slR_len h2
  obtain ⟨ta, tc, rfl⟩ := slR_len h3
  obtain ⟨ra, rc, rfl⟩ := slR_len h4
  have H2 := Lib.hid h2; have H3 := Lib.hid h3; have H4 := Lib.hid h4
  clear h2 h3 h4
  have d := Lib.hid (show Below w.heap.size w (w.alloc (.cells #[.int .i64 sg, .int .i64 ba, .slice ia is.length ic, .slice ta ts.length tc, .slice ra rs.length rc] 95)) from ((Below.refl _ w).alloc (Nat.le_refl _) _))
  have B0 : Hid ((w.alloc (.cells #[.int .i64 sg, .int .i64 ba, .slice ia is.length ic, .slice ta ts.length tc, .slice ra rs.length rc] 95)).heap[w.heap.size]? = some (.cells #[.int .i64 sg, .int .i64 ba, .slice ia is.length ic, .slice ta ts.length tc, .slice ra rs.length rc] 95 (0, 0))) := Lib.hid (by
    exact heap_alloc_new w _)
  have YW : Hid (w.heap.size + 1 ≤ (w.alloc (.cells #[.int .i64 sg, .int .i64 ba, .slice ia is.length ic, .slice ta ts.length tc, .slice ra rs.length rc] 95)).heap.size) := Lib.hid (by simp [World.size_alloc])
  go_enter Tryz.func45, Tryz.ntmps45
  go_wp2_with fail
  generalize (w.alloc (.cells #[.int .i64 sg, .int .i64 ba, .slice ia is.length ic, .slice ta ts.length tc, .slice ra rs.length rc] 95)) = W at *
  refine (specIsSet (.slice ia is.length ic) is W (slR_ints (slR_below tInt_law H2.out d.out)) n2).mono ?_
  rintro e W1 ⟨rfl, c⟩
  replace B0 := Lib.hid ((c.block w.heap.size (Array.getElem?_eq_some_iff.1 B0.out).1).trans B0.out)
  replace d := Lib.hid (d.out.trans (c.mono d.out.size))
  have Z_W1 := Lib.hid (show W.heap.size ≤ W1.heap.size from c.size)
  clear c
  rcases Bool.eq_false_or_eq_true (setB is) with hset | hset
  rotate_left
  · rw [hset]
    have HF := Lib.hid (charge_no1 (x := (sg, ba, is, ts, rs)) hset)
    clear hset
    have p_B0_0 := (cell_of_row W1 _ 0 _ _ _ B0.out).trans (show _ = some (Value.int .i64 sg) from rfl)
    have p_B0_1 := (cell_of_row W1 _ 1 _ _ _ B0.out).trans (show _ = some (Value.int .i64 ba) from rfl)
    have p_B0_2 := (cell_of_row W1 _ 2 _ _ _ B0.out).trans (show _ = some (Value.slice ia is.length ic) from rfl)
    have p_B0_3 := (cell_of_row W1 _ 3 _ _ _ B0.out).trans (show _ = some (Value.slice ta ts.length tc) from rfl)
    have p_B0_4 := (cell_of_row W1 _ 4 _ _ _ B0.out).trans (show _ = some (Value.slice ra rs.length rc) from rfl)
    go_wp2
    clear p_B0_0 p_B0_1 p_B0_2 p_B0_3 p_B0_4
    go_ret
    exact ⟨ret_b HF.out.symm, d.out⟩
  rw [hset]
  have HSET := Lib.hid hset
  clear hset
  by_cases hp1 : is.length ≠ 0
  rotate_left
  · have HF := Lib.hid (charge_no2 (x := (sg, ba, is, ts, rs)) (fun g => by have := g.1.1; simp only at this; omega))
    have f1 : ((is.length : Int) == 0) = true := by simpa using hp1
    clear hp1
    have p_B0_0 := (cell_of_row W1 _ 0 _ _ _ B0.out).trans (show _ = some (Value.int .i64 sg) from rfl)
    have p_B0_1 := (cell_of_row W1 _ 1 _ _ _ B0.out).trans (show _ = some (Value.int .i64 ba) from rfl)
    have p_B0_2 := (cell_of_row W1 _ 2 _ _ _ B0.out).trans (show _ = some (Value.slice ia is.length ic) from rfl)
    have p_B0_3 := (cell_of_row W1 _ 3 _ _ _ B0.out).trans (show _ = some (Value.slice ta ts.length tc) from rfl)
    have p_B0_4 := (cell_of_row W1 _ 4 _ _ _ B0.out).trans (show _ = some (Value.slice ra rs.length rc) from rfl)
    go_wp2
    clear p_B0_0 p_B0_1 p_B0_2 p_B0_3 p_B0_4
    go_ret
    exact ⟨ret_b HF.out.symm, d.out⟩
  have f1 : ((is.length : Int) == 0) = false := by simpa using hp1
  have HP1 := Lib.hid hp1
  clear hp1
  by_cases hp2 : ¬ 8 < is.length
  rotate_left
  · have HF := Lib.hid (charge_no2 (x := (sg, ba, is, ts, rs)) (fun g => by have := g.1.2; simp only at this; omega))
    have f2 : decide ((8 : Int) < (is.length : Int)) = true := decide_eq_true (by omega)
    clear hp2
    have p_B0_0 := (cell_of_row W1 _ 0 _ _ _ B0.out).trans (show _ = some (Value.int .i64 sg) from rfl)
    have p_B0_1 := (cell_of_row W1 _ 1 _ _ _ B0.out).trans (show _ = some (Value.int .i64 ba) from rfl)
    have p_B0_2 := (cell_of_row W1 _ 2 _ _ _ B0.out).trans (show _ = some (Value.slice ia is.length ic) from rfl)
    have p_B0_3 := (cell_of_row W1 _ 3 _ _ _ B0.out).trans (show _ = some (Value.slice ta ts.length tc) from rfl)
    have p_B0_4 := (cell_of_row W1 _ 4 _ _ _ B0.out).trans (show _ = some (Value.slice ra rs.length rc) from rfl)
    go_wp2
    clear p_B0_0 p_B0_1 p_B0_2 p_B0_3 p_B0_4
    go_ret
    exact ⟨ret_b HF.out.symm, d.out⟩
  have f2 : decide ((8 : Int) < (is.length : Int)) = false := decide_eq_false (by omega)
  have HP2 := Lib.hid hp2
  clear hp2
  by_cases hp3 : ts.length = is.length
  rotate_left
  · have HF := Lib.hid (charge_no2 (x := (sg, ba, is, ts, rs)) (fun g => hp3 g.2.1.1))
    have f3 : ((ts.length : Int) != (is.length : Int)) = true := by rw [bne_iff_ne]; omega
    clear hp3
    have p_B0_0 := (cell_of_row W1 _ 0 _ _ _ B0.out).trans (show _ = some (Value.int .i64 sg) from rfl)
    have p_B0_1 := (cell_of_row W1 _ 1 _ _ _ B0.out).trans (show _ = some (Value.int .i64 ba) from rfl)
    have p_B0_2 := (cell_of_row W1 _ 2 _ _ _ B0.out).trans (show _ = some (Value.slice ia is.length ic) from rfl)
    have p_B0_3 := (cell_of_row W1 _ 3 _ _ _ B0.out).trans (show _ = some (Value.slice ta ts.length tc) from rfl)
    have p_B0_4 := (cell_of_row W1 _ 4 _ _ _ B0.out).trans (show _ = some (Value.slice ra rs.length rc) from rfl)
    go_wp2
    clear p_B0_0 p_B0_1 p_B0_2 p_B0_3 p_B0_4
    go_ret
    exact ⟨ret_b HF.out.symm, d.out⟩
  have f3 : ((ts.length : Int) != (is.length : Int)) = false := by rw [bne_eq_false_iff_eq]; omega
  have HP3 := Lib.hid hp3
  clear hp3
  by_cases hp4 : rs.length = is.length
  rotate_left
  · have HF := Lib.hid (charge_no2 (x := (sg, ba, is, ts, rs)) (fun g => hp4 g.2.1.2))
    have f4 : ((rs.length : Int) != (is.length : Int)) = true := by rw [bne_iff_ne]; omega
    clear hp4
    have p_B0_0 := (cell_of_row W1 _ 0 _ _ _ B0.out).trans (show _ = some (Value.int .i64 sg) from rfl)
    have p_B0_1 := (cell_of_row W1 _ 1 _ _ _ B0.out).trans (show _ = some (Value.int .i64 ba) from rfl)
    have p_B0_2 := (cell_of_row W1 _ 2 _ _ _ B0.out).trans (show _ = some (Value.slice ia is.length ic) from rfl)
    have p_B0_3 := (cell_of_row W1 _ 3 _ _ _ B0.out).trans (show _ = some (Value.slice ta ts.length tc) from rfl)
    have p_B0_4 := (cell_of_row W1 _ 4 _ _ _ B0.out).trans (show _ = some (Value.slice ra rs.length rc) from rfl)
    go_wp2
    clear p_B0_0 p_B0_1 p_B0_2 p_B0_3 p_B0_4
    go_ret
    exact ⟨ret_b HF.out.symm, d.out⟩
  have f4 : ((rs.length : Int) != (is.length : Int)) = false := by rw [bne_eq_false_iff_eq]; omega
  have HP4 := Lib.hid hp4
  clear hp4
  have p_B0_0 := (cell_of_row W1 _ 0 _ _ _ B0.out).trans (show _ = some (Value.int .i64 sg) from rfl)
  have p_B0_1 := (cell_of_row W1 _ 1 _ _ _ B0.out).trans (show _ = some (Value.int .i64 ba) from rfl)
  have p_B0_2 := (cell_of_row W1 _ 2 _ _ _ B0.out).trans (show _ = some (Value.slice ia is.length ic) from rfl)
  have p_B0_3 := (cell_of_row W1 _ 3 _ _ _ B0.out).trans (show _ = some (Value.slice ta ts.length tc) from rfl)
  have p_B0_4 := (cell_of_row W1 _ 4 _ _ _ B0.out).trans (show _ = some (Value.slice ra rs.length rc) from rfl)
  go_wp2_with fail
  clear p_B0_0 p_B0_1 p_B0_2 p_B0_3 p_B0_4 f1 f2 f3 f4
  refine (in_any sg 0 7 _).mono ?_
  rintro e wx ⟨rfl, hwx⟩
  obtain rfl := hwx.symm
  rcases Bool.eq_false_or_eq_true (decide (0 ≤ sg ∧ sg ≤ 7)) with hp5 | hp5
  rotate_left
  · rw [hp5]
    have HF := Lib.hid (charge_no2 (x := (sg, ba, is, ts, rs)) (fun g => of_decide_eq_false hp5 g.2.2.1))
    clear hp5
    have p_B0_0 := (cell_of_row W1 _ 0 _ _ _ B0.out).trans (show _ = some (Value.int .i64 sg) from rfl)
    have p_B0_1 := (cell_of_row W1 _ 1 _ _ _ B0.out).trans (show _ = some (Value.int .i64 ba) from rfl)
    have p_B0_2 := (cell_of_row W1 _ 2 _ _ _ B0.out).trans (show _ = some (Value.slice ia is.length ic) from rfl)
    have p_B0_3 := (cell_of_row W1 _ 3 _ _ _ B0.out).trans (show _ = some (Value.slice ta ts.length tc) from rfl)
    have p_B0_4 := (cell_of_row W1 _ 4 _ _ _ B0.out).trans (show _ = some (Value.slice ra rs.length rc) from rfl)
    go_wp2
    clear p_B0_0 p_B0_1 p_B0_2 p_B0_3 p_B0_4
    go_ret
    exact ⟨ret_b HF.out.symm, d.out⟩
  rw [hp5]
  have HP5 := Lib.hid hp5
  clear hp5
  have p_B0_0 := (cell_of_row W1 _ 0 _ _ _ B0.out).trans (show _ = some (Value.int .i64 sg) from rfl)
  have p_B0_1 := (cell_of_row W1 _ 1 _ _ _ B0.out).trans (show _ = some (Value.int .i64 ba) from rfl)
  have p_B0_2 := (cell_of_row W1 _ 2 _ _ _ B0.out).trans (show _ = some (Value.slice ia is.length ic) from rfl)
  have p_B0_3 := (cell_of_row W1 _ 3 _ _ _ B0.out).trans (show _ = some (Value.slice ta ts.length tc) from rfl)
  have p_B0_4 := (cell_of_row W1 _ 4 _ _ _ B0.out).trans (show _ = some (Value.slice ra rs.length rc) from rfl)
  go_wp2_with fail
  clear p_B0_0 p_B0_1 p_B0_2 p_B0_3 p_B0_4
  refine (in_any ba 0 4 _).mono ?_
  rintro e wx ⟨rfl, hwx⟩
  obtain rfl := hwx.symm
  rcases Bool.eq_false_or_eq_true (decide (0 ≤ ba ∧ ba ≤ 4)) with hp6 | hp6
  rotate_left
  · rw [hp6]
    have HF := Lib.hid (charge_no2 (x := (sg, ba, is, ts, rs)) (fun g => of_decide_eq_false hp6 g.2.2.2))
    clear hp6
    have p_B0_0 := (cell_of_row W1 _ 0 _ _ _ B0.out).trans (show _ = some (Value.int .i64 sg) from rfl)
    have p_B0_1 := (cell_of_row W1 _ 1 _ _ _ B0.out).trans (show _ = some (Value.int .i64 ba) from rfl)
    have p_B0_2 := (cell_of_row W1 _ 2 _ _ _ B0.out).trans (show _ = some (Value.slice ia is.length ic) from rfl)
    have p_B0_3 := (cell_of_row W1 _ 3 _ _ _ B0.out).trans (show _ = some (Value.slice ta ts.length tc) from rfl)
    have p_B0_4 := (cell_of_row W1 _ 4 _ _ _ B0.out).trans (show _ = some (Value.slice ra rs.length rc) from rfl)
    go_wp2
    clear p_B0_0 p_B0_1 p_B0_2 p_B0_3 p_B0_4
    go_ret
    exact ⟨ret_b HF.out.symm, d.out⟩
  rw [hp6]
  have HP6 := Lib.hid hp6
  clear hp6
  have HH : Hid (chargeHP (sg, ba, is, ts, rs)) := Lib.hid ⟨⟨by have := HP1.out; show 1 ≤ is.length; omega, by have := HP2.out; show is.length ≤ 8; omega⟩, ⟨HP3.out, HP4.out⟩, of_decide_eq_true HP5.out, of_decide_eq_true HP6.out⟩
  have p_B0_0 := (cell_of_row W1 _ 0 _ _ _ B0.out).trans (show _ = some (Value.int .i64 sg) from rfl)
  have p_B0_1 := (cell_of_row W1 _ 1 _ _ _ B0.out).trans (show _ = some (Value.int .i64 ba) from rfl)
  have p_B0_2 := (cell_of_row W1 _ 2 _ _ _ B0.out).trans (show _ = some (Value.slice ia is.length ic) from rfl)
  have p_B0_3 := (cell_of_row W1 _ 3 _ _ _ B0.out).trans (show _ = some (Value.slice ta ts.length tc) from rfl)
  have p_B0_4 := (cell_of_row W1 _ 4 _ _ _ B0.out).trans (show _ = some (Value.slice ra rs.length rc) from rfl)
  go_wp2
  clear p_B0_0 p_B0_1 p_B0_2 p_B0_3 p_B0_4
  go_loopw [4] (fun i wr => ∃ k : Nat, k ≤ is.length ∧ i = .int .i64 k ∧ Hid (AllTo tenB 0 ts k ∧ AllTo (getB ba) 0 rs k) ∧ Below W1.heap.size W1 wr) (fun i _ => is.length - (intOf i).toNat)
  case atStart => exact ⟨0, Nat.zero_le _, rfl, Lib.hid (⟨allTo_zero _ _ _, allTo_zero _ _ _⟩), Below.refl _ _⟩
  case round =>
    obtain ⟨k, hk, rfl, hno, c⟩ := hrel
    have cw := Lib.hid c
    replace B0 := Lib.hid ((c.block w.heap.size (Array.getElem?_eq_some_iff.1 B0.out).1).trans B0.out)
    replace d := Lib.hid (d.out.trans (c.mono d.out.size))
    clear c
    by_cases hlt : k < is.length
    · have i1 : (0 : Int) ≤ (k : Int) := by omega
      have i2 : (k : Int) < (is.length : Int) := by omega
      have hlt3 : k < ts.length := by have := HP3.out; omega
      have hlt4 : k < rs.length := by have := HP4.out; omega
      have i3 : (k : Int) < (ts.length : Int) := by omega
      have i4 : (k : Int) < (rs.length : Int) := by omega
      obtain ⟨b, off, cap', hv, hbl, hc⟩ := ints_cell (slR_ints H3.out) (by omega)
      simp only [Value.slice.injEq] at hv
      obtain ⟨rfl, _, rfl⟩ := hv
      have hcell := hc k hlt3
      obtain ⟨b2, off2, cap2, hv, hbl2, hc2⟩ := ints_cell (slR_ints H4.out) (by omega)
      simp only [Value.slice.injEq] at hv
      obtain ⟨rfl, _, rfl⟩ := hv
      have hcell2 := hc2 k hlt4
      have N3 : Hid (tenB (ts.getD k 0) = false → chargeB (sg, ba, is, ts, rs) = false) := Lib.hid (fun g => charge_no3 (x := (sg, ba, is, ts, rs)) (allB_no 0 hlt3 g))
      have N4 : Hid (getB ba (rs.getD k 0) = false → chargeB (sg, ba, is, ts, rs) = false) := Lib.hid (fun g => charge_no4 (x := (sg, ba, is, ts, rs)) (allB_no 0 hlt4 g))
      have Y3 : Hid (tenB (ts.getD k 0) = true → AllTo tenB 0 ts (k + 1)) := Lib.hid (fun g => allTo_step hno.out.1 g)
      have Y4 : Hid (getB ba (rs.getD k 0) = true → AllTo (getB ba) 0 rs (k + 1)) := Lib.hid (fun g => allTo_step hno.out.2 g)
      have BL := Lib.hid hbl; have BL2 := Lib.hid hbl2
      clear hc hc2 hno hbl hbl2 hlt3 hlt4
      generalize ts.getD k 0 = y at *
      generalize rs.getD k 0 = z at *
      have T0 := Lib.hid hcell; have R0 := Lib.hid hcell2
      clear hcell hcell2
      by_cases ht : 0 ≤ y ∧ y ≤ 3
      · have HI := Lib.hid (fun W => in_yes y 0 3 W ht.1 ht.2)
        have HY3 := Lib.hid (Y3.out (decide_eq_true ht))
        clear ht
        by_cases hz : 0 ≤ z ∧ z ≤ ba
        · have HI2 := Lib.hid (fun W => in_yes z 0 ba W hz.1 hz.2)
          have HY4 := Lib.hid (Y4.out (decide_eq_true hz))
          clear hz N3 N4 Y3 Y4
          go_wp2
          have p_B0_0 := (cell_of_row wr _ 0 _ _ _ B0.out).trans (show _ = some (Value.int .i64 sg) from rfl)
          have p_B0_1 := (cell_of_row wr _ 1 _ _ _ B0.out).trans (show _ = some (Value.int .i64 ba) from rfl)
          have p_B0_2 := (cell_of_row wr _ 2 _ _ _ B0.out).trans (show _ = some (Value.slice ia is.length ic) from rfl)
          have p_B0_3 := (cell_of_row wr _ 3 _ _ _ B0.out).trans (show _ = some (Value.slice (some ⟨b, off, none⟩) ts.length tc) from rfl)
          have p_B0_4 := (cell_of_row wr _ 4 _ _ _ B0.out).trans (show _ = some (Value.slice (some ⟨b2, off2, none⟩) rs.length rc) from rfl)
          have p_T0 := (d.out.cell (p := ⟨b, off + k, none⟩) BL.out).trans T0.out
          have p_R0 := (d.out.cell (p := ⟨b2, off2 + k, none⟩) BL2.out).trans R0.out
          refine wp_region_held_drew (S := fun w' => w'.cell? ⟨w.heap.size, 0, none⟩ = some (Value.int .i64 sg) ∧ w'.cell? ⟨w.heap.size, 1, none⟩ = some (Value.int .i64 ba) ∧ w'.cell? ⟨w.heap.size, 2, none⟩ = some (Value.slice ia is.length ic) ∧ w'.cell? ⟨w.heap.size, 3, none⟩ = some (Value.slice (some ⟨b, off, none⟩) ts.length tc) ∧ w'.cell? ⟨w.heap.size, 4, none⟩ = some (Value.slice (some ⟨b2, off2, none⟩) rs.length rc) ∧ w'.cell? ⟨b, off + k, none⟩ = some (Value.int .i64 y) ∧ w'.cell? ⟨b2, off2 + k, none⟩ = some (Value.int .i64 z)) (by kernel_rfl) ⟨p_B0_0, p_B0_1, p_B0_2, p_B0_3, p_B0_4, p_T0, p_R0⟩ (fun hHeld => ?_)
          clear p_B0_0 p_B0_1 p_B0_2 p_B0_3 p_B0_4 p_T0 p_R0
          have cdr : Below wr.heap.size wr wr.drew := below_drew (Below.refl _ _)
          replace B0 := Lib.hid ((cdr.block w.heap.size (Array.getElem?_eq_some_iff.1 B0.out).1).trans B0.out)
          replace d := Lib.hid (d.out.trans (cdr.mono d.out.size))
          clear cdr
          refine take_runs (i := 0) (v := ?_) (by simp only [List.getElem?_toArray, List.getElem?_cons_succ, List.getElem?_cons_zero]; rfl) (by kernel_rfl) (by kernel_rfl) (by kernel_rfl) rfl (by exact fun _ _ _ h => h) (by rfl) ?_ (by assumption) ?_
          rotate_left
          · intro w hSw; (try dsimp only at hSw); go_simp; try (with_reducible rfl)
          try simp only [Act.put, List.setIfInBounds_toArray, List.set_cons_zero, List.set_cons_succ]
          refine take_runs (i := 1) (v := ?_) (by simp only [List.getElem?_toArray, List.getElem?_cons_succ, List.getElem?_cons_zero]; rfl) (by kernel_rfl) (by kernel_rfl) (by kernel_rfl) rfl (by exact fun _ _ _ h => h) (by rfl) ?_ (by assumption) ?_
          rotate_left
          · intro w hSw; (try dsimp only at hSw); go_simp; try (with_reducible rfl)
          try simp only [Act.put, List.setIfInBounds_toArray, List.set_cons_zero, List.set_cons_succ]
          refine take_runs (i := 2) (v := ?_) (by simp only [List.getElem?_toArray, List.getElem?_cons_succ, List.getElem?_cons_zero]; rfl) (by kernel_rfl) (by kernel_rfl) (by kernel_rfl) rfl (by exact fun _ _ _ h => h) (by rfl) ?_ (by assumption) ?_
          rotate_left
          · intro w hSw; (try dsimp only at hSw); go_simp; try (with_reducible rfl)
          try simp only [Act.put, List.setIfInBounds_toArray, List.set_cons_zero, List.set_cons_succ]
          refine take_runs (i := 3) (v := ?_) (by simp only [List.getElem?_toArray, List.getElem?_cons_succ, List.getElem?_cons_zero]; rfl) (by kernel_rfl) (by kernel_rfl) (by kernel_rfl) rfl (by exact fun _ _ _ h => h) (by rfl) ?_ (by assumption) ?_
          rotate_left
          · intro w hSw; (try dsimp only at hSw); go_simp; try (with_reducible rfl)
          try simp only [Act.put, List.setIfInBounds_toArray, List.set_cons_zero, List.set_cons_succ]
          refine take_runs (i := 4) (v := ?_) (by simp only [List.getElem?_toArray, List.getElem?_cons_succ, List.getElem?_cons_zero]; rfl) (by kernel_rfl) (by kernel_rfl) (by kernel_rfl) rfl (by exact fun _ _ _ h => h) (by rfl) ?_ (by assumption) ?_
          rotate_left
          · intro w hSw; (try dsimp only at hSw); go_simp; try (with_reducible rfl)
          try simp only [Act.put, List.setIfInBounds_toArray, List.set_cons_zero, List.set_cons_succ]
          refine wpAnyH_ready (rs := [5]) (by kernel_rfl) (by simp) ?_
          refine (AllReadyH.cons (o := _) (by simp only [List.getElem?_toArray, List.getElem?_cons_succ, List.getElem?_cons_zero]; rfl) (fun K hK => ?_) AllReadyH.nil)
          go_simp
          refine (HI.out _).mono ?_
          rintro e wx ⟨rfl, hwx⟩
          obtain rfl := hwx.symm
          have p_B0_0 := (cell_of_row (wr.drew) _ 0 _ _ _ B0.out).trans (show _ = some (Value.int .i64 sg) from rfl)
          have p_B0_1 := (cell_of_row (wr.drew) _ 1 _ _ _ B0.out).trans (show _ = some (Value.int .i64 ba) from rfl)
          have p_B0_2 := (cell_of_row (wr.drew) _ 2 _ _ _ B0.out).trans (show _ = some (Value.slice ia is.length ic) from rfl)
          have p_B0_3 := (cell_of_row (wr.drew) _ 3 _ _ _ B0.out).trans (show _ = some (Value.slice (some ⟨b, off, none⟩) ts.length tc) from rfl)
          have p_B0_4 := (cell_of_row (wr.drew) _ 4 _ _ _ B0.out).trans (show _ = some (Value.slice (some ⟨b2, off2, none⟩) rs.length rc) from rfl)
          have p_T0 := (d.out.cell (p := ⟨b, off + k, none⟩) BL.out).trans T0.out
          have p_R0 := (d.out.cell (p := ⟨b2, off2 + k, none⟩) BL2.out).trans R0.out
          refine hK.out _ _ ⟨p_B0_0, p_B0_1, p_B0_2, p_B0_3, p_B0_4, p_T0, p_R0⟩ (fun hHeld => ?_)
          clear p_B0_0 p_B0_1 p_B0_2 p_B0_3 p_B0_4 p_T0 p_R0
          clear hK K
          try simp only [Act.put, List.setIfInBounds_toArray, List.set_cons_zero, List.set_cons_succ]
          refine take_runs (i := 6) (v := ?_) (by simp only [List.getElem?_toArray, List.getElem?_cons_succ, List.getElem?_cons_zero]; rfl) (by kernel_rfl) (by kernel_rfl) (by kernel_rfl) rfl (by exact fun _ _ _ h => h) (by rfl) ?_ (by assumption) ?_
          rotate_left
          · intro w hSw; (try dsimp only at hSw); go_simp; try (with_reducible rfl)
          try simp only [Act.put, List.setIfInBounds_toArray, List.set_cons_zero, List.set_cons_succ]
          refine take_runs (i := 7) (v := ?_) (by simp only [List.getElem?_toArray, List.getElem?_cons_succ, List.getElem?_cons_zero]; rfl) (by kernel_rfl) (by kernel_rfl) (by kernel_rfl) rfl (by exact fun _ _ _ h => h) (by rfl) ?_ (by assumption) ?_
          rotate_left
          · intro w hSw; (try dsimp only at hSw); go_simp; try (with_reducible rfl)
          try simp only [Act.put, List.setIfInBounds_toArray, List.set_cons_zero, List.set_cons_succ]
          refine take_runs (i := 8) (v := ?_) (by simp only [List.getElem?_toArray, List.getElem?_cons_succ, List.getElem?_cons_zero]; rfl) (by kernel_rfl) (by kernel_rfl) (by kernel_rfl) rfl (by exact fun _ _ _ h => h) (by rfl) ?_ (by assumption) ?_
          rotate_left
          · intro w hSw; (try dsimp only at hSw); go_simp; try (with_reducible rfl)
          try simp only [Act.put, List.setIfInBounds_toArray, List.set_cons_zero, List.set_cons_succ]
          refine take_runs (i := 9) (v := ?_) (by simp only [List.getElem?_toArray, List.getElem?_cons_succ, List.getElem?_cons_zero]; rfl) (by kernel_rfl) (by kernel_rfl) (by kernel_rfl) rfl (by exact fun _ _ _ h => h) (by rfl) ?_ (by assumption) ?_
          rotate_left
          · intro w hSw; (try dsimp only at hSw); go_simp; try (with_reducible rfl)
          try simp only [Act.put, List.setIfInBounds_toArray, List.set_cons_zero, List.set_cons_succ]
          refine take_runs (i := 10) (v := ?_) (by simp only [List.getElem?_toArray, List.getElem?_cons_succ, List.getElem?_cons_zero]; rfl) (by kernel_rfl) (by kernel_rfl) (by kernel_rfl) rfl (by exact fun _ _ _ h => h) (by rfl) ?_ (by assumption) ?_
          rotate_left
          · intro w hSw; (try dsimp only at hSw); go_simp; try (with_reducible rfl)
          try simp only [Act.put, List.setIfInBounds_toArray, List.set_cons_zero, List.set_cons_succ]
          refine take_runs (i := 11) (v := ?_) (by simp only [List.getElem?_toArray, List.getElem?_cons_succ, List.getElem?_cons_zero]; rfl) (by kernel_rfl) (by kernel_rfl) (by kernel_rfl) rfl (by exact fun _ _ _ h => h) (by rfl) ?_ (by assumption) ?_
          rotate_left
          · intro w hSw; (try dsimp only at hSw); go_simp; try (with_reducible rfl)
          try simp only [Act.put, List.setIfInBounds_toArray, List.set_cons_zero, List.set_cons_succ]
          refine take_runs (i := 12) (v := ?_) (by simp only [List.getElem?_toArray, List.getElem?_cons_succ, List.getElem?_cons_zero]; rfl) (by kernel_rfl) (by kernel_rfl) (by kernel_rfl) rfl (by exact fun _ _ _ h => h) (by rfl) ?_ (by assumption) ?_
          rotate_left
          · intro w hSw; (try dsimp only at hSw); go_simp; try (with_reducible rfl)
          try simp only [Act.put, List.setIfInBounds_toArray, List.set_cons_zero, List.set_cons_succ]
          refine take_runs (i := 13) (v := ?_) (by simp only [List.getElem?_toArray, List.getElem?_cons_succ, List.getElem?_cons_zero]; rfl) (by kernel_rfl) (by kernel_rfl) (by kernel_rfl) rfl (by exact fun _ _ _ h => h) (by rfl) ?_ (by assumption) ?_
          rotate_left
          · intro w hSw; (try dsimp only at hSw); go_simp; try (with_reducible rfl)
          try simp only [Act.put, List.setIfInBounds_toArray, List.set_cons_zero, List.set_cons_succ]
          refine take_runs (i := 14) (v := ?_) (by simp only [List.getElem?_toArray, List.getElem?_cons_succ, List.getElem?_cons_zero]; rfl) (by kernel_rfl) (by kernel_rfl) (by kernel_rfl) rfl (by exact fun _ _ _ h => h) (by rfl) ?_ (by assumption) ?_
          rotate_left
          · intro w hSw; (try dsimp only at hSw); go_simp; try (with_reducible rfl)
          try simp only [Act.put, List.setIfInBounds_toArray, List.set_cons_zero, List.set_cons_succ]
          refine wpAnyH_ready (rs := [15]) (by kernel_rfl) (by simp) ?_
          refine (AllReadyH.cons (o := _) (by simp only [List.getElem?_toArray, List.getElem?_cons_succ, List.getElem?_cons_zero]; rfl) (fun K hK => ?_) AllReadyH.nil)
          go_simp
          refine (HI2.out _).mono ?_
          rintro e wx ⟨rfl, hwx⟩
          obtain rfl := hwx.symm
          have p_B0_0 := (cell_of_row (wr.drew) _ 0 _ _ _ B0.out).trans (show _ = some (Value.int .i64 sg) from rfl)
          have p_B0_1 := (cell_of_row (wr.drew) _ 1 _ _ _ B0.out).trans (show _ = some (Value.int .i64 ba) from rfl)
          have p_B0_2 := (cell_of_row (wr.drew) _ 2 _ _ _ B0.out).trans (show _ = some (Value.slice ia is.length ic) from rfl)
          have p_B0_3 := (cell_of_row (wr.drew) _ 3 _ _ _ B0.out).trans (show _ = some (Value.slice (some ⟨b, off, none⟩) ts.length tc) from rfl)
          have p_B0_4 := (cell_of_row (wr.drew) _ 4 _ _ _ B0.out).trans (show _ = some (Value.slice (some ⟨b2, off2, none⟩) rs.length rc) from rfl)
          have p_T0 := (d.out.cell (p := ⟨b, off + k, none⟩) BL.out).trans T0.out
          have p_R0 := (d.out.cell (p := ⟨b2, off2 + k, none⟩) BL2.out).trans R0.out
          refine hK.out _ _ ⟨p_B0_0, p_B0_1, p_B0_2, p_B0_3, p_B0_4, p_T0, p_R0⟩ (fun hHeld => ?_)
          clear p_B0_0 p_B0_1 p_B0_2 p_B0_3 p_B0_4 p_T0 p_R0
          clear hK K
          try simp only [Act.put, List.setIfInBounds_toArray, List.set_cons_zero, List.set_cons_succ]
          refine take_runs (i := 16) (v := ?_) (by simp only [List.getElem?_toArray, List.getElem?_cons_succ, List.getElem?_cons_zero]; rfl) (by kernel_rfl) (by kernel_rfl) (by kernel_rfl) rfl (by exact fun _ _ _ h => h) (by rfl) ?_ (by assumption) ?_
          rotate_left
          · intro w hSw; (try dsimp only at hSw); go_simp; try (with_reducible rfl)
          try simp only [Act.put, List.setIfInBounds_toArray, List.set_cons_zero, List.set_cons_succ]
          refine take_runs (i := 17) (v := ?_) (by simp only [List.getElem?_toArray, List.getElem?_cons_succ, List.getElem?_cons_zero]; rfl) (by kernel_rfl) (by kernel_rfl) (by kernel_rfl) rfl (by exact fun _ _ _ h => h) (by rfl) ?_ (by assumption) ?_
          rotate_left
          · intro w hSw; (try dsimp only at hSw); go_simp; try (with_reducible rfl)
          try simp only [Act.put, List.setIfInBounds_toArray, List.set_cons_zero, List.set_cons_succ]
          refine wpAnyH_done (by kernel_rfl) ?_ _
          clear hHeld
          go_wp2
          go_roundw
          case rel => exact ⟨k + 1, by omega, by go_num, Lib.hid ⟨HY3.out, HY4.out⟩, below_same cw.out rfl rfl rfl rfl⟩
          case measure => simp [intOf]; omega
        · have HI2 := Lib.hid (fun W => in_no z 0 ba W hz)
          have HF := Lib.hid (N4.out (decide_eq_false hz))
          clear hz N3 N4 Y3 Y4
          go_wp2
          have p_B0_0 := (cell_of_row wr _ 0 _ _ _ B0.out).trans (show _ = some (Value.int .i64 sg) from rfl)
          have p_B0_1 := (cell_of_row wr _ 1 _ _ _ B0.out).trans (show _ = some (Value.int .i64 ba) from rfl)
          have p_B0_2 := (cell_of_row wr _ 2 _ _ _ B0.out).trans (show _ = some (Value.slice ia is.length ic) from rfl)
          have p_B0_3 := (cell_of_row wr _ 3 _ _ _ B0.out).trans (show _ = some (Value.slice (some ⟨b, off, none⟩) ts.length tc) from rfl)
          have p_B0_4 := (cell_of_row wr _ 4 _ _ _ B0.out).trans (show _ = some (Value.slice (some ⟨b2, off2, none⟩) rs.length rc) from rfl)
          have p_T0 := (d.out.cell (p := ⟨b, off + k, none⟩) BL.out).trans T0.out
          have p_R0 := (d.out.cell (p := ⟨b2, off2 + k, none⟩) BL2.out).trans R0.out
          refine wp_region_held_drew (S := fun w' => w'.cell? ⟨w.heap.size, 0, none⟩ = some (Value.int .i64 sg) ∧ w'.cell? ⟨w.heap.size, 1, none⟩ = some (Value.int .i64 ba) ∧ w'.cell? ⟨w.heap.size, 2, none⟩ = some (Value.slice ia is.length ic) ∧ w'.cell? ⟨w.heap.size, 3, none⟩ = some (Value.slice (some ⟨b, off, none⟩) ts.length tc) ∧ w'.cell? ⟨w.heap.size, 4, none⟩ = some (Value.slice (some ⟨b2, off2, none⟩) rs.length rc) ∧ w'.cell? ⟨b, off + k, none⟩ = some (Value.int .i64 y) ∧ w'.cell? ⟨b2, off2 + k, none⟩ = some (Value.int .i64 z)) (by kernel_rfl) ⟨p_B0_0, p_B0_1, p_B0_2, p_B0_3, p_B0_4, p_T0, p_R0⟩ (fun hHeld => ?_)
          clear p_B0_0 p_B0_1 p_B0_2 p_B0_3 p_B0_4 p_T0 p_R0
          have cdr : Below wr.heap.size wr wr.drew := below_drew (Below.refl _ _)
          replace B0 := Lib.hid ((cdr.block w.heap.size (Array.getElem?_eq_some_iff.1 B0.out).1).trans B0.out)
          replace d := Lib.hid (d.out.trans (cdr.mono d.out.size))
          clear cdr
          refine take_runs (i := 0) (v := ?_) (by simp only [List.getElem?_toArray, List.getElem?_cons_succ, List.getElem?_cons_zero]; rfl) (by kernel_rfl) (by kernel_rfl) (by kernel_rfl) rfl (by exact fun _ _ _ h => h) (by rfl) ?_ (by assumption) ?_
          rotate_left
          · intro w hSw; (try dsimp only at hSw); go_simp; try (with_reducible rfl)
          try simp only [Act.put, List.setIfInBounds_toArray, List.set_cons_zero, List.set_cons_succ]
          refine take_runs (i := 1) (v := ?_) (by simp only [List.getElem?_toArray, List.getElem?_cons_succ, List.getElem?_cons_zero]; rfl) (by kernel_rfl) (by kernel_rfl) (by kernel_rfl) rfl (by exact fun _ _ _ h => h) (by rfl) ?_ (by assumption) ?_
          rotate_left
          · intro w hSw; (try dsimp only at hSw); go_simp; try (with_reducible rfl)
          try simp only [Act.put, List.setIfInBounds_toArray, List.set_cons_zero, List.set_cons_succ]
          refine take_runs (i := 2) (v := ?_) (by simp only [List.getElem?_toArray, List.getElem?_cons_succ, List.getElem?_cons_zero]; rfl) (by kernel_rfl) (by kernel_rfl) (by kernel_rfl) rfl (by exact fun _ _ _ h => h) (by rfl) ?_ (by assumption) ?_
          rotate_left
          · intro w hSw; (try dsimp only at hSw); go_simp; try (with_reducible rfl)
          try simp only [Act.put, List.setIfInBounds_toArray, List.set_cons_zero, List.set_cons_succ]
          refine take_runs (i := 3) (v := ?_) (by simp only [List.getElem?_toArray, List.getElem?_cons_succ, List.getElem?_cons_zero]; rfl) (by kernel_rfl) (by kernel_rfl) (by kernel_rfl) rfl (by exact fun _ _ _ h => h) (by rfl) ?_ (by assumption) ?_
          rotate_left
          · intro w hSw; (try dsimp only at hSw); go_simp; try (with_reducible rfl)
          try simp only [Act.put, List.setIfInBounds_toArray, List.set_cons_zero, List.set_cons_succ]
          refine take_runs (i := 4) (v := ?_) (by simp only [List.getElem?_toArray, List.getElem?_cons_succ, List.getElem?_cons_zero]; rfl) (by kernel_rfl) (by kernel_rfl) (by kernel_rfl) rfl (by exact fun _ _ _ h => h) (by rfl) ?_ (by assumption) ?_
          rotate_left
          · intro w hSw; (try dsimp only at hSw); go_simp; try (with_reducible rfl)
          try simp only [Act.put, List.setIfInBounds_toArray, List.set_cons_zero, List.set_cons_succ]
          refine wpAnyH_ready (rs := [5]) (by kernel_rfl) (by simp) ?_
          refine (AllReadyH.cons (o := _) (by simp only [List.getElem?_toArray, List.getElem?_cons_succ, List.getElem?_cons_zero]; rfl) (fun K hK => ?_) AllReadyH.nil)
          go_simp
          refine (HI.out _).mono ?_
          rintro e wx ⟨rfl, hwx⟩
          obtain rfl := hwx.symm
          have p_B0_0 := (cell_of_row (wr.drew) _ 0 _ _ _ B0.out).trans (show _ = some (Value.int .i64 sg) from rfl)
          have p_B0_1 := (cell_of_row (wr.drew) _ 1 _ _ _ B0.out).trans (show _ = some (Value.int .i64 ba) from rfl)
          have p_B0_2 := (cell_of_row (wr.drew) _ 2 _ _ _ B0.out).trans (show _ = some (Value.slice ia is.length ic) from rfl)
          have p_B0_3 := (cell_of_row (wr.drew) _ 3 _ _ _ B0.out).trans (show _ = some (Value.slice (some ⟨b, off, none⟩) ts.length tc) from rfl)
          have p_B0_4 := (cell_of_row (wr.drew) _ 4 _ _ _ B0.out).trans (show _ = some (Value.slice (some ⟨b2, off2, none⟩) rs.length rc) from rfl)
          have p_T0 := (d.out.cell (p := ⟨b, off + k, none⟩) BL.out).trans T0.out
          have p_R0 := (d.out.cell (p := ⟨b2, off2 + k, none⟩) BL2.out).trans R0.out
          refine hK.out _ _ ⟨p_B0_0, p_B0_1, p_B0_2, p_B0_3, p_B0_4, p_T0, p_R0⟩ (fun hHeld => ?_)
          clear p_B0_0 p_B0_1 p_B0_2 p_B0_3 p_B0_4 p_T0 p_R0
          clear hK K
          try simp only [Act.put, List.setIfInBounds_toArray, List.set_cons_zero, List.set_cons_succ]
          refine take_runs (i := 6) (v := ?_) (by simp only [List.getElem?_toArray, List.getElem?_cons_succ, List.getElem?_cons_zero]; rfl) (by kernel_rfl) (by kernel_rfl) (by kernel_rfl) rfl (by exact fun _ _ _ h => h) (by rfl) ?_ (by assumption) ?_
          rotate_left
          · intro w hSw; (try dsimp only at hSw); go_simp; try (with_reducible rfl)
          try simp only [Act.put, List.setIfInBounds_toArray, List.set_cons_zero, List.set_cons_succ]
          refine take_runs (i := 7) (v := ?_) (by simp only [List.getElem?_toArray, List.getElem?_cons_succ, List.getElem?_cons_zero]; rfl) (by kernel_rfl) (by kernel_rfl) (by kernel_rfl) rfl (by exact fun _ _ _ h => h) (by rfl) ?_ (by assumption) ?_
          rotate_left
          · intro w hSw; (try dsimp only at hSw); go_simp; try (with_reducible rfl)
          try simp only [Act.put, List.setIfInBounds_toArray, List.set_cons_zero, List.set_cons_succ]
          refine take_runs (i := 8) (v := ?_) (by simp only [List.getElem?_toArray, List.getElem?_cons_succ, List.getElem?_cons_zero]; rfl) (by kernel_rfl) (by kernel_rfl) (by kernel_rfl) rfl (by exact fun _ _ _ h => h) (by rfl) ?_ (by assumption) ?_
          rotate_left
          · intro w hSw; (try dsimp only at hSw); go_simp; try (with_reducible rfl)
          try simp only [Act.put, List.setIfInBounds_toArray, List.set_cons_zero, List.set_cons_succ]
          refine take_runs (i := 9) (v := ?_) (by simp only [List.getElem?_toArray, List.getElem?_cons_succ, List.getElem?_cons_zero]; rfl) (by kernel_rfl) (by kernel_rfl) (by kernel_rfl) rfl (by exact fun _ _ _ h => h) (by rfl) ?_ (by assumption) ?_
          rotate_left
          · intro w hSw; (try dsimp only at hSw); go_simp; try (with_reducible rfl)
          try simp only [Act.put, List.setIfInBounds_toArray, List.set_cons_zero, List.set_cons_succ]
          refine take_runs (i := 10) (v := ?_) (by simp only [List.getElem?_toArray, List.getElem?_cons_succ, List.getElem?_cons_zero]; rfl) (by kernel_rfl) (by kernel_rfl) (by kernel_rfl) rfl (by exact fun _ _ _ h => h) (by rfl) ?_ (by assumption) ?_
          rotate_left
          · intro w hSw; (try dsimp only at hSw); go_simp; try (with_reducible rfl)
          try simp only [Act.put, List.setIfInBounds_toArray, List.set_cons_zero, List.set_cons_succ]
          refine take_runs (i := 11) (v := ?_) (by simp only [List.getElem?_toArray, List.getElem?_cons_succ, List.getElem?_cons_zero]; rfl) (by kernel_rfl) (by kernel_rfl) (by kernel_rfl) rfl (by exact fun _ _ _ h => h) (by rfl) ?_ (by assumption) ?_
          rotate_left
          · intro w hSw; (try dsimp only at hSw); go_simp; try (with_reducible rfl)
          try simp only [Act.put, List.setIfInBounds_toArray, List.set_cons_zero, List.set_cons_succ]
          refine take_runs (i := 12) (v := ?_) (by simp only [List.getElem?_toArray, List.getElem?_cons_succ, List.getElem?_cons_zero]; rfl) (by kernel_rfl) (by kernel_rfl) (by kernel_rfl) rfl (by exact fun _ _ _ h => h) (by rfl) ?_ (by assumption) ?_
          rotate_left
          · intro w hSw; (try dsimp only at hSw); go_simp; try (with_reducible rfl)
          try simp only [Act.put, List.setIfInBounds_toArray, List.set_cons_zero, List.set_cons_succ]
          refine take_runs (i := 13) (v := ?_) (by simp only [List.getElem?_toArray, List.getElem?_cons_succ, List.getElem?_cons_zero]; rfl) (by kernel_rfl) (by kernel_rfl) (by kernel_rfl) rfl (by exact fun _ _ _ h => h) (by rfl) ?_ (by assumption) ?_
          rotate_left
          · intro w hSw; (try dsimp only at hSw); go_simp; try (with_reducible rfl)
          try simp only [Act.put, List.setIfInBounds_toArray, List.set_cons_zero, List.set_cons_succ]
          refine take_runs (i := 14) (v := ?_) (by simp only [List.getElem?_toArray, List.getElem?_cons_succ, List.getElem?_cons_zero]; rfl) (by kernel_rfl) (by kernel_rfl) (by kernel_rfl) rfl (by exact fun _ _ _ h => h) (by rfl) ?_ (by assumption) ?_
          rotate_left
          · intro w hSw; (try dsimp only at hSw); go_simp; try (with_reducible rfl)
          try simp only [Act.put, List.setIfInBounds_toArray, List.set_cons_zero, List.set_cons_succ]
          refine wpAnyH_ready (rs := [15]) (by kernel_rfl) (by simp) ?_
          refine (AllReadyH.cons (o := _) (by simp only [List.getElem?_toArray, List.getElem?_cons_succ, List.getElem?_cons_zero]; rfl) (fun K hK => ?_) AllReadyH.nil)
          go_simp
          refine (HI2.out _).mono ?_
          rintro e wx ⟨rfl, hwx⟩
          obtain rfl := hwx.symm
          have p_B0_0 := (cell_of_row (wr.drew) _ 0 _ _ _ B0.out).trans (show _ = some (Value.int .i64 sg) from rfl)
          have p_B0_1 := (cell_of_row (wr.drew) _ 1 _ _ _ B0.out).trans (show _ = some (Value.int .i64 ba) from rfl)
          have p_B0_2 := (cell_of_row (wr.drew) _ 2 _ _ _ B0.out).trans (show _ = some (Value.slice ia is.length ic) from rfl)
          have p_B0_3 := (cell_of_row (wr.drew) _ 3 _ _ _ B0.out).trans (show _ = some (Value.slice (some ⟨b, off, none⟩) ts.length tc) from rfl)
          have p_B0_4 := (cell_of_row (wr.drew) _ 4 _ _ _ B0.out).trans (show _ = some (Value.slice (some ⟨b2, off2, none⟩) rs.length rc) from rfl)
          have p_T0 := (d.out.cell (p := ⟨b, off + k, none⟩) BL.out).trans T0.out
          have p_R0 := (d.out.cell (p := ⟨b2, off2 + k, none⟩) BL2.out).trans R0.out
          refine hK.out _ _ ⟨p_B0_0, p_B0_1, p_B0_2, p_B0_3, p_B0_4, p_T0, p_R0⟩ (fun hHeld => ?_)
          clear p_B0_0 p_B0_1 p_B0_2 p_B0_3 p_B0_4 p_T0 p_R0
          clear hK K
          try simp only [Act.put, List.setIfInBounds_toArray, List.set_cons_zero, List.set_cons_succ]
          refine take_runs (i := 16) (v := ?_) (by simp only [List.getElem?_toArray, List.getElem?_cons_succ, List.getElem?_cons_zero]; rfl) (by kernel_rfl) (by kernel_rfl) (by kernel_rfl) rfl (by exact fun _ _ _ h => h) (by rfl) ?_ (by assumption) ?_
          rotate_left
          · intro w hSw; (try dsimp only at hSw); go_simp; try (with_reducible rfl)
          try simp only [Act.put, List.setIfInBounds_toArray, List.set_cons_zero, List.set_cons_succ]
          refine take_runs (i := 17) (v := ?_) (by simp only [List.getElem?_toArray, List.getElem?_cons_succ, List.getElem?_cons_zero]; rfl) (by kernel_rfl) (by kernel_rfl) (by kernel_rfl) rfl (by exact fun _ _ _ h => h) (by rfl) ?_ (by assumption) ?_
          rotate_left
          · intro w hSw; (try dsimp only at hSw); go_simp; try (with_reducible rfl)
          try simp only [Act.put, List.setIfInBounds_toArray, List.set_cons_zero, List.set_cons_succ]
          refine wpAnyH_done (by kernel_rfl) ?_ _
          clear hHeld
          go_wp2
          go_ret
          exact ⟨ret_b HF.out.symm, d.out⟩
      · have HI := Lib.hid (fun W => in_no y 0 3 W ht)
        have HF := Lib.hid (N3.out (decide_eq_false ht))
        clear ht N3 N4 Y3 Y4
        go_wp2
        have p_B0_0 := (cell_of_row wr _ 0 _ _ _ B0.out).trans (show _ = some (Value.int .i64 sg) from rfl)
        have p_B0_1 := (cell_of_row wr _ 1 _ _ _ B0.out).trans (show _ = some (Value.int .i64 ba) from rfl)
        have p_B0_2 := (cell_of_row wr _ 2 _ _ _ B0.out).trans (show _ = some (Value.slice ia is.length ic) from rfl)
        have p_B0_3 := (cell_of_row wr _ 3 _ _ _ B0.out).trans (show _ = some (Value.slice (some ⟨b, off, none⟩) ts.length tc) from rfl)
        have p_B0_4 := (cell_of_row wr _ 4 _ _ _ B0.out).trans (show _ = some (Value.slice (some ⟨b2, off2, none⟩) rs.length rc) from rfl)
        have p_T0 := (d.out.cell (p := ⟨b, off + k, none⟩) BL.out).trans T0.out
        have p_R0 := (d.out.cell (p := ⟨b2, off2 + k, none⟩) BL2.out).trans R0.out
        refine wp_region_held_drew (S := fun w' => w'.cell? ⟨w.heap.size, 0, none⟩ = some (Value.int .i64 sg) ∧ w'.cell? ⟨w.heap.size, 1, none⟩ = some (Value.int .i64 ba) ∧ w'.cell? ⟨w.heap.size, 2, none⟩ = some (Value.slice ia is.length ic) ∧ w'.cell? ⟨w.heap.size, 3, none⟩ = some (Value.slice (some ⟨b, off, none⟩) ts.length tc) ∧ w'.cell? ⟨w.heap.size, 4, none⟩ = some (Value.slice (some ⟨b2, off2, none⟩) rs.length rc) ∧ w'.cell? ⟨b, off + k, none⟩ = some (Value.int .i64 y) ∧ w'.cell? ⟨b2, off2 + k, none⟩ = some (Value.int .i64 z)) (by kernel_rfl) ⟨p_B0_0, p_B0_1, p_B0_2, p_B0_3, p_B0_4, p_T0, p_R0⟩ (fun hHeld => ?_)
        clear p_B0_0 p_B0_1 p_B0_2 p_B0_3 p_B0_4 p_T0 p_R0
        have cdr : Below wr.heap.size wr wr.drew := below_drew (Below.refl _ _)
        replace B0 := Lib.hid ((cdr.block w.heap.size (Array.getElem?_eq_some_iff.1 B0.out).1).trans B0.out)
        replace d := Lib.hid (d.out.trans (cdr.mono d.out.size))
        clear cdr
        refine take_runs (i := 0) (v := ?_) (by simp only [List.getElem?_toArray, List.getElem?_cons_succ, List.getElem?_cons_zero]; rfl) (by kernel_rfl) (by kernel_rfl) (by kernel_rfl) rfl (by exact fun _ _ _ h => h) (by rfl) ?_ (by assumption) ?_
        rotate_left
        · intro w hSw; (try dsimp only at hSw); go_simp; try (with_reducible rfl)
        try simp only [Act.put, List.setIfInBounds_toArray, List.set_cons_zero, List.set_cons_succ]
        refine take_runs (i := 1) (v := ?_) (by simp only [List.getElem?_toArray, List.getElem?_cons_succ, List.getElem?_cons_zero]; rfl) (by kernel_rfl) (by kernel_rfl) (by kernel_rfl) rfl (by exact fun _ _ _ h => h) (by rfl) ?_ (by assumption) ?_
        rotate_left
        · intro w hSw; (try dsimp only at hSw); go_simp; try (with_reducible rfl)
        try simp only [Act.put, List.setIfInBounds_toArray, List.set_cons_zero, List.set_cons_succ]
        refine take_runs (i := 2) (v := ?_) (by simp only [List.getElem?_toArray, List.getElem?_cons_succ, List.getElem?_cons_zero]; rfl) (by kernel_rfl) (by kernel_rfl) (by kernel_rfl) rfl (by exact fun _ _ _ h => h) (by rfl) ?_ (by assumption) ?_
        rotate_left
        · intro w hSw; (try dsimp only at hSw); go_simp; try (with_reducible rfl)
        try simp only [Act.put, List.setIfInBounds_toArray, List.set_cons_zero, List.set_cons_succ]
        refine take_runs (i := 3) (v := ?_) (by simp only [List.getElem?_toArray, List.getElem?_cons_succ, List.getElem?_cons_zero]; rfl) (by kernel_rfl) (by kernel_rfl) (by kernel_rfl) rfl (by exact fun _ _ _ h => h) (by rfl) ?_ (by assumption) ?_
        rotate_left
        · intro w hSw; (try dsimp only at hSw); go_simp; try (with_reducible rfl)
        try simp only [Act.put, List.setIfInBounds_toArray, List.set_cons_zero, List.set_cons_succ]
        refine take_runs (i := 4) (v := ?_) (by simp only [List.getElem?_toArray, List.getElem?_cons_succ, List.getElem?_cons_zero]; rfl) (by kernel_rfl) (by kernel_rfl) (by kernel_rfl) rfl (by exact fun _ _ _ h => h) (by rfl) ?_ (by assumption) ?_
        rotate_left
        · intro w hSw; (try dsimp only at hSw); go_simp; try (with_reducible rfl)
        try simp only [Act.put, List.setIfInBounds_toArray, List.set_cons_zero, List.set_cons_succ]
        refine wpAnyH_ready (rs := [5]) (by kernel_rfl) (by simp) ?_
        refine (AllReadyH.cons (o := _) (by simp only [List.getElem?_toArray, List.getElem?_cons_succ, List.getElem?_cons_zero]; rfl) (fun K hK => ?_) AllReadyH.nil)
        go_simp
        refine (HI.out _).mono ?_
        rintro e wx ⟨rfl, hwx⟩
        obtain rfl := hwx.symm
        have p_B0_0 := (cell_of_row (wr.drew) _ 0 _ _ _ B0.out).trans (show _ = some (Value.int .i64 sg) from rfl)
        have p_B0_1 := (cell_of_row (wr.drew) _ 1 _ _ _ B0.out).trans (show _ = some (Value.int .i64 ba) from rfl)
        have p_B0_2 := (cell_of_row (wr.drew) _ 2 _ _ _ B0.out).trans (show _ = some (Value.slice ia is.length ic) from rfl)
        have p_B0_3 := (cell_of_row (wr.drew) _ 3 _ _ _ B0.out).trans (show _ = some (Value.slice (some ⟨b, off, none⟩) ts.length tc) from rfl)
        have p_B0_4 := (cell_of_row (wr.drew) _ 4 _ _ _ B0.out).trans (show _ = some (Value.slice (some ⟨b2, off2, none⟩) rs.length rc) from rfl)
        have p_T0 := (d.out.cell (p := ⟨b, off + k, none⟩) BL.out).trans T0.out
        have p_R0 := (d.out.cell (p := ⟨b2, off2 + k, none⟩) BL2.out).trans R0.out
        refine hK.out _ _ ⟨p_B0_0, p_B0_1, p_B0_2, p_B0_3, p_B0_4, p_T0, p_R0⟩ (fun hHeld => ?_)
        clear p_B0_0 p_B0_1 p_B0_2 p_B0_3 p_B0_4 p_T0 p_R0
        clear hK K
        try simp only [Act.put, List.setIfInBounds_toArray, List.set_cons_zero, List.set_cons_succ]
        refine take_runs (i := 6) (v := ?_) (by simp only [List.getElem?_toArray, List.getElem?_cons_succ, List.getElem?_cons_zero]; rfl) (by kernel_rfl) (by kernel_rfl) (by kernel_rfl) rfl (by exact fun _ _ _ h => h) (by rfl) ?_ (by assumption) ?_
        rotate_left
        · intro w hSw; (try dsimp only at hSw); go_simp; try (with_reducible rfl)
        try simp only [Act.put, List.setIfInBounds_toArray, List.set_cons_zero, List.set_cons_succ]
        refine take_runs (i := 7) (v := ?_) (by simp only [List.getElem?_toArray, List.getElem?_cons_succ, List.getElem?_cons_zero]; rfl) (by kernel_rfl) (by kernel_rfl) (by kernel_rfl) rfl (by exact fun _ _ _ h => h) (by rfl) ?_ (by assumption) ?_
        rotate_left
        · intro w hSw; (try dsimp only at hSw); go_simp; try (with_reducible rfl)
        try simp only [Act.put, List.setIfInBounds_toArray, List.set_cons_zero, List.set_cons_succ]
        refine take_over (i := 8) (by simp only [List.getElem?_toArray, List.getElem?_cons_succ, List.getElem?_cons_zero]; rfl) (by kernel_rfl) (by kernel_rfl) (by kernel_rfl) rfl (by exact fun _ _ _ h => h) (by rfl) (by assumption) ?_
        try simp only [Act.put, List.setIfInBounds_toArray, List.set_cons_zero, List.set_cons_succ]
        refine take_over (i := 9) (by simp only [List.getElem?_toArray, List.getElem?_cons_succ, List.getElem?_cons_zero]; rfl) (by kernel_rfl) (by kernel_rfl) (by kernel_rfl) rfl (by exact fun _ _ _ h => h) (by rfl) (by assumption) ?_
        try simp only [Act.put, List.setIfInBounds_toArray, List.set_cons_zero, List.set_cons_succ]
        refine take_over (i := 10) (by simp only [List.getElem?_toArray, List.getElem?_cons_succ, List.getElem?_cons_zero]; rfl) (by kernel_rfl) (by kernel_rfl) (by kernel_rfl) rfl (by exact fun _ _ _ h => h) (by rfl) (by assumption) ?_
        try simp only [Act.put, List.setIfInBounds_toArray, List.set_cons_zero, List.set_cons_succ]
        refine take_over (i := 11) (by simp only [List.getElem?_toArray, List.getElem?_cons_succ, List.getElem?_cons_zero]; rfl) (by kernel_rfl) (by kernel_rfl) (by kernel_rfl) rfl (by exact fun _ _ _ h => h) (by rfl) (by assumption) ?_
        try simp only [Act.put, List.setIfInBounds_toArray, List.set_cons_zero, List.set_cons_succ]
        refine take_over (i := 12) (by simp only [List.getElem?_toArray, List.getElem?_cons_succ, List.getElem?_cons_zero]; rfl) (by kernel_rfl) (by kernel_rfl) (by kernel_rfl) rfl (by exact fun _ _ _ h => h) (by rfl) (by assumption) ?_
        try simp only [Act.put, List.setIfInBounds_toArray, List.set_cons_zero, List.set_cons_succ]
        refine take_over (i := 13) (by simp only [List.getElem?_toArray, List.getElem?_cons_succ, List.getElem?_cons_zero]; rfl) (by kernel_rfl) (by kernel_rfl) (by kernel_rfl) rfl (by exact fun _ _ _ h => h) (by rfl) (by assumption) ?_
        try simp only [Act.put, List.setIfInBounds_toArray, List.set_cons_zero, List.set_cons_succ]
        refine take_over (i := 14) (by simp only [List.getElem?_toArray, List.getElem?_cons_succ, List.getElem?_cons_zero]; rfl) (by kernel_rfl) (by kernel_rfl) (by kernel_rfl) rfl (by exact fun _ _ _ h => h) (by rfl) (by assumption) ?_
        try simp only [Act.put, List.setIfInBounds_toArray, List.set_cons_zero, List.set_cons_succ]
        refine take_over (i := 15) (by simp only [List.getElem?_toArray, List.getElem?_cons_succ, List.getElem?_cons_zero]; rfl) (by kernel_rfl) (by kernel_rfl) (by kernel_rfl) rfl (by exact fun _ _ _ h => h) (by rfl) (by assumption) ?_
        try simp only [Act.put, List.setIfInBounds_toArray, List.set_cons_zero, List.set_cons_succ]
        refine take_over (i := 16) (by simp only [List.getElem?_toArray, List.getElem?_cons_succ, List.getElem?_cons_zero]; rfl) (by kernel_rfl) (by kernel_rfl) (by kernel_rfl) rfl (by exact fun _ _ _ h => h) (by rfl) (by assumption) ?_
        try simp only [Act.put, List.setIfInBounds_toArray, List.set_cons_zero, List.set_cons_succ]
        refine take_runs (i := 17) (v := ?_) (by simp only [List.getElem?_toArray, List.getElem?_cons_succ, List.getElem?_cons_zero]; rfl) (by kernel_rfl) (by kernel_rfl) (by kernel_rfl) rfl (by exact fun _ _ _ h => h) (by rfl) ?_ (by assumption) ?_
        rotate_left
        · intro w hSw; (try dsimp only at hSw); go_simp; try (with_reducible rfl)
        try simp only [Act.put, List.setIfInBounds_toArray, List.set_cons_zero, List.set_cons_succ]
        refine wpAnyH_done (by kernel_rfl) ?_ _
        clear hHeld
        go_wp2
        go_ret
        exact ⟨ret_b HF.out.symm, d.out⟩
    · obtain rfl : k = is.length := by omega
      have HT : Hid (chargeB (sg, ba, is, ts, rs) = true) := Lib.hid (charge_yes HSET.out HH.out (allB_yes 0 (by have := hno.out.1; have e := HP3.out; simp only; rw [e]; exact this)) (allB_yes 0 (by have := hno.out.2; have e := HP4.out; simp only; rw [e]; exact this)))
      clear hno
      have p_B0_0 := (cell_of_row wr _ 0 _ _ _ B0.out).trans (show _ = some (Value.int .i64 sg) from rfl)
      have p_B0_1 := (cell_of_row wr _ 1 _ _ _ B0.out).trans (show _ = some (Value.int .i64 ba) from rfl)
      have p_B0_2 := (cell_of_row wr _ 2 _ _ _ B0.out).trans (show _ = some (Value.slice ia is.length ic) from rfl)
      have p_B0_3 := (cell_of_row wr _ 3 _ _ _ B0.out).trans (show _ = some (Value.slice ta ts.length tc) from rfl)
      have p_B0_4 := (cell_of_row wr _ 4 _ _ _ B0.out).trans (show _ = some (Value.slice ra rs.length rc) from rfl)
      go_wp2
      clear p_B0_0 p_B0_1 p_B0_2 p_B0_3 p_B0_4
      go_ret
      exact ⟨ret_b HT.out.symm, d.out⟩
set_option maxHeartbeats 8000000 in
set_option maxRecDepth 100000 in
theorem specL9Active (now cu st a0 a1 a4 a6 a7 a8 : Int) (sa : Option Addr) (sc : Nat) (ov av dv lv v2 v3 v5 v9 : Value) (ss : List (List VerD)) (x2 : List CondD) (x3 x5 : List Int) (x9 : List RowD) (w : World)
    (h2 : SlR tCond w v2 x2) (h3 : SlR tInt w v3 x3) (h5 : SlR tInt w v5 x5) (h9 : SlR tRow w v9 x9) (n0 : ss.length ≤ 1048576) (s2 : zL tCond x2 ≤ 1048576) (s3 : zL tInt x3 ≤ 1048576) (s5 : zL tInt x5 ≤ 1048576) (s9 : zL tRow x9 ≤ 1048576) :
    Calls Tryz.prog 42 #[.agg #[.slice sa ss.length sc, .int .i64 now, .int .i64 cu, ov, av, dv, lv, .int .i64 st], .agg #[.int .i64 a0, .int .i64 a1, v2, v3, .int .i64 a4, v5, .int .i64 a6, .int .i64 a7, .int .i64 a8, v9]] w (fun e w' => e = .returned (.bool (actB (ss, now) ((a0, a1, x2, x3), a4, x5, a6, a7, a8, x9))) ∧ Below w.heap.size w w') := by
  obtain ⟨p2, c2, rfl⟩ := slR_len h2
  have H2 := Lib.hid h2; have N2 := Lib.hid (zL_len s2); have S2 := Lib.hid s2
  obtain ⟨p3, c3, rfl⟩ := slR_len h3
  have H3 := Lib.hid h3; have N3 := Lib.hid (zL_len s3); have S3 := Lib.hid s3
  obtain ⟨p5, c5, rfl⟩ := slR_len h5
  have H5 := Lib.hid h5; have N5 := Lib.hid (zL_len s5); have S5 := Lib.hid s5
  obtain ⟨p9, c9, rfl⟩ := slR_len h9
  have H9 := Lib.hid h9; have N9 := Lib.hid (zL_len s9); have S9 := Lib.hid s9
  clear h2 h3 h5 h9 s2 s3 s5 s9
  have d := Lib.hid (show Below w.heap.size w ((w.alloc (.cells #[.slice sa ss.length sc, .int .i64 now, .int .i64 cu, ov, av, dv, lv, .int .i64 st] 40)).alloc (.cells #[.int .i64 a0, .int .i64 a1, .slice p2 x2.length c2, .slice p3 x3.length c3, .int .i64 a4, .slice p5 x5.length c5, .int .i64 a6, .int .i64 a7, .int .i64 a8, .slice p9 x9.length c9] 88)) from (((Below.refl _ w).alloc (Nat.le_refl _) _).alloc (by simp) _))
  have B0 : Hid (((w.alloc (.cells #[.slice sa ss.length sc, .int .i64 now, .int .i64 cu, ov, av, dv, lv, .int .i64 st] 40)).alloc (.cells #[.int .i64 a0, .int .i64 a1, .slice p2 x2.length c2, .slice p3 x3.length c3, .int .i64 a4, .slice p5 x5.length c5, .int .i64 a6, .int .i64 a7, .int .i64 a8, .slice p9 x9.length c9] 88)).heap[w.heap.size]? = some (.cells #[.slice sa ss.length sc, .int .i64 now, .int .i64 cu, ov, av, dv, lv, .int .i64 st] 40 (0, 0))) := Lib.hid (by
    rw [Below.heap_alloc _ _ _ (by simp)]
    exact heap_alloc_new w _)
  have B1 : Hid (((w.alloc (.cells #[.slice sa ss.length sc, .int .i64 now, .int .i64 cu, ov, av, dv, lv, .int .i64 st] 40)).alloc (.cells #[.int .i64 a0, .int .i64 a1, .slice p2 x2.length c2, .slice p3 x3.length c3, .int .i64 a4, .slice p5 x5.length c5, .int .i64 a6, .int .i64 a7, .int .i64 a8, .slice p9 x9.length c9] 88)).heap[(w.heap.size + 1)]? = some (.cells #[.int .i64 a0, .int .i64 a1, .slice p2 x2.length c2, .slice p3 x3.length c3, .int .i64 a4, .slice p5 x5.length c5, .int .i64 a6, .int .i64 a7, .int .i64 a8, .slice p9 x9.length c9] 88 (0, 0))) := Lib.hid (by
    have := heap_alloc_new (w.alloc (.cells #[.slice sa ss.length sc, .int .i64 now, .int .i64 cu, ov, av, dv, lv, .int .i64 st] 40)) (.cells #[.int .i64 a0, .int .i64 a1, .slice p2 x2.length c2, .slice p3 x3.length c3, .int .i64 a4, .slice p5 x5.length c5, .int .i64 a6, .int .i64 a7, .int .i64 a8, .slice p9 x9.length c9] 88)
    simpa only [World.size_alloc] using this)
  have YW : Hid (w.heap.size + 2 ≤ ((w.alloc (.cells #[.slice sa ss.length sc, .int .i64 now, .int .i64 cu, ov, av, dv, lv, .int .i64 st] 40)).alloc (.cells #[.int .i64 a0, .int .i64 a1, .slice p2 x2.length c2, .slice p3 x3.length c3, .int .i64 a4, .slice p5 x5.length c5, .int .i64 a6, .int .i64 a7, .int .i64 a8, .slice p9 x9.length c9] 88)).heap.size) := Lib.hid (by simp [World.size_alloc])
  go_enter Tryz.func42, Tryz.ntmps42
  go_wp2_with fail
  generalize ((w.alloc (.cells #[.slice sa ss.length sc, .int .i64 now, .int .i64 cu, ov, av, dv, lv, .int .i64 st] 40)).alloc (.cells #[.int .i64 a0, .int .i64 a1, .slice p2 x2.length c2, .slice p3 x3.length c3, .int .i64 a4, .slice p5 x5.length c5, .int .i64 a6, .int .i64 a7, .int .i64 a8, .slice p9 x9.length c9] 88)) = W at *
  refine (specIsQuery a0 a1 (.slice p2 x2.length c2) (.slice p3 x3.length c3) x2 x3 W (slR_conds (slR_below tCond_law H2.out d.out)) N2.out (slR_ints (slR_below tInt_law H3.out d.out)) N3.out).mono ?_
  rintro e W1 ⟨rfl, c⟩
  replace B0 := Lib.hid ((c.block w.heap.size (Array.getElem?_eq_some_iff.1 B0.out).1).trans B0.out)
  replace B1 := Lib.hid ((c.block (w.heap.size + 1) (Array.getElem?_eq_some_iff.1 B1.out).1).trans B1.out)
  replace d := Lib.hid (d.out.trans (c.mono d.out.size))
  have Z_W1 := Lib.hid (show W.heap.size ≤ W1.heap.size from c.size)
  clear c
  rcases Bool.eq_false_or_eq_true (queryB a0 a1 x2 x3) with hq | hq
  rotate_left
  · rw [hq]
    have HF := Lib.hid (act_no1 (s := (ss, now)) (a := ((a0, a1, x2, x3), a4, x5, a6, a7, a8, x9)) hq)
    clear hq
    have p_B0_0 := (cell_of_row W1 _ 0 _ _ _ B0.out).trans (show _ = some (Value.slice sa ss.length sc) from rfl)
    have p_B0_1 := (cell_of_row W1 _ 1 _ _ _ B0.out).trans (show _ = some (Value.int .i64 now) from rfl)
    have p_B0_2 := (cell_of_row W1 _ 2 _ _ _ B0.out).trans (show _ = some (Value.int .i64 cu) from rfl)
    have p_B0_3 := (cell_of_row W1 _ 3 _ _ _ B0.out).trans (show _ = some (ov) from rfl)
    have p_B0_4 := (cell_of_row W1 _ 4 _ _ _ B0.out).trans (show _ = some (av) from rfl)
    have p_B0_5 := (cell_of_row W1 _ 5 _ _ _ B0.out).trans (show _ = some (dv) from rfl)
    have p_B0_6 := (cell_of_row W1 _ 6 _ _ _ B0.out).trans (show _ = some (lv) from rfl)
    have p_B0_7 := (cell_of_row W1 _ 7 _ _ _ B0.out).trans (show _ = some (Value.int .i64 st) from rfl)
    have p_B1_0 := (cell_of_row W1 _ 0 _ _ _ B1.out).trans (show _ = some (Value.int .i64 a0) from rfl)
    have p_B1_1 := (cell_of_row W1 _ 1 _ _ _ B1.out).trans (show _ = some (Value.int .i64 a1) from rfl)
    have p_B1_2 := (cell_of_row W1 _ 2 _ _ _ B1.out).trans (show _ = some (Value.slice p2 x2.length c2) from rfl)
    have p_B1_3 := (cell_of_row W1 _ 3 _ _ _ B1.out).trans (show _ = some (Value.slice p3 x3.length c3) from rfl)
    have p_B1_4 := (cell_of_row W1 _ 4 _ _ _ B1.out).trans (show _ = some (Value.int .i64 a4) from rfl)
    have p_B1_5 := (cell_of_row W1 _ 5 _ _ _ B1.out).trans (show _ = some (Value.slice p5 x5.length c5) from rfl)
    have p_B1_6 := (cell_of_row W1 _ 6 _ _ _ B1.out).trans (show _ = some (Value.int .i64 a6) from rfl)
    have p_B1_7 := (cell_of_row W1 _ 7 _ _ _ B1.out).trans (show _ = some (Value.int .i64 a7) from rfl)
    have p_B1_8 := (cell_of_row W1 _ 8 _ _ _ B1.out).trans (show _ = some (Value.int .i64 a8) from rfl)
    have p_B1_9 := (cell_of_row W1 _ 9 _ _ _ B1.out).trans (show _ = some (Value.slice p9 x9.length c9) from rfl)
    go_wp2
    clear p_B0_0 p_B0_1 p_B0_2 p_B0_3 p_B0_4 p_B0_5 p_B0_6 p_B0_7 p_B1_0 p_B1_1 p_B1_2 p_B1_3 p_B1_4 p_B1_5 p_B1_6 p_B1_7 p_B1_8 p_B1_9
    go_ret
    exact ⟨ret_b HF.out.symm, d.out⟩
  rw [hq]
  have HQ := Lib.hid hq
  clear hq
  have p_B0_0 := (cell_of_row W1 _ 0 _ _ _ B0.out).trans (show _ = some (Value.slice sa ss.length sc) from rfl)
  have p_B0_1 := (cell_of_row W1 _ 1 _ _ _ B0.out).trans (show _ = some (Value.int .i64 now) from rfl)
  have p_B0_2 := (cell_of_row W1 _ 2 _ _ _ B0.out).trans (show _ = some (Value.int .i64 cu) from rfl)
  have p_B0_3 := (cell_of_row W1 _ 3 _ _ _ B0.out).trans (show _ = some (ov) from rfl)
  have p_B0_4 := (cell_of_row W1 _ 4 _ _ _ B0.out).trans (show _ = some (av) from rfl)
  have p_B0_5 := (cell_of_row W1 _ 5 _ _ _ B0.out).trans (show _ = some (dv) from rfl)
  have p_B0_6 := (cell_of_row W1 _ 6 _ _ _ B0.out).trans (show _ = some (lv) from rfl)
  have p_B0_7 := (cell_of_row W1 _ 7 _ _ _ B0.out).trans (show _ = some (Value.int .i64 st) from rfl)
  have p_B1_0 := (cell_of_row W1 _ 0 _ _ _ B1.out).trans (show _ = some (Value.int .i64 a0) from rfl)
  have p_B1_1 := (cell_of_row W1 _ 1 _ _ _ B1.out).trans (show _ = some (Value.int .i64 a1) from rfl)
  have p_B1_2 := (cell_of_row W1 _ 2 _ _ _ B1.out).trans (show _ = some (Value.slice p2 x2.length c2) from rfl)
  have p_B1_3 := (cell_of_row W1 _ 3 _ _ _ B1.out).trans (show _ = some (Value.slice p3 x3.length c3) from rfl)
  have p_B1_4 := (cell_of_row W1 _ 4 _ _ _ B1.out).trans (show _ = some (Value.int .i64 a4) from rfl)
  have p_B1_5 := (cell_of_row W1 _ 5 _ _ _ B1.out).trans (show _ = some (Value.slice p5 x5.length c5) from rfl)
  have p_B1_6 := (cell_of_row W1 _ 6 _ _ _ B1.out).trans (show _ = some (Value.int .i64 a6) from rfl)
  have p_B1_7 := (cell_of_row W1 _ 7 _ _ _ B1.out).trans (show _ = some (Value.int .i64 a7) from rfl)
  have p_B1_8 := (cell_of_row W1 _ 8 _ _ _ B1.out).trans (show _ = some (Value.int .i64 a8) from rfl)
  have p_B1_9 := (cell_of_row W1 _ 9 _ _ _ B1.out).trans (show _ = some (Value.slice p9 x9.length c9) from rfl)
  go_wp2_with fail
  clear p_B0_0 p_B0_1 p_B0_2 p_B0_3 p_B0_4 p_B0_5 p_B0_6 p_B0_7 p_B1_0 p_B1_1 p_B1_2 p_B1_3 p_B1_4 p_B1_5 p_B1_6 p_B1_7 p_B1_8 p_B1_9
  refine (in_any a4 0 now _).mono ?_
  rintro e wx ⟨rfl, hwx⟩
  obtain rfl := hwx.symm
  rcases Bool.eq_false_or_eq_true (decide (0 ≤ a4 ∧ a4 ≤ now)) with tt1 | tt1
  rotate_left
  · rw [tt1]
    have HF := Lib.hid (act_no2 (s := (ss, now)) (a := ((a0, a1, x2, x3), a4, x5, a6, a7, a8, x9)) (fun g => of_decide_eq_false tt1 g.1))
    clear tt1
    have p_B0_0 := (cell_of_row W1 _ 0 _ _ _ B0.out).trans (show _ = some (Value.slice sa ss.length sc) from rfl)
    have p_B0_1 := (cell_of_row W1 _ 1 _ _ _ B0.out).trans (show _ = some (Value.int .i64 now) from rfl)
    have p_B0_2 := (cell_of_row W1 _ 2 _ _ _ B0.out).trans (show _ = some (Value.int .i64 cu) from rfl)
    have p_B0_3 := (cell_of_row W1 _ 3 _ _ _ B0.out).trans (show _ = some (ov) from rfl)
    have p_B0_4 := (cell_of_row W1 _ 4 _ _ _ B0.out).trans (show _ = some (av) from rfl)
    have p_B0_5 := (cell_of_row W1 _ 5 _ _ _ B0.out).trans (show _ = some (dv) from rfl)
    have p_B0_6 := (cell_of_row W1 _ 6 _ _ _ B0.out).trans (show _ = some (lv) from rfl)
    have p_B0_7 := (cell_of_row W1 _ 7 _ _ _ B0.out).trans (show _ = some (Value.int .i64 st) from rfl)
    have p_B1_0 := (cell_of_row W1 _ 0 _ _ _ B1.out).trans (show _ = some (Value.int .i64 a0) from rfl)
    have p_B1_1 := (cell_of_row W1 _ 1 _ _ _ B1.out).trans (show _ = some (Value.int .i64 a1) from rfl)
    have p_B1_2 := (cell_of_row W1 _ 2 _ _ _ B1.out).trans (show _ = some (Value.slice p2 x2.length c2) from rfl)
    have p_B1_3 := (cell_of_row W1 _ 3 _ _ _ B1.out).trans (show _ = some (Value.slice p3 x3.length c3) from rfl)
    have p_B1_4 := (cell_of_row W1 _ 4 _ _ _ B1.out).trans (show _ = some (Value.int .i64 a4) from rfl)
    have p_B1_5 := (cell_of_row W1 _ 5 _ _ _ B1.out).trans (show _ = some (Value.slice p5 x5.length c5) from rfl)
    have p_B1_6 := (cell_of_row W1 _ 6 _ _ _ B1.out).trans (show _ = some (Value.int .i64 a6) from rfl)
    have p_B1_7 := (cell_of_row W1 _ 7 _ _ _ B1.out).trans (show _ = some (Value.int .i64 a7) from rfl)
    have p_B1_8 := (cell_of_row W1 _ 8 _ _ _ B1.out).trans (show _ = some (Value.int .i64 a8) from rfl)
    have p_B1_9 := (cell_of_row W1 _ 9 _ _ _ B1.out).trans (show _ = some (Value.slice p9 x9.length c9) from rfl)
    go_wp2
    clear p_B0_0 p_B0_1 p_B0_2 p_B0_3 p_B0_4 p_B0_5 p_B0_6 p_B0_7 p_B1_0 p_B1_1 p_B1_2 p_B1_3 p_B1_4 p_B1_5 p_B1_6 p_B1_7 p_B1_8 p_B1_9
    go_ret
    exact ⟨ret_b HF.out.symm, d.out⟩
  rw [tt1]
  have TT1 := Lib.hid tt1
  clear tt1
  have p_B0_0 := (cell_of_row W1 _ 0 _ _ _ B0.out).trans (show _ = some (Value.slice sa ss.length sc) from rfl)
  have p_B0_1 := (cell_of_row W1 _ 1 _ _ _ B0.out).trans (show _ = some (Value.int .i64 now) from rfl)
  have p_B0_2 := (cell_of_row W1 _ 2 _ _ _ B0.out).trans (show _ = some (Value.int .i64 cu) from rfl)
  have p_B0_3 := (cell_of_row W1 _ 3 _ _ _ B0.out).trans (show _ = some (ov) from rfl)
  have p_B0_4 := (cell_of_row W1 _ 4 _ _ _ B0.out).trans (show _ = some (av) from rfl)
  have p_B0_5 := (cell_of_row W1 _ 5 _ _ _ B0.out).trans (show _ = some (dv) from rfl)
  have p_B0_6 := (cell_of_row W1 _ 6 _ _ _ B0.out).trans (show _ = some (lv) from rfl)
  have p_B0_7 := (cell_of_row W1 _ 7 _ _ _ B0.out).trans (show _ = some (Value.int .i64 st) from rfl)
  have p_B1_0 := (cell_of_row W1 _ 0 _ _ _ B1.out).trans (show _ = some (Value.int .i64 a0) from rfl)
  have p_B1_1 := (cell_of_row W1 _ 1 _ _ _ B1.out).trans (show _ = some (Value.int .i64 a1) from rfl)
  have p_B1_2 := (cell_of_row W1 _ 2 _ _ _ B1.out).trans (show _ = some (Value.slice p2 x2.length c2) from rfl)
  have p_B1_3 := (cell_of_row W1 _ 3 _ _ _ B1.out).trans (show _ = some (Value.slice p3 x3.length c3) from rfl)
  have p_B1_4 := (cell_of_row W1 _ 4 _ _ _ B1.out).trans (show _ = some (Value.int .i64 a4) from rfl)
  have p_B1_5 := (cell_of_row W1 _ 5 _ _ _ B1.out).trans (show _ = some (Value.slice p5 x5.length c5) from rfl)
  have p_B1_6 := (cell_of_row W1 _ 6 _ _ _ B1.out).trans (show _ = some (Value.int .i64 a6) from rfl)
  have p_B1_7 := (cell_of_row W1 _ 7 _ _ _ B1.out).trans (show _ = some (Value.int .i64 a7) from rfl)
  have p_B1_8 := (cell_of_row W1 _ 8 _ _ _ B1.out).trans (show _ = some (Value.int .i64 a8) from rfl)
  have p_B1_9 := (cell_of_row W1 _ 9 _ _ _ B1.out).trans (show _ = some (Value.slice p9 x9.length c9) from rfl)
  go_wp2_with fail
  clear p_B0_0 p_B0_1 p_B0_2 p_B0_3 p_B0_4 p_B0_5 p_B0_6 p_B0_7 p_B1_0 p_B1_1 p_B1_2 p_B1_3 p_B1_4 p_B1_5 p_B1_6 p_B1_7 p_B1_8 p_B1_9
  refine (specL9Todo (.slice p5 x5.length c5) x5 ss.length W1 (slR_ints (slR_below tInt_law H5.out d.out)) N5.out n0).mono ?_
  rintro e W2 ⟨rfl, c⟩
  replace B0 := Lib.hid ((c.block w.heap.size (Array.getElem?_eq_some_iff.1 B0.out).1).trans B0.out)
  replace B1 := Lib.hid ((c.block (w.heap.size + 1) (Array.getElem?_eq_some_iff.1 B1.out).1).trans B1.out)
  replace d := Lib.hid (d.out.trans (c.mono d.out.size))
  have Z_W2 := Lib.hid (show W1.heap.size ≤ W2.heap.size from c.size)
  clear c
  rcases Bool.eq_false_or_eq_true (todoB x5 ss.length) with htd | htd
  rotate_left
  · rw [htd]
    have HF := Lib.hid (act_no3 (s := (ss, now)) (a := ((a0, a1, x2, x3), a4, x5, a6, a7, a8, x9)) htd)
    clear htd
    have p_B0_0 := (cell_of_row W2 _ 0 _ _ _ B0.out).trans (show _ = some (Value.slice sa ss.length sc) from rfl)
    have p_B0_1 := (cell_of_row W2 _ 1 _ _ _ B0.out).trans (show _ = some (Value.int .i64 now) from rfl)
    have p_B0_2 := (cell_of_row W2 _ 2 _ _ _ B0.out).trans (show _ = some (Value.int .i64 cu) from rfl)
    have p_B0_3 := (cell_of_row W2 _ 3 _ _ _ B0.out).trans (show _ = some (ov) from rfl)
    have p_B0_4 := (cell_of_row W2 _ 4 _ _ _ B0.out).trans (show _ = some (av) from rfl)
    have p_B0_5 := (cell_of_row W2 _ 5 _ _ _ B0.out).trans (show _ = some (dv) from rfl)
    have p_B0_6 := (cell_of_row W2 _ 6 _ _ _ B0.out).trans (show _ = some (lv) from rfl)
    have p_B0_7 := (cell_of_row W2 _ 7 _ _ _ B0.out).trans (show _ = some (Value.int .i64 st) from rfl)
    have p_B1_0 := (cell_of_row W2 _ 0 _ _ _ B1.out).trans (show _ = some (Value.int .i64 a0) from rfl)
    have p_B1_1 := (cell_of_row W2 _ 1 _ _ _ B1.out).trans (show _ = some (Value.int .i64 a1) from rfl)
    have p_B1_2 := (cell_of_row W2 _ 2 _ _ _ B1.out).trans (show _ = some (Value.slice p2 x2.length c2) from rfl)
    have p_B1_3 := (cell_of_row W2 _ 3 _ _ _ B1.out).trans (show _ = some (Value.slice p3 x3.length c3) from rfl)
    have p_B1_4 := (cell_of_row W2 _ 4 _ _ _ B1.out).trans (show _ = some (Value.int .i64 a4) from rfl)
    have p_B1_5 := (cell_of_row W2 _ 5 _ _ _ B1.out).trans (show _ = some (Value.slice p5 x5.length c5) from rfl)
    have p_B1_6 := (cell_of_row W2 _ 6 _ _ _ B1.out).trans (show _ = some (Value.int .i64 a6) from rfl)
    have p_B1_7 := (cell_of_row W2 _ 7 _ _ _ B1.out).trans (show _ = some (Value.int .i64 a7) from rfl)
    have p_B1_8 := (cell_of_row W2 _ 8 _ _ _ B1.out).trans (show _ = some (Value.int .i64 a8) from rfl)
    have p_B1_9 := (cell_of_row W2 _ 9 _ _ _ B1.out).trans (show _ = some (Value.slice p9 x9.length c9) from rfl)
    go_wp2
    clear p_B0_0 p_B0_1 p_B0_2 p_B0_3 p_B0_4 p_B0_5 p_B0_6 p_B0_7 p_B1_0 p_B1_1 p_B1_2 p_B1_3 p_B1_4 p_B1_5 p_B1_6 p_B1_7 p_B1_8 p_B1_9
    go_ret
    exact ⟨ret_b HF.out.symm, d.out⟩
  rw [htd]
  have HTD := Lib.hid htd
  clear htd
  have p_B0_0 := (cell_of_row W2 _ 0 _ _ _ B0.out).trans (show _ = some (Value.slice sa ss.length sc) from rfl)
  have p_B0_1 := (cell_of_row W2 _ 1 _ _ _ B0.out).trans (show _ = some (Value.int .i64 now) from rfl)
  have p_B0_2 := (cell_of_row W2 _ 2 _ _ _ B0.out).trans (show _ = some (Value.int .i64 cu) from rfl)
  have p_B0_3 := (cell_of_row W2 _ 3 _ _ _ B0.out).trans (show _ = some (ov) from rfl)
  have p_B0_4 := (cell_of_row W2 _ 4 _ _ _ B0.out).trans (show _ = some (av) from rfl)
  have p_B0_5 := (cell_of_row W2 _ 5 _ _ _ B0.out).trans (show _ = some (dv) from rfl)
  have p_B0_6 := (cell_of_row W2 _ 6 _ _ _ B0.out).trans (show _ = some (lv) from rfl)
  have p_B0_7 := (cell_of_row W2 _ 7 _ _ _ B0.out).trans (show _ = some (Value.int .i64 st) from rfl)
  have p_B1_0 := (cell_of_row W2 _ 0 _ _ _ B1.out).trans (show _ = some (Value.int .i64 a0) from rfl)
  have p_B1_1 := (cell_of_row W2 _ 1 _ _ _ B1.out).trans (show _ = some (Value.int .i64 a1) from rfl)
  have p_B1_2 := (cell_of_row W2 _ 2 _ _ _ B1.out).trans (show _ = some (Value.slice p2 x2.length c2) from rfl)
  have p_B1_3 := (cell_of_row W2 _ 3 _ _ _ B1.out).trans (show _ = some (Value.slice p3 x3.length c3) from rfl)
  have p_B1_4 := (cell_of_row W2 _ 4 _ _ _ B1.out).trans (show _ = some (Value.int .i64 a4) from rfl)
  have p_B1_5 := (cell_of_row W2 _ 5 _ _ _ B1.out).trans (show _ = some (Value.slice p5 x5.length c5) from rfl)
  have p_B1_6 := (cell_of_row W2 _ 6 _ _ _ B1.out).trans (show _ = some (Value.int .i64 a6) from rfl)
  have p_B1_7 := (cell_of_row W2 _ 7 _ _ _ B1.out).trans (show _ = some (Value.int .i64 a7) from rfl)
  have p_B1_8 := (cell_of_row W2 _ 8 _ _ _ B1.out).trans (show _ = some (Value.int .i64 a8) from rfl)
  have p_B1_9 := (cell_of_row W2 _ 9 _ _ _ B1.out).trans (show _ = some (Value.slice p9 x9.length c9) from rfl)
  go_wp2_with fail
  clear p_B0_0 p_B0_1 p_B0_2 p_B0_3 p_B0_4 p_B0_5 p_B0_6 p_B0_7 p_B1_0 p_B1_1 p_B1_2 p_B1_3 p_B1_4 p_B1_5 p_B1_6 p_B1_7 p_B1_8 p_B1_9
  refine (in_any a6 0 100000 _).mono ?_
  rintro e wx ⟨rfl, hwx⟩
  obtain rfl := hwx.symm
  rcases Bool.eq_false_or_eq_true (decide (0 ≤ a6 ∧ a6 ≤ 100000)) with tt2 | tt2
  rotate_left
  · rw [tt2]
    have HF := Lib.hid (act_no2 (s := (ss, now)) (a := ((a0, a1, x2, x3), a4, x5, a6, a7, a8, x9)) (fun g => of_decide_eq_false tt2 g.2.1))
    clear tt2
    have p_B0_0 := (cell_of_row W2 _ 0 _ _ _ B0.out).trans (show _ = some (Value.slice sa ss.length sc) from rfl)
    have p_B0_1 := (cell_of_row W2 _ 1 _ _ _ B0.out).trans (show _ = some (Value.int .i64 now) from rfl)
    have p_B0_2 := (cell_of_row W2 _ 2 _ _ _ B0.out).trans (show _ = some (Value.int .i64 cu) from rfl)
    have p_B0_3 := (cell_of_row W2 _ 3 _ _ _ B0.out).trans (show _ = some (ov) from rfl)
    have p_B0_4 := (cell_of_row W2 _ 4 _ _ _ B0.out).trans (show _ = some (av) from rfl)
    have p_B0_5 := (cell_of_row W2 _ 5 _ _ _ B0.out).trans (show _ = some (dv) from rfl)
    have p_B0_6 := (cell_of_row W2 _ 6 _ _ _ B0.out).trans (show _ = some (lv) from rfl)
    have p_B0_7 := (cell_of_row W2 _ 7 _ _ _ B0.out).trans (show _ = some (Value.int .i64 st) from rfl)
    have p_B1_0 := (cell_of_row W2 _ 0 _ _ _ B1.out).trans (show _ = some (Value.int .i64 a0) from rfl)
    have p_B1_1 := (cell_of_row W2 _ 1 _ _ _ B1.out).trans (show _ = some (Value.int .i64 a1) from rfl)
    have p_B1_2 := (cell_of_row W2 _ 2 _ _ _ B1.out).trans (show _ = some (Value.slice p2 x2.length c2) from rfl)
    have p_B1_3 := (cell_of_row W2 _ 3 _ _ _ B1.out).trans (show _ = some (Value.slice p3 x3.length c3) from rfl)
    have p_B1_4 := (cell_of_row W2 _ 4 _ _ _ B1.out).trans (show _ = some (Value.int .i64 a4) from rfl)
    have p_B1_5 := (cell_of_row W2 _ 5 _ _ _ B1.out).trans (show _ = some (Value.slice p5 x5.length c5) from rfl)
    have p_B1_6 := (cell_of_row W2 _ 6 _ _ _ B1.out).trans (show _ = some (Value.int .i64 a6) from rfl)
    have p_B1_7 := (cell_of_row W2 _ 7 _ _ _ B1.out).trans (show _ = some (Value.int .i64 a7) from rfl)
    have p_B1_8 := (cell_of_row W2 _ 8 _ _ _ B1.out).trans (show _ = some (Value.int .i64 a8) from rfl)
    have p_B1_9 := (cell_of_row W2 _ 9 _ _ _ B1.out).trans (show _ = some (Value.slice p9 x9.length c9) from rfl)
    go_wp2
    clear p_B0_0 p_B0_1 p_B0_2 p_B0_3 p_B0_4 p_B0_5 p_B0_6 p_B0_7 p_B1_0 p_B1_1 p_B1_2 p_B1_3 p_B1_4 p_B1_5 p_B1_6 p_B1_7 p_B1_8 p_B1_9
    go_ret
    exact ⟨ret_b HF.out.symm, d.out⟩
  rw [tt2]
  have TT2 := Lib.hid tt2
  clear tt2
  have p_B0_0 := (cell_of_row W2 _ 0 _ _ _ B0.out).trans (show _ = some (Value.slice sa ss.length sc) from rfl)
  have p_B0_1 := (cell_of_row W2 _ 1 _ _ _ B0.out).trans (show _ = some (Value.int .i64 now) from rfl)
  have p_B0_2 := (cell_of_row W2 _ 2 _ _ _ B0.out).trans (show _ = some (Value.int .i64 cu) from rfl)
  have p_B0_3 := (cell_of_row W2 _ 3 _ _ _ B0.out).trans (show _ = some (ov) from rfl)
  have p_B0_4 := (cell_of_row W2 _ 4 _ _ _ B0.out).trans (show _ = some (av) from rfl)
  have p_B0_5 := (cell_of_row W2 _ 5 _ _ _ B0.out).trans (show _ = some (dv) from rfl)
  have p_B0_6 := (cell_of_row W2 _ 6 _ _ _ B0.out).trans (show _ = some (lv) from rfl)
  have p_B0_7 := (cell_of_row W2 _ 7 _ _ _ B0.out).trans (show _ = some (Value.int .i64 st) from rfl)
  have p_B1_0 := (cell_of_row W2 _ 0 _ _ _ B1.out).trans (show _ = some (Value.int .i64 a0) from rfl)
  have p_B1_1 := (cell_of_row W2 _ 1 _ _ _ B1.out).trans (show _ = some (Value.int .i64 a1) from rfl)
  have p_B1_2 := (cell_of_row W2 _ 2 _ _ _ B1.out).trans (show _ = some (Value.slice p2 x2.length c2) from rfl)
  have p_B1_3 := (cell_of_row W2 _ 3 _ _ _ B1.out).trans (show _ = some (Value.slice p3 x3.length c3) from rfl)
  have p_B1_4 := (cell_of_row W2 _ 4 _ _ _ B1.out).trans (show _ = some (Value.int .i64 a4) from rfl)
  have p_B1_5 := (cell_of_row W2 _ 5 _ _ _ B1.out).trans (show _ = some (Value.slice p5 x5.length c5) from rfl)
  have p_B1_6 := (cell_of_row W2 _ 6 _ _ _ B1.out).trans (show _ = some (Value.int .i64 a6) from rfl)
  have p_B1_7 := (cell_of_row W2 _ 7 _ _ _ B1.out).trans (show _ = some (Value.int .i64 a7) from rfl)
  have p_B1_8 := (cell_of_row W2 _ 8 _ _ _ B1.out).trans (show _ = some (Value.int .i64 a8) from rfl)
  have p_B1_9 := (cell_of_row W2 _ 9 _ _ _ B1.out).trans (show _ = some (Value.slice p9 x9.length c9) from rfl)
  go_wp2_with fail
  clear p_B0_0 p_B0_1 p_B0_2 p_B0_3 p_B0_4 p_B0_5 p_B0_6 p_B0_7 p_B1_0 p_B1_1 p_B1_2 p_B1_3 p_B1_4 p_B1_5 p_B1_6 p_B1_7 p_B1_8 p_B1_9
  refine (in_any a7 0 1000 _).mono ?_
  rintro e wx ⟨rfl, hwx⟩
  obtain rfl := hwx.symm
  rcases Bool.eq_false_or_eq_true (decide (0 ≤ a7 ∧ a7 ≤ 1000)) with tt3 | tt3
  rotate_left
  · rw [tt3]
    have HF := Lib.hid (act_no2 (s := (ss, now)) (a := ((a0, a1, x2, x3), a4, x5, a6, a7, a8, x9)) (fun g => of_decide_eq_false tt3 g.2.2.1))
    clear tt3
    have p_B0_0 := (cell_of_row W2 _ 0 _ _ _ B0.out).trans (show _ = some (Value.slice sa ss.length sc) from rfl)
    have p_B0_1 := (cell_of_row W2 _ 1 _ _ _ B0.out).trans (show _ = some (Value.int .i64 now) from rfl)
    have p_B0_2 := (cell_of_row W2 _ 2 _ _ _ B0.out).trans (show _ = some (Value.int .i64 cu) from rfl)
    have p_B0_3 := (cell_of_row W2 _ 3 _ _ _ B0.out).trans (show _ = some (ov) from rfl)
    have p_B0_4 := (cell_of_row W2 _ 4 _ _ _ B0.out).trans (show _ = some (av) from rfl)
    have p_B0_5 := (cell_of_row W2 _ 5 _ _ _ B0.out).trans (show _ = some (dv) from rfl)
    have p_B0_6 := (cell_of_row W2 _ 6 _ _ _ B0.out).trans (show _ = some (lv) from rfl)
    have p_B0_7 := (cell_of_row W2 _ 7 _ _ _ B0.out).trans (show _ = some (Value.int .i64 st) from rfl)
    have p_B1_0 := (cell_of_row W2 _ 0 _ _ _ B1.out).trans (show _ = some (Value.int .i64 a0) from rfl)
    have p_B1_1 := (cell_of_row W2 _ 1 _ _ _ B1.out).trans (show _ = some (Value.int .i64 a1) from rfl)
    have p_B1_2 := (cell_of_row W2 _ 2 _ _ _ B1.out).trans (show _ = some (Value.slice p2 x2.length c2) from rfl)
    have p_B1_3 := (cell_of_row W2 _ 3 _ _ _ B1.out).trans (show _ = some (Value.slice p3 x3.length c3) from rfl)
    have p_B1_4 := (cell_of_row W2 _ 4 _ _ _ B1.out).trans (show _ = some (Value.int .i64 a4) from rfl)
    have p_B1_5 := (cell_of_row W2 _ 5 _ _ _ B1.out).trans (show _ = some (Value.slice p5 x5.length c5) from rfl)
    have p_B1_6 := (cell_of_row W2 _ 6 _ _ _ B1.out).trans (show _ = some (Value.int .i64 a6) from rfl)
    have p_B1_7 := (cell_of_row W2 _ 7 _ _ _ B1.out).trans (show _ = some (Value.int .i64 a7) from rfl)
    have p_B1_8 := (cell_of_row W2 _ 8 _ _ _ B1.out).trans (show _ = some (Value.int .i64 a8) from rfl)
    have p_B1_9 := (cell_of_row W2 _ 9 _ _ _ B1.out).trans (show _ = some (Value.slice p9 x9.length c9) from rfl)
    go_wp2
    clear p_B0_0 p_B0_1 p_B0_2 p_B0_3 p_B0_4 p_B0_5 p_B0_6 p_B0_7 p_B1_0 p_B1_1 p_B1_2 p_B1_3 p_B1_4 p_B1_5 p_B1_6 p_B1_7 p_B1_8 p_B1_9
    go_ret
    exact ⟨ret_b HF.out.symm, d.out⟩
  rw [tt3]
  have TT3 := Lib.hid tt3
  clear tt3
  have p_B0_0 := (cell_of_row W2 _ 0 _ _ _ B0.out).trans (show _ = some (Value.slice sa ss.length sc) from rfl)
  have p_B0_1 := (cell_of_row W2 _ 1 _ _ _ B0.out).trans (show _ = some (Value.int .i64 now) from rfl)
  have p_B0_2 := (cell_of_row W2 _ 2 _ _ _ B0.out).trans (show _ = some (Value.int .i64 cu) from rfl)
  have p_B0_3 := (cell_of_row W2 _ 3 _ _ _ B0.out).trans (show _ = some (ov) from rfl)
  have p_B0_4 := (cell_of_row W2 _ 4 _ _ _ B0.out).trans (show _ = some (av) from rfl)
  have p_B0_5 := (cell_of_row W2 _ 5 _ _ _ B0.out).trans (show _ = some (dv) from rfl)
  have p_B0_6 := (cell_of_row W2 _ 6 _ _ _ B0.out).trans (show _ = some (lv) from rfl)
  have p_B0_7 := (cell_of_row W2 _ 7 _ _ _ B0.out).trans (show _ = some (Value.int .i64 st) from rfl)
  have p_B1_0 := (cell_of_row W2 _ 0 _ _ _ B1.out).trans (show _ = some (Value.int .i64 a0) from rfl)
  have p_B1_1 := (cell_of_row W2 _ 1 _ _ _ B1.out).trans (show _ = some (Value.int .i64 a1) from rfl)
  have p_B1_2 := (cell_of_row W2 _ 2 _ _ _ B1.out).trans (show _ = some (Value.slice p2 x2.length c2) from rfl)
  have p_B1_3 := (cell_of_row W2 _ 3 _ _ _ B1.out).trans (show _ = some (Value.slice p3 x3.length c3) from rfl)
  have p_B1_4 := (cell_of_row W2 _ 4 _ _ _ B1.out).trans (show _ = some (Value.int .i64 a4) from rfl)
  have p_B1_5 := (cell_of_row W2 _ 5 _ _ _ B1.out).trans (show _ = some (Value.slice p5 x5.length c5) from rfl)
  have p_B1_6 := (cell_of_row W2 _ 6 _ _ _ B1.out).trans (show _ = some (Value.int .i64 a6) from rfl)
  have p_B1_7 := (cell_of_row W2 _ 7 _ _ _ B1.out).trans (show _ = some (Value.int .i64 a7) from rfl)
  have p_B1_8 := (cell_of_row W2 _ 8 _ _ _ B1.out).trans (show _ = some (Value.int .i64 a8) from rfl)
  have p_B1_9 := (cell_of_row W2 _ 9 _ _ _ B1.out).trans (show _ = some (Value.slice p9 x9.length c9) from rfl)
  go_wp2_with fail
  clear p_B0_0 p_B0_1 p_B0_2 p_B0_3 p_B0_4 p_B0_5 p_B0_6 p_B0_7 p_B1_0 p_B1_1 p_B1_2 p_B1_3 p_B1_4 p_B1_5 p_B1_6 p_B1_7 p_B1_8 p_B1_9
  refine (in_any a8 0 32 _).mono ?_
  rintro e wx ⟨rfl, hwx⟩
  obtain rfl := hwx.symm
  rcases Bool.eq_false_or_eq_true (decide (0 ≤ a8 ∧ a8 ≤ 32)) with tt4 | tt4
  rotate_left
  · rw [tt4]
    have HF := Lib.hid (act_no2 (s := (ss, now)) (a := ((a0, a1, x2, x3), a4, x5, a6, a7, a8, x9)) (fun g => of_decide_eq_false tt4 g.2.2.2))
    clear tt4
    have p_B0_0 := (cell_of_row W2 _ 0 _ _ _ B0.out).trans (show _ = some (Value.slice sa ss.length sc) from rfl)
    have p_B0_1 := (cell_of_row W2 _ 1 _ _ _ B0.out).trans (show _ = some (Value.int .i64 now) from rfl)
    have p_B0_2 := (cell_of_row W2 _ 2 _ _ _ B0.out).trans (show _ = some (Value.int .i64 cu) from rfl)
    have p_B0_3 := (cell_of_row W2 _ 3 _ _ _ B0.out).trans (show _ = some (ov) from rfl)
    have p_B0_4 := (cell_of_row W2 _ 4 _ _ _ B0.out).trans (show _ = some (av) from rfl)
    have p_B0_5 := (cell_of_row W2 _ 5 _ _ _ B0.out).trans (show _ = some (dv) from rfl)
    have p_B0_6 := (cell_of_row W2 _ 6 _ _ _ B0.out).trans (show _ = some (lv) from rfl)
    have p_B0_7 := (cell_of_row W2 _ 7 _ _ _ B0.out).trans (show _ = some (Value.int .i64 st) from rfl)
    have p_B1_0 := (cell_of_row W2 _ 0 _ _ _ B1.out).trans (show _ = some (Value.int .i64 a0) from rfl)
    have p_B1_1 := (cell_of_row W2 _ 1 _ _ _ B1.out).trans (show _ = some (Value.int .i64 a1) from rfl)
    have p_B1_2 := (cell_of_row W2 _ 2 _ _ _ B1.out).trans (show _ = some (Value.slice p2 x2.length c2) from rfl)
    have p_B1_3 := (cell_of_row W2 _ 3 _ _ _ B1.out).trans (show _ = some (Value.slice p3 x3.length c3) from rfl)
    have p_B1_4 := (cell_of_row W2 _ 4 _ _ _ B1.out).trans (show _ = some (Value.int .i64 a4) from rfl)
    have p_B1_5 := (cell_of_row W2 _ 5 _ _ _ B1.out).trans (show _ = some (Value.slice p5 x5.length c5) from rfl)
    have p_B1_6 := (cell_of_row W2 _ 6 _ _ _ B1.out).trans (show _ = some (Value.int .i64 a6) from rfl)
    have p_B1_7 := (cell_of_row W2 _ 7 _ _ _ B1.out).trans (show _ = some (Value.int .i64 a7) from rfl)
    have p_B1_8 := (cell_of_row W2 _ 8 _ _ _ B1.out).trans (show _ = some (Value.int .i64 a8) from rfl)
    have p_B1_9 := (cell_of_row W2 _ 9 _ _ _ B1.out).trans (show _ = some (Value.slice p9 x9.length c9) from rfl)
    go_wp2
    clear p_B0_0 p_B0_1 p_B0_2 p_B0_3 p_B0_4 p_B0_5 p_B0_6 p_B0_7 p_B1_0 p_B1_1 p_B1_2 p_B1_3 p_B1_4 p_B1_5 p_B1_6 p_B1_7 p_B1_8 p_B1_9
    go_ret
    exact ⟨ret_b HF.out.symm, d.out⟩
  rw [tt4]
  have TT4 := Lib.hid tt4
  clear tt4
  have p_B0_0 := (cell_of_row W2 _ 0 _ _ _ B0.out).trans (show _ = some (Value.slice sa ss.length sc) from rfl)
  have p_B0_1 := (cell_of_row W2 _ 1 _ _ _ B0.out).trans (show _ = some (Value.int .i64 now) from rfl)
  have p_B0_2 := (cell_of_row W2 _ 2 _ _ _ B0.out).trans (show _ = some (Value.int .i64 cu) from rfl)
  have p_B0_3 := (cell_of_row W2 _ 3 _ _ _ B0.out).trans (show _ = some (ov) from rfl)
  have p_B0_4 := (cell_of_row W2 _ 4 _ _ _ B0.out).trans (show _ = some (av) from rfl)
  have p_B0_5 := (cell_of_row W2 _ 5 _ _ _ B0.out).trans (show _ = some (dv) from rfl)
  have p_B0_6 := (cell_of_row W2 _ 6 _ _ _ B0.out).trans (show _ = some (lv) from rfl)
  have p_B0_7 := (cell_of_row W2 _ 7 _ _ _ B0.out).trans (show _ = some (Value.int .i64 st) from rfl)
  have p_B1_0 := (cell_of_row W2 _ 0 _ _ _ B1.out).trans (show _ = some (Value.int .i64 a0) from rfl)
  have p_B1_1 := (cell_of_row W2 _ 1 _ _ _ B1.out).trans (show _ = some (Value.int .i64 a1) from rfl)
  have p_B1_2 := (cell_of_row W2 _ 2 _ _ _ B1.out).trans (show _ = some (Value.slice p2 x2.length c2) from rfl)
  have p_B1_3 := (cell_of_row W2 _ 3 _ _ _ B1.out).trans (show _ = some (Value.slice p3 x3.length c3) from rfl)
  have p_B1_4 := (cell_of_row W2 _ 4 _ _ _ B1.out).trans (show _ = some (Value.int .i64 a4) from rfl)
  have p_B1_5 := (cell_of_row W2 _ 5 _ _ _ B1.out).trans (show _ = some (Value.slice p5 x5.length c5) from rfl)
  have p_B1_6 := (cell_of_row W2 _ 6 _ _ _ B1.out).trans (show _ = some (Value.int .i64 a6) from rfl)
  have p_B1_7 := (cell_of_row W2 _ 7 _ _ _ B1.out).trans (show _ = some (Value.int .i64 a7) from rfl)
  have p_B1_8 := (cell_of_row W2 _ 8 _ _ _ B1.out).trans (show _ = some (Value.int .i64 a8) from rfl)
  have p_B1_9 := (cell_of_row W2 _ 9 _ _ _ B1.out).trans (show _ = some (Value.slice p9 x9.length c9) from rfl)
  go_wp2_with fail
  clear p_B0_0 p_B0_1 p_B0_2 p_B0_3 p_B0_4 p_B0_5 p_B0_6 p_B0_7 p_B1_0 p_B1_1 p_B1_2 p_B1_3 p_B1_4 p_B1_5 p_B1_6 p_B1_7 p_B1_8 p_B1_9
  refine (specL9List (.slice p9 x9.length c9) x9 W2 (slR_below tRow_law H9.out d.out) S9.out).mono ?_
  rintro e W3 ⟨rfl, c⟩
  replace B0 := Lib.hid ((c.block w.heap.size (Array.getElem?_eq_some_iff.1 B0.out).1).trans B0.out)
  replace B1 := Lib.hid ((c.block (w.heap.size + 1) (Array.getElem?_eq_some_iff.1 B1.out).1).trans B1.out)
  replace d := Lib.hid (d.out.trans (c.mono d.out.size))
  have Z_W3 := Lib.hid (show W2.heap.size ≤ W3.heap.size from c.size)
  clear c
  have HT : Hid (listB x9 = actB (ss, now) ((a0, a1, x2, x3), a4, x5, a6, a7, a8, x9)) := Lib.hid (by
    rcases Bool.eq_false_or_eq_true (listB x9) with g | g
    · rw [g]; exact (act_yes (s := (ss, now)) (a := ((a0, a1, x2, x3), a4, x5, a6, a7, a8, x9)) HQ.out ⟨of_decide_eq_true TT1.out, of_decide_eq_true TT2.out, of_decide_eq_true TT3.out, of_decide_eq_true TT4.out⟩ HTD.out g).symm
    · rw [g]; exact (act_no4 (s := (ss, now)) (a := ((a0, a1, x2, x3), a4, x5, a6, a7, a8, x9)) g).symm)
  go_wp2
  go_ret
  exact ⟨ret_b HT.out, d.out⟩
end Go.Proofs.YtdhglmoanpkeoaaGreatDoor
namespace Go.Proofs.YtdhglmoanpkeoaaGreatDoor
open Go.RowKit
set_option linter.unusedVariables false
set_option linter.unusedSimpArgs false
end Go.Proofs.YtdhglmoanpkeoaaGreatDoor
namespace Go.Proofs.YtdhglmoanpkeoaaGreatDoor
open Go.RowKit
set_option linter.unusedVariables false
set_option linter.unusedSimpArgs false
/-- What the table of types says of the element. -/
def ElemInfo {α : Type} (T : Ty α) (e : TypeId) (z : Value) : Prop := ∃ i, Tryz.prog.info? e = some i ∧ i.zero = some z ∧ i.size = T.n ∧ i.bytes ≤ 512
theorem elemInfo_of {α : Type} {T : Ty α} {e : TypeId} {z : Value} (h : (Tryz.prog.info? e).map (fun i => (i.zero, i.size, decide (i.bytes ≤ 512))) = some (some z, T.n, true)) : ElemInfo T e z := by
  cases q : Tryz.prog.info? e with
  | none => rw [q] at h; simp at h
  | some i => rw [q] at h; simp only [Option.map_some, Option.some.injEq, Prod.mk.injEq, decide_eq_true_eq] at h; exact ⟨i, q, h.1, h.2.1, h.2.2⟩
theorem addr_add0 (b j : Nat) : (⟨b, 0, none⟩ : Addr).add j = ⟨b, j, none⟩ := by unfold Addr.add; split <;> simp_all
theorem addr_add (b o j : Nat) : (⟨b, o, none⟩ : Addr).add j = ⟨b, o + j, none⟩ := by unfold Addr.add; split <;> simp_all
/-- The blocks of what was there, as the append leaves them. -/
theorem grown_alloc {w w' : World} {o : Obj} {row : Option Nat} (h : (w.alloc o).grownBy w' row) : w.grownBy w' row := by
  have hg := World.grownBy_alloc w o row
  exact ⟨h.os.trans hg.os, h.tape.trans hg.tape, h.output.trans hg.output, Nat.le_trans hg.size h.size, fun k hk hne => (h.block k (Nat.lt_of_lt_of_le hk hg.size) hne).trans (hg.block k hk hne)⟩
theorem run_append_T {α : Type} {T : Ty α} (A : T.Law) {e t : TypeId} {z : Value} (I : ElemInfo T e z) (ht : Tryz.prog.underlying t = some (.slice e)) (hz : z.cells.size = T.n)
    {w : World} (ty : TypeId) (F : Nat → Prop) (D : Nat) (v : Value) (xs : List α) (hown : SlO e T w (fun b => F b ∧ b < D) v xs) (hD : D ≤ w.heap.size) (hf : ∀ b, D ≤ b → F b) (hn : xs.length ≤ 1048576)
    (cs : List Value) (x0 : α) (hnew : T.O w (fun b => D ≤ b) cs x0) (h1 : ∀ u ∈ cs, u.oneCell' = true) (c : Nat) :
    ∃ v' w', (Builtin.append_ #[t, t] ty #[v, .slice (some ⟨w.heap.size, 0, none⟩) 1 c]).run Tryz.prog (w.alloc (.cells cs.toArray e)) = .ok v' w' ∧ SlO e T w' F v' (xs ++ [x0]) ∧ Turn (fun b => F b ∧ b < D) w w' := by
  obtain ⟨i0, hi, hz0, hz1, hz2⟩ := I
  obtain ⟨L, us, Fs, g1, g2, g3, g4⟩ := slO_lt A hown
  have hcl : cs.length = T.n := A.len (A.reads hnew)
  have hpos := A.pos
  have hb : (xs.length + 1) * i0.bytes ≤ 1048577 * 512 := Nat.mul_le_mul (by omega) hz2
  obtain ⟨v', w', hr, k1, k2, _, k4⟩ := run_append_own_at (P := Tryz.prog) (w.alloc (.cells cs.toArray e)) 0 t ty e i0 z T.n i0.bytes ht hi hz0 hz1 rfl hz hpos v xs.length _ (g1.alloc _) ⟨w.heap.size, 0, none⟩ 1 c cs (by omega) (fun j u hj => by
    rw [addr_add0, cell_of_row _ w.heap.size j cs.toArray e (0, 0) (heap_alloc_new w _)]
    simpa using hj) h1 (by unfold maxLen; omega) (by omega) (Nat.zero_le _)
  have k5 := grown_alloc k2
  have hv : ∀ b, v.ownBlock = some b → F b ∧ b < D := fun b hb => (g2 b hb).1
  have hsz : (w.alloc (.cells cs.toArray e)).heap.size = w.heap.size + 1 := by simp [World.size_alloc]
  refine ⟨v', w', hr, ?_, turn_grown k5 hv⟩
  refine slO_app (F := F) (Fn := fun b => D ≤ b ∧ b < w.heap.size) A (fun b hb => (hv b hb).1) (fun j hj => ⟨(g3 j hj).1, (g3 j hj).2.1, fun b hb => ⟨⟨((g3 j hj).2.2 b hb).1.1.1, ((g3 j hj).2.2 b hb).1.2⟩, ((g3 j hj).2.2 b hb).2⟩⟩) g4 g1.1 k1 k5 (fun b hb => ?_) (A.lt hnew) hcl (fun b hb => ⟨hf b hb.1, hb.2, fun q => ?_, fun j hj q => ?_⟩)
  · rcases k4 with q | q
    · exact Or.inl (q ▸ hb)
    · rw [q, hsz] at hb
      have := Option.some.inj hb
      exact Or.inr ⟨by omega, hf b (by omega)⟩
  · have := (hv b q).2; omega
  · have := ((g3 j hj).2.2 b q).1.1.2; omega
theorem append_T {α : Type} {T : Ty α} (A : T.Law) {e t : TypeId} {z : Value} (I : ElemInfo T e z) (ht : Tryz.prog.underlying t = some (.slice e)) (hz : z.cells.size = T.n)
    {w : World} {ops : Array Oper} {rest : List Oper} {o : Oper} {a : Act} {Q : Exit → Act → World → Prop} (hgd : o.guard = none) (s x : Operand)
    (ho : o.op = .call { callee := .builtin .append, args := #[s, x], argTypes := #[t, t] })
    (F : Nat → Prop) (D : Nat) (v : Value) (xs : List α) (hs : a.eval s = v) (hown : SlO e T w (fun b => F b ∧ b < D) v xs) (hD : D ≤ w.heap.size) (hf : ∀ b, D ≤ b → F b) (hn : xs.length ≤ 1048576)
    (cs : List Value) (x0 : α) (hnew : T.O w (fun b => D ≤ b) cs x0) (h1 : ∀ u ∈ cs, u.oneCell' = true) (c g0 : Nat) (hx : a.eval x = .slice (some ⟨g0, 0, none⟩) 1 c) (hg0 : g0 = w.heap.size)
    (h : ∀ v' w', SlO e T w' F v' (xs ++ [x0]) → Turn (fun b => F b ∧ b < D) w w' → wpList Tryz.prog ops Q rest (a.put o.dst v') w') : wpList Tryz.prog ops Q (o :: rest) a (w.alloc (.cells cs.toArray e)) := by
  subst hg0
  refine wpList_plain hgd fun K hK => ?_
  obtain ⟨v', w', hr, h2, h3⟩ := run_append_T A I ht hz o.type F D v xs hown hD hf hn cs x0 hnew h1 c
  unfold Oper.wp execOp
  simp only [ho, resolve, invoke, builtin, Sem.run_bind, Sem.run_pure, Result.andThen_ok, List.map_toArray, List.map_cons, List.map_nil, hs, hx, hr]
  exact hK _ _ (h v' w' h2 h3)
/-- The cells of a slice that is read, in a row. -/
theorem slR_cells {α : Type} {T : Ty α} {w : World} {b off cap m : Nat} {xs : List α} (A : T.Law) (h : SlR T w (.slice (some ⟨b, off, none⟩) m cap) xs) (hp : 0 < xs.length) :
    m = xs.length ∧ b < w.heap.size ∧ ∃ L : List Value, L.length = xs.length * T.n ∧ (∀ j u, L[j]? = some u → w.cell? ⟨b, off + j, none⟩ = some u) ∧ ∀ j, j < xs.length → ∃ cs, T.R w cs (xs.getD j T.d) ∧ ∀ i, i < T.n → L[j * T.n + i]? = cs[i]? := by
  rcases h with ⟨rfl, _⟩ | ⟨b', off', cap', us, hv, h2, h3, h4⟩
  · simp at hp
  · simp only [Value.slice.injEq, Option.some.injEq, Addr.mk.injEq] at hv
    obtain ⟨⟨rfl, rfl, _⟩, rfl, rfl⟩ := hv
    have hpos := A.pos
    have hlen : ∀ j, j < xs.length → (us j).length = T.n := fun j hj => A.len (h4 j hj).2
    refine ⟨rfl, h3, (List.range (xs.length * T.n)).map (fun k => (us (k / T.n)).getD (k % T.n) undef), by simp, fun j u hj => ?_, fun j hj => ⟨us j, (h4 j hj).2, fun i hi => ?_⟩⟩
    · have hjl : j < xs.length * T.n := by
        have := (List.getElem?_eq_some_iff.1 hj).1
        simpa using this
      rw [List.getElem?_map, List.getElem?_range hjl] at hj
      simp only [Option.map_some, Option.some.injEq] at hj
      have hq : j / T.n < xs.length := (Nat.div_lt_iff_lt_mul hpos).2 hjl
      have hm : j % T.n < T.n := Nat.mod_lt _ hpos
      have e : off + j / T.n * T.n + j % T.n = off + j := by
        have := Nat.div_add_mod j T.n
        rw [Nat.mul_comm] at this; omega
      have hc := (h4 _ hq).1 _ hm
      rw [e, List.getElem?_eq_getElem (by rw [hlen _ hq]; exact hm)] at hc
      rw [hc, ← hj]
      simp [List.getD, hlen _ hq, hm]
    · have hlt : j * T.n + i < xs.length * T.n := by
        have : (j + 1) * T.n ≤ xs.length * T.n := Nat.mul_le_mul_right _ hj
        rw [Nat.add_mul, Nat.one_mul] at this; omega
      have e1 : (j * T.n + i) / T.n = j := by rw [Nat.mul_comm, Nat.mul_add_div hpos, Nat.div_eq_of_lt hi]; omega
      have e2 : (j * T.n + i) % T.n = i := by rw [Nat.mul_comm, Nat.mul_add_mod, Nat.mod_eq_of_lt hi]
      rw [List.getElem?_map, List.getElem?_range hlt]
      simp only [Option.map_some, e1, e2]
      rw [List.getElem?_eq_getElem (by rw [hlen j hj]; exact hi)]
      simp [List.getD, hlen j hj, hi]
/-- Plain data: what is read may be owned. -/
def Flat {α : Type} (T : Ty α) : Prop := (∀ {w w' : World} {F : Nat → Prop} {cs : List Value} {x : α}, T.R w cs x → T.O w' F cs x) ∧ ∀ {w : World} {cs : List Value} {x : α}, T.R w cs x → ∀ u ∈ cs, u.oneCell' = true
/-- What lies in slices of plain data that the call made, element by element. -/
theorem slO_flat {α : Type} {T : Ty α} (A : T.Law) (hfl : Flat T) {e : TypeId} {w : World} {F : Nat → Prop} {v : Value} {xs : List α} {L : List Value} {B : Nat} (h : w.ownsRow B e T.n v xs.length L) (hF : ∀ b, v.ownBlock = some b → F b)
    (hL : ∀ j, j < xs.length → ∃ cs, T.R w cs (xs.getD j T.d) ∧ ∀ i, i < T.n → L[j * T.n + i]? = cs[i]?) : SlO e T w F v xs := by
  haveI : Inhabited (List Value) := ⟨[]⟩
  obtain ⟨f, hf⟩ := Go.Deep.choose_lt (α := List Value) (n := xs.length) (p := fun j cs => T.R w cs (xs.getD j T.d) ∧ ∀ i, i < T.n → L[j * T.n + i]? = cs[i]?) hL
  exact ⟨L, f, fun _ _ => False, row_low h (Nat.zero_le _), hF, fun j hj => ⟨(hf j hj).2, hfl.1 (hf j hj).1, fun b hb => False.elim hb⟩, fun i j _ _ _ b hb => False.elim hb⟩
theorem run_append_flat {α : Type} {T : Ty α} (A : T.Law) (hfl : Flat T) {e t : TypeId} {z : Value} (I : ElemInfo T e z) (ht : Tryz.prog.underlying t = some (.slice e)) (hz : z.cells.size = T.n)
    {w : World} {F0 F : Nat → Prop} {v u : Value} {xs ys : List α} (ty : TypeId) (hown : SlO e T w F0 v xs) (hu : SlR T w u ys) (h0 : ∀ b, F0 b → F b) (hf : F w.heap.size) (h63 : xs.length + ys.length ≤ 2097152) :
    ∃ v' w', (Builtin.append_ #[t, t] ty #[v, u]).run Tryz.prog w = .ok v' w' ∧ SlO e T w' F v' (xs ++ ys) ∧ w.grownBy w' v.ownBlock := by
  obtain ⟨i0, hi, hz0, hz1, hz2⟩ := I
  have hpos := A.pos
  by_cases hp : 0 < ys.length
  · obtain ⟨a', cap', rfl⟩ := slR_len hu
    rcases hu with ⟨rfl, _⟩ | hu'
    · simp at hp
    · have hu : SlR T w (.slice a' ys.length cap') ys := Or.inr hu'
      obtain ⟨b, off, cap2, us, hv, _⟩ := hu'
      simp only [Value.slice.injEq] at hv
      obtain ⟨rfl, _, rfl⟩ := hv
      obtain ⟨_, hbl, N, hN, hNc, hNr⟩ := slR_cells A hu hp
      obtain ⟨L, us2, Fs, g1, g2, g3, g4⟩ := hown
      have hb : (xs.length + ys.length) * i0.bytes ≤ 2097152 * 512 := Nat.mul_le_mul h63 hz2
      obtain ⟨v', w', hr, k1, k2, _, k4⟩ := run_append_own_at (P := Tryz.prog) w 0 t ty e i0 z T.n i0.bytes ht hi hz0 hz1 rfl hz hpos v xs.length _ g1 ⟨b, off, none⟩ ys.length cap' N hN (fun j q hj => by rw [addr_add]; exact hNc j q hj) (fun q hq => by
        obtain ⟨k, hk, rfl⟩ := List.getElem_of_mem hq
        have hkl : k < ys.length * T.n := by omega
        have hq : k / T.n < ys.length := (Nat.div_lt_iff_lt_mul hpos).2 hkl
        have hm : k % T.n < T.n := Nat.mod_lt _ hpos
        obtain ⟨cs, hR, hc⟩ := hNr _ hq
        have e1 : k / T.n * T.n + k % T.n = k := by
          have := Nat.div_add_mod k T.n
          rw [Nat.mul_comm] at this; exact this
        have h5 := hc _ hm
        rw [e1, List.getElem?_eq_getElem hk, List.getElem?_eq_getElem (by rw [A.len hR]; exact hm)] at h5
        rw [Option.some.inj h5]
        exact hfl.2 hR _ (List.getElem_mem _)) (by unfold maxLen; omega) (by omega) (Nat.zero_le _)
      refine ⟨v', w', hr, ?_, k2⟩
      have hLl : L.length = xs.length * T.n := g1.1
      refine slO_flat A hfl (by rw [List.length_append]; exact k1) (fun c hc => ?_) (fun j hj => ?_)
      · rcases k4 with q | q
        · exact h0 c (g2 c (q ▸ hc))
        · rw [q] at hc; rw [← Option.some.inj hc]; exact hf
      · rw [List.length_append] at hj
        by_cases hlt : j < xs.length
        · have er : (xs ++ ys).getD j T.d = xs.getD j T.d := by simp [List.getD, List.getElem?_append_left hlt]
          obtain ⟨c1, c2, _⟩ := g3 j hlt
          refine ⟨us2 j, by rw [er]; exact A.reads (hfl.1 (w' := w') (F := F) (A.reads c2)), fun i hi => ?_⟩
          have hl2 : j * T.n + i < L.length := by
            have : (j + 1) * T.n ≤ xs.length * T.n := Nat.mul_le_mul_right _ hlt
            rw [Nat.add_mul, Nat.one_mul] at this; omega
          rw [List.getElem?_append_left hl2]
          exact c1 i hi
        · obtain ⟨m, rfl⟩ : ∃ m, j = xs.length + m := ⟨j - xs.length, by omega⟩
          have hm : m < ys.length := by omega
          have er : (xs ++ ys).getD (xs.length + m) T.d = ys.getD m T.d := by simp [List.getD, List.getElem?_append_right]
          obtain ⟨cs, hR, hc⟩ := hNr m hm
          refine ⟨cs, by rw [er]; exact A.reads (hfl.1 (w' := w') (F := F) hR), fun i hi => ?_⟩
          have e1 : (xs.length + m) * T.n + i = L.length + (m * T.n + i) := by rw [hLl, Nat.add_mul]; omega
          rw [e1, List.getElem?_append_right (by omega), Nat.add_sub_cancel_left]
          exact hc i hi
  · have hy : ys = [] := List.eq_nil_of_length_eq_zero (by omega)
    subst hy
    obtain ⟨a', cap', rfl⟩ := slR_len hu
    have hs : Src Tryz.prog i0.size t (.slice a' 0 cap') 0 [] w := by
      cases a' with
      | none => exact Src.ofNil w ht cap'
      | some ad => exact Src.ofSlice w ht ad 0 cap' [] (by simp) (by simp) (by simp)
    obtain ⟨a, cap, hv, hle⟩ : ∃ a cap, v = .slice a xs.length cap ∧ xs.length ≤ cap := by
      obtain ⟨L, us2, Fs, g1, _⟩ := hown
      rcases g1.2 with ⟨rfl, q⟩ | ⟨g, cap, cur, rfl, _, _, hn, _⟩
      · exact ⟨none, 0, by rw [q], by omega⟩
      · exact ⟨_, cap, rfl, hn⟩
    subst hv
    exact ⟨_, _, run_append_nothing w t t ty e i0 ht hi a xs.length cap hle _ hs, by rw [List.append_nil]; exact slO_mono hown h0, World.grownBy.refl _ _⟩
theorem append_flat {α : Type} {T : Ty α} (A : T.Law) (hfl : Flat T) {e t : TypeId} {z : Value} (I : ElemInfo T e z) (ht : Tryz.prog.underlying t = some (.slice e)) (hz : z.cells.size = T.n)
    {w : World} {ops : Array Oper} {rest : List Oper} {o : Oper} {a : Act} {Q : Exit → Act → World → Prop} (hgd : o.guard = none) (s x : Operand)
    (ho : o.op = .call { callee := .builtin .append, args := #[s, x], argTypes := #[t, t] })
    (F0 F : Nat → Prop) (v u : Value) (xs ys : List α) (hs : a.eval s = v) (hx : a.eval x = u) (hown : SlO e T w F0 v xs) (hu : SlR T w u ys) (h0 : ∀ b, F0 b → F b) (hf : F w.heap.size) (h63 : xs.length + ys.length ≤ 2097152)
    (h : ∀ v' w', SlO e T w' F v' (xs ++ ys) → Turn F0 w w' → wpList Tryz.prog ops Q rest (a.put o.dst v') w') : wpList Tryz.prog ops Q (o :: rest) a w := by
  refine wpList_plain hgd fun K hK => ?_
  have hblk : ∀ b, v.ownBlock = some b → F0 b := by obtain ⟨L, us2, Fs, g1, g2, _⟩ := hown; exact g2
  obtain ⟨v', w', hr, h2, h3⟩ := run_append_flat A hfl I ht hz o.type hown hu h0 hf h63
  unfold Oper.wp execOp
  simp only [ho, resolve, invoke, builtin, Sem.run_bind, Sem.run_pure, Result.andThen_ok, List.map_toArray, List.map_cons, List.map_nil, hs, hx, hr]
  exact hK _ _ (h v' w' h2 (turn_grown h3 hblk))
/-- 'T{}' as a slice: no element yet. -/
theorem slO_empty {α : Type} {T : Ty α} (w : World) (e : TypeId) (F : Nat → Prop) (h : F w.heap.size) : SlO e T (w.alloc (.cells #[] e)) F (.slice (some ⟨w.heap.size, 0, none⟩) 0 0) [] := by
  refine ⟨[], fun _ => [], fun _ _ => False, ?_, fun b hb => ?_, fun j hj => by simp at hj, fun i j hi => by simp at hi⟩
  · have := World.ownsRow_made (base := 0) (e := e) (size := T.n) w #[] 0 (Nat.zero_le _) (by unfold maxLen; omega) (by simp)
    exact this
  · simp [Value.ownBlock] at hb; rw [← hb]; exact h
end Go.Proofs.YtdhglmoanpkeoaaGreatDoor
