/-
 Texts of the proof, merged: TCharge, TChargeS, TEngine, SlEq, BrRow, TQueryS, TyApp, Raw, FlatT, OpenInts.
-/
import Derived.Test.YtdhglmoanpkeoaaEQ1
import Derived.Test.YtdhglmoanpkeoaaEQ3
import Derived.Test.YtdhglmoanpkeoaaEQ4
import Derived.BigQuiet
import Derived.Deep.QuietTactic
import Derived.Deep.RegionHeld3
import Derived.Maps.AppendAt
import Derived.Deep.Upon
import Derived.Deep.Slices
import Derived.ProofKit
import Derived.OpenShut
import Derived.Carry
namespace Go.Proofs.Ytdhglmoanpkeoaa
open Go.RowKit
set_option linter.unusedVariables false
set_option linter.unusedSimpArgs false
def tCharge : Ty (Int × Int × List Int × List Int × List Int) := tPair tInt (tPair tInt (tPair tIntS (tPair tIntS tIntS)))
theorem tCharge_law : tCharge.Law := tPair_law tInt_law (tPair_law tInt_law (tPair_law tIntS_law (tPair_law tIntS_law tIntS_law)))
theorem tCharge_R {w : World} {cs : List Value} {a0 : Int} {a1 : Int} {x2 : List Int} {x3 : List Int} {x4 : List Int} (h : tCharge.R w cs (a0, a1, x2, x3, x4)) : ∃ v2 v3 v4, cs = [.int .i64 a0, .int .i64 a1, v2, v3, v4] ∧ SlR tInt w v2 x2 ∧ SlR tInt w v3 x3 ∧ SlR tInt w v4 x4 := by
 obtain ⟨_, _, rfl, rfl, ⟨_, _, rfl, rfl, ⟨_, _, rfl, ⟨v2, rfl, h2⟩, ⟨_, _, rfl, ⟨v3, rfl, h3⟩, ⟨v4, rfl, h4⟩⟩⟩⟩⟩ := h
 exact ⟨_, _, _, rfl, h2, h3, h4⟩
theorem tCharge_sz {a0 : Int} {a1 : Int} {x2 : List Int} {x3 : List Int} {x4 : List Int} : tCharge.sz (a0, a1, x2, x3, x4) = zL tInt x2 + zL tInt x3 + zL tInt x4 := by
 simp only [tCharge, tPair_sz, tPair_nd, tPair_nv, tInt_sz, tInt_nd, tInt_nv, tSl_sz, tSl_nd, tSl_nv]
 try omega
theorem tCharge_O {w : World} {F : Nat → Prop} {cs : List Value} {a0 : Int} {a1 : Int} {x2 : List Int} {x3 : List Int} {x4 : List Int} (h : tCharge.O w F cs (a0, a1, x2, x3, x4)) : ∃ v2 v3 v4, ∃ F2 F3 F4 : Nat → Prop, cs = [.int .i64 a0, .int .i64 a1, v2, v3, v4] ∧ SlO 3 tInt w F2 v2 x2 ∧ SlO 3 tInt w F3 v3 x3 ∧ SlO 3 tInt w F4 v4 x4 ∧ (∀ b, F2 b → F b) ∧ (∀ b, F3 b → F b) ∧ (∀ b, F4 b → F b) ∧ (∀ b, F2 b → ¬ F3 b) ∧ (∀ b, F2 b → ¬ F4 b) ∧ (∀ b, F3 b → ¬ F4 b) := by
 obtain ⟨_, _, F0_1, F0_2, rfl, rfl, ⟨_, _, F1_1, F1_2, rfl, rfl, ⟨_, _, F2_1, F2_2, rfl, ⟨v2, rfl, h2⟩, ⟨_, _, F3_1, F3_2, rfl, ⟨v3, rfl, h3⟩, ⟨v4, rfl, h4⟩, s3_1, s3_2, d3⟩, s2_1, s2_2, d2⟩, s1_1, s1_2, d1⟩, s0_1, s0_2, d0⟩ := h
 exact ⟨v2, v3, v4, F2_1, F3_1, F3_2, rfl, h2, h3, h4, fun b h => (s0_2 b (s1_2 b (s2_1 b h))), fun b h => (s0_2 b (s1_2 b (s2_2 b (s3_1 b h)))), fun b h => (s0_2 b (s1_2 b (s2_2 b (s3_2 b h)))), fun b h h2 => d2 b h (s3_1 b h2), fun b h h2 => d2 b h (s3_2 b h2), fun b h h2 => d3 b h h2⟩
theorem tCharge_mkO {w : World} {F : Nat → Prop} {a0 : Int} {a1 : Int} {x2 : List Int} {x3 : List Int} {x4 : List Int} {v2 v3 v4 : Value} {F2 F3 F4 : Nat → Prop} (h2 : SlO 3 tInt w F2 v2 x2) (h3 : SlO 3 tInt w F3 v3 x3) (h4 : SlO 3 tInt w F4 v4 x4) (s2 : ∀ b, F2 b → F b) (s3 : ∀ b, F3 b → F b) (s4 : ∀ b, F4 b → F b) (d2_3 : ∀ b, F2 b → ¬ F3 b) (d2_4 : ∀ b, F2 b → ¬ F4 b) (d3_4 : ∀ b, F3 b → ¬ F4 b) : tCharge.O w F [.int .i64 a0, .int .i64 a1, v2, v3, v4] (a0, a1, x2, x3, x4) := ⟨[.int .i64 a0], [.int .i64 a1, v2, v3, v4], fun _ => False, fun b => F2 b ∨ (F3 b ∨ (F4 b)), rfl, rfl, ⟨[.int .i64 a1], [v2, v3, v4], fun _ => False, fun b => F2 b ∨ (F3 b ∨ (F4 b)), rfl, rfl, ⟨[v2], [v3, v4], F2, fun b => F3 b ∨ (F4 b), rfl, ⟨_, rfl, h2⟩, ⟨[v3], [v4], F3, F4, rfl, ⟨_, rfl, h3⟩, ⟨_, rfl, h4⟩, (fun b h => (Or.inl h)), (fun b h => (Or.inr h)), (fun b h g => d3_4 b h g)⟩, (fun b h => (Or.inl h)), (fun b h => (h.elim (fun q0 => (Or.inr (Or.inl q0))) (fun q0 => (Or.inr (Or.inr q0))))), (fun b h g => (g.elim (fun q10 => d2_3 b h q10) (fun q10 => d2_4 b h q10)))⟩, (fun b h => (False.elim h)), (fun b h => (h.elim (fun q0 => (Or.inl q0)) (fun q0 => (q0.elim (fun q1 => (Or.inr (Or.inl q1))) (fun q1 => (Or.inr (Or.inr q1))))))), (fun b h g => (False.elim h))⟩, (fun b h => (False.elim h)), (fun b h => (h.elim (fun q0 => s2 b q0) (fun q0 => (q0.elim (fun q1 => s3 b q1) (fun q1 => s4 b q1))))), (fun b h g => (False.elim h))⟩
set_option maxHeartbeats 8000000 in
set_option maxRecDepth 100000 in
theorem szCharge_Y (a0 a1 : Int) (v2 v3 v4 : Value) (x2 : List Int) (x3 : List Int) (x4 : List Int) (k0 : Int) (w : World) (h2 : SlR tInt w v2 x2) (h3 : SlR tInt w v3 x3) (h4 : SlR tInt w v4 x4) (hs : ((zL tInt x2 + zL tInt x3 + zL tInt x4 : Nat) : Int) ≤ k0) (hk : k0 ≤ 1048576) :
  Calls Try.prog 105 #[.agg #[.int .i64 a0, .int .i64 a1, v2, v3, v4], .int .i64 k0] w fun e w' => e = .returned (.int .i64 (k0 - ((zL tInt x2 + zL tInt x3 + zL tInt x4 : Nat) : Int))) ∧ Below w.heap.size w w' := by
 have H2 := Lib.hid h2
 have H3 := Lib.hid h3
 have H4 := Lib.hid h4
 clear h2 h3 h4
 have HZ2 : Hid (((zL tInt x2 : Nat) : Int) ≤ k0) := Lib.hid (by omega)
 have HK2 : Hid (k0 ≤ 1048576) := Lib.hid (by omega)
 have hn2 : ¬ k0 - ((zL tInt x2 : Nat) : Int) < 0 := by omega
 have HZ3 : Hid (((zL tInt x3 : Nat) : Int) ≤ k0 - ((zL tInt x2 : Nat) : Int)) := Lib.hid (by omega)
 have HK3 : Hid (k0 - ((zL tInt x2 : Nat) : Int) ≤ 1048576) := Lib.hid (by omega)
 have hn3 : ¬ k0 - ((zL tInt x2 : Nat) : Int) - ((zL tInt x3 : Nat) : Int) < 0 := by omega
 have HZ4 : Hid (((zL tInt x4 : Nat) : Int) ≤ k0 - ((zL tInt x2 : Nat) : Int) - ((zL tInt x3 : Nat) : Int)) := Lib.hid (by omega)
 have HK4 : Hid (k0 - ((zL tInt x2 : Nat) : Int) - ((zL tInt x3 : Nat) : Int) ≤ 1048576) := Lib.hid (by omega)
 have hn4 : ¬ k0 - ((zL tInt x2 : Nat) : Int) - ((zL tInt x3 : Nat) : Int) - ((zL tInt x4 : Nat) : Int) < 0 := by omega
 have HE : Hid (k0 - ((zL tInt x2 : Nat) : Int) - ((zL tInt x3 : Nat) : Int) - ((zL tInt x4 : Nat) : Int) = k0 - ((zL tInt x2 + zL tInt x3 + zL tInt x4 : Nat) : Int)) := Lib.hid (by omega)
 clear hs hk
 have hb : Below w.heap.size w (w.alloc (.cells #[.int .i64 a0, .int .i64 a1, v2, v3, v4] 140)) := (Below.refl _ w).alloc (Nat.le_refl _) _
 have g0 : (w.alloc (.cells #[.int .i64 a0, .int .i64 a1, v2, v3, v4] 140)).heap[w.heap.size]? = some (.cells #[.int .i64 a0, .int .i64 a1, v2, v3, v4] 140 (0, 0)) := heap_alloc_new w _
 have hz0 : w.heap.size < (w.alloc (.cells #[.int .i64 a0, .int .i64 a1, v2, v3, v4] 140)).heap.size := by simp
 go_enter Try.func105, Try.ntmps105
 go_wp2_with fail
 generalize (w.alloc (.cells #[.int .i64 a0, .int .i64 a1, v2, v3, v4] 140)) = W at *
 refine (szIntS_Y v2 x2 (k0) W (slR_below tInt_law H2.out hb) HZ2.out HK2.out).mono ?_
 rintro e W1 ⟨rfl, b1⟩
 replace g0 := (b1.block w.heap.size hz0).trans g0
 replace hz0 := Nat.lt_of_lt_of_le hz0 b1.size
 replace hb := hb.trans (b1.mono hb.size)
 clear b1
 have p3 := (cell_of_row W1 _ 3 _ _ _ g0).trans (show _ = some (v3) from rfl)
 go_wp2_with fail
 clear p3
 refine (szIntS_Y v3 x3 (k0 - ((zL tInt x2 : Nat) : Int)) W1 (slR_below tInt_law H3.out hb) HZ3.out HK3.out).mono ?_
 rintro e W2 ⟨rfl, b1⟩
 replace g0 := (b1.block w.heap.size hz0).trans g0
 replace hz0 := Nat.lt_of_lt_of_le hz0 b1.size
 replace hb := hb.trans (b1.mono hb.size)
 clear b1
 have p4 := (cell_of_row W2 _ 4 _ _ _ g0).trans (show _ = some (v4) from rfl)
 go_wp2_with fail
 clear p4
 refine (szIntS_Y v4 x4 (k0 - ((zL tInt x2 : Nat) : Int) - ((zL tInt x3 : Nat) : Int)) W2 (slR_below tInt_law H4.out hb) HZ4.out HK4.out).mono ?_
 rintro e W3 ⟨rfl, b1⟩
 replace g0 := (b1.block w.heap.size hz0).trans g0
 replace hz0 := Nat.lt_of_lt_of_le hz0 b1.size
 replace hb := hb.trans (b1.mono hb.size)
 clear b1
 go_wp2
 go_ret
 exact ⟨ty_ret HE.out, hb⟩
set_option maxHeartbeats 8000000 in
set_option maxRecDepth 100000 in
theorem szCharge_N (a0 a1 : Int) (v2 v3 v4 : Value) (x2 : List Int) (x3 : List Int) (x4 : List Int) (k0 : Int) (w : World) (h2 : SlR tInt w v2 x2) (h3 : SlR tInt w v3 x3) (h4 : SlR tInt w v4 x4) (hs : k0 < ((zL tInt x2 + zL tInt x3 + zL tInt x4 : Nat) : Int)) (hk : k0 ≤ 1048576) (hp : 0 ≤ k0) (o2 : tIntS.ok x2) (o3 : tIntS.ok x3) (o4 : tIntS.ok x4) :
  Calls Try.prog 105 #[.agg #[.int .i64 a0, .int .i64 a1, v2, v3, v4], .int .i64 k0] w fun e w' => e = .returned (.int .i64 (-1)) ∧ Below w.heap.size w w' := by
 have H2 := Lib.hid h2
 have H3 := Lib.hid h3
 have H4 := Lib.hid h4
 clear h2 h3 h4
 have HO2 := Lib.hid o2
 have HO3 := Lib.hid o3
 have HO4 := Lib.hid o4
 clear o2 o3 o4
 by_cases c0 : k0 < ((zL tInt x2 : Nat) : Int)
 ·
  have HZ2 : Hid (k0 < ((zL tInt x2 : Nat) : Int)) := Lib.hid (by omega)
  have HP2 : Hid (0 ≤ k0) := Lib.hid (by omega)
  have HK2 : Hid (k0 ≤ 1048576) := Lib.hid (by omega)
  clear hs hk
  clear c0 hp
  have hb : Below w.heap.size w (w.alloc (.cells #[.int .i64 a0, .int .i64 a1, v2, v3, v4] 140)) := (Below.refl _ w).alloc (Nat.le_refl _) _
  have g0 : (w.alloc (.cells #[.int .i64 a0, .int .i64 a1, v2, v3, v4] 140)).heap[w.heap.size]? = some (.cells #[.int .i64 a0, .int .i64 a1, v2, v3, v4] 140 (0, 0)) := heap_alloc_new w _
  have hz0 : w.heap.size < (w.alloc (.cells #[.int .i64 a0, .int .i64 a1, v2, v3, v4] 140)).heap.size := by simp
  go_enter Try.func105, Try.ntmps105
  go_wp2_with fail
  generalize (w.alloc (.cells #[.int .i64 a0, .int .i64 a1, v2, v3, v4] 140)) = W at *
  refine (szIntS_N v2 x2 (k0) W (slR_below tInt_law H2.out hb) HZ2.out HK2.out HP2.out HO2.out).mono ?_
  rintro e W1 ⟨rfl, b1⟩
  replace g0 := (b1.block w.heap.size hz0).trans g0
  replace hz0 := Nat.lt_of_lt_of_le hz0 b1.size
  replace hb := hb.trans (b1.mono hb.size)
  clear b1
  go_wp2
  go_ret
  exact ⟨rfl, hb⟩
 ·
  by_cases c1 : k0 - ((zL tInt x2 : Nat) : Int) < ((zL tInt x3 : Nat) : Int)
  ·
   have HZ2 : Hid (((zL tInt x2 : Nat) : Int) ≤ k0) := Lib.hid (by omega)
   have hn2 : ¬ k0 - ((zL tInt x2 : Nat) : Int) < 0 := by omega
   have HK2 : Hid (k0 ≤ 1048576) := Lib.hid (by omega)
   have HZ3 : Hid (k0 - ((zL tInt x2 : Nat) : Int) < ((zL tInt x3 : Nat) : Int)) := Lib.hid (by omega)
   have HP3 : Hid (0 ≤ k0 - ((zL tInt x2 : Nat) : Int)) := Lib.hid (by omega)
   have HK3 : Hid (k0 - ((zL tInt x2 : Nat) : Int) ≤ 1048576) := Lib.hid (by omega)
   clear hs hk
   clear c1 hp c0
   have hb : Below w.heap.size w (w.alloc (.cells #[.int .i64 a0, .int .i64 a1, v2, v3, v4] 140)) := (Below.refl _ w).alloc (Nat.le_refl _) _
   have g0 : (w.alloc (.cells #[.int .i64 a0, .int .i64 a1, v2, v3, v4] 140)).heap[w.heap.size]? = some (.cells #[.int .i64 a0, .int .i64 a1, v2, v3, v4] 140 (0, 0)) := heap_alloc_new w _
   have hz0 : w.heap.size < (w.alloc (.cells #[.int .i64 a0, .int .i64 a1, v2, v3, v4] 140)).heap.size := by simp
   go_enter Try.func105, Try.ntmps105
   go_wp2_with fail
   generalize (w.alloc (.cells #[.int .i64 a0, .int .i64 a1, v2, v3, v4] 140)) = W at *
   refine (szIntS_Y v2 x2 (k0) W (slR_below tInt_law H2.out hb) HZ2.out HK2.out).mono ?_
   rintro e W1 ⟨rfl, b1⟩
   replace g0 := (b1.block w.heap.size hz0).trans g0
   replace hz0 := Nat.lt_of_lt_of_le hz0 b1.size
   replace hb := hb.trans (b1.mono hb.size)
   clear b1
   have p3 := (cell_of_row W1 _ 3 _ _ _ g0).trans (show _ = some (v3) from rfl)
   go_wp2_with fail
   clear p3
   refine (szIntS_N v3 x3 (k0 - ((zL tInt x2 : Nat) : Int)) W1 (slR_below tInt_law H3.out hb) HZ3.out HK3.out HP3.out HO3.out).mono ?_
   rintro e W2 ⟨rfl, b1⟩
   replace g0 := (b1.block w.heap.size hz0).trans g0
   replace hz0 := Nat.lt_of_lt_of_le hz0 b1.size
   replace hb := hb.trans (b1.mono hb.size)
   clear b1
   go_wp2
   go_ret
   exact ⟨rfl, hb⟩
  ·
   have HZ2 : Hid (((zL tInt x2 : Nat) : Int) ≤ k0) := Lib.hid (by omega)
   have hn2 : ¬ k0 - ((zL tInt x2 : Nat) : Int) < 0 := by omega
   have HK2 : Hid (k0 ≤ 1048576) := Lib.hid (by omega)
   have HZ3 : Hid (((zL tInt x3 : Nat) : Int) ≤ k0 - ((zL tInt x2 : Nat) : Int)) := Lib.hid (by omega)
   have hn3 : ¬ k0 - ((zL tInt x2 : Nat) : Int) - ((zL tInt x3 : Nat) : Int) < 0 := by omega
   have HK3 : Hid (k0 - ((zL tInt x2 : Nat) : Int) ≤ 1048576) := Lib.hid (by omega)
   have HZ4 : Hid (k0 - ((zL tInt x2 : Nat) : Int) - ((zL tInt x3 : Nat) : Int) < ((zL tInt x4 : Nat) : Int)) := Lib.hid (by omega)
   have HP4 : Hid (0 ≤ k0 - ((zL tInt x2 : Nat) : Int) - ((zL tInt x3 : Nat) : Int)) := Lib.hid (by omega)
   have HK4 : Hid (k0 - ((zL tInt x2 : Nat) : Int) - ((zL tInt x3 : Nat) : Int) ≤ 1048576) := Lib.hid (by omega)
   clear hs hk
   clear hp c0 c1
   have hb : Below w.heap.size w (w.alloc (.cells #[.int .i64 a0, .int .i64 a1, v2, v3, v4] 140)) := (Below.refl _ w).alloc (Nat.le_refl _) _
   have g0 : (w.alloc (.cells #[.int .i64 a0, .int .i64 a1, v2, v3, v4] 140)).heap[w.heap.size]? = some (.cells #[.int .i64 a0, .int .i64 a1, v2, v3, v4] 140 (0, 0)) := heap_alloc_new w _
   have hz0 : w.heap.size < (w.alloc (.cells #[.int .i64 a0, .int .i64 a1, v2, v3, v4] 140)).heap.size := by simp
   go_enter Try.func105, Try.ntmps105
   go_wp2_with fail
   generalize (w.alloc (.cells #[.int .i64 a0, .int .i64 a1, v2, v3, v4] 140)) = W at *
   refine (szIntS_Y v2 x2 (k0) W (slR_below tInt_law H2.out hb) HZ2.out HK2.out).mono ?_
   rintro e W1 ⟨rfl, b1⟩
   replace g0 := (b1.block w.heap.size hz0).trans g0
   replace hz0 := Nat.lt_of_lt_of_le hz0 b1.size
   replace hb := hb.trans (b1.mono hb.size)
   clear b1
   have p3 := (cell_of_row W1 _ 3 _ _ _ g0).trans (show _ = some (v3) from rfl)
   go_wp2_with fail
   clear p3
   refine (szIntS_Y v3 x3 (k0 - ((zL tInt x2 : Nat) : Int)) W1 (slR_below tInt_law H3.out hb) HZ3.out HK3.out).mono ?_
   rintro e W2 ⟨rfl, b1⟩
   replace g0 := (b1.block w.heap.size hz0).trans g0
   replace hz0 := Nat.lt_of_lt_of_le hz0 b1.size
   replace hb := hb.trans (b1.mono hb.size)
   clear b1
   have p4 := (cell_of_row W2 _ 4 _ _ _ g0).trans (show _ = some (v4) from rfl)
   go_wp2_with fail
   clear p4
   refine (szIntS_N v4 x4 (k0 - ((zL tInt x2 : Nat) : Int) - ((zL tInt x3 : Nat) : Int)) W2 (slR_below tInt_law H4.out hb) HZ4.out HK4.out HP4.out HO4.out).mono ?_
   rintro e W3 ⟨rfl, b1⟩
   replace g0 := (b1.block w.heap.size hz0).trans g0
   replace hz0 := Nat.lt_of_lt_of_le hz0 b1.size
   replace hb := hb.trans (b1.mono hb.size)
   clear b1
   go_wp2
   go_ret
   exact ⟨rfl, hb⟩
set_option maxHeartbeats 8000000 in
set_option maxRecDepth 100000 in
theorem toCharge_T (a0 a1 : Int) (v2 v3 v4 : Value) (x2 : List Int) (x3 : List Int) (x4 : List Int) (w : World) (h2 : SlR tInt w v2 x2) (h3 : SlR tInt w v3 x3) (h4 : SlR tInt w v4 x4) (s2 : zL tInt x2 ≤ 1048576) (s3 : zL tInt x3 ≤ 1048576) (s4 : zL tInt x4 ≤ 1048576) :
  Calls Try.prog 108 #[.agg #[.int .i64 a0, .int .i64 a1, v2, v3, v4]] w (FreshT tCharge (fun cs => .agg cs.toArray) w (a0, a1, x2, x3, x4)) := by
 have H2 := Lib.hid h2
 have H3 := Lib.hid h3
 have H4 := Lib.hid h4
 clear h2 h3 h4
 have S2 := Lib.hid s2
 have S3 := Lib.hid s3
 have S4 := Lib.hid s4
 clear s2 s3 s4
 go_enter Try.func108, Try.ntmps108
 go_wp2_with fail
 have hb : Below w.heap.size w (((w.alloc (.cells #[.int .i64 a0, .int .i64 a1, v2, v3, v4] 140)).alloc (.cells #[.int .i64 0, .int .i64 0, .slice none 0 0, .slice none 0 0, .slice none 0 0] 105)).alloc (.cells #[.int .i64 a0, .int .i64 a1, .slice none 0 0, .slice none 0 0, .slice none 0 0] 105)) := (((Below.refl _ w).alloc (Nat.le_refl _) _).alloc (by simp) _).alloc (by simp; omega) _
 have g2 : (((w.alloc (.cells #[.int .i64 a0, .int .i64 a1, v2, v3, v4] 140)).alloc (.cells #[.int .i64 0, .int .i64 0, .slice none 0 0, .slice none 0 0, .slice none 0 0] 105)).alloc (.cells #[.int .i64 a0, .int .i64 a1, .slice none 0 0, .slice none 0 0, .slice none 0 0] 105)).heap[w.heap.size + 1 + 1]? = some (.cells #[.int .i64 a0, .int .i64 a1, .slice none 0 0, .slice none 0 0, .slice none 0 0] 105 (0, 0)) := by
  have := heap_alloc_new ((w.alloc (.cells #[.int .i64 a0, .int .i64 a1, v2, v3, v4] 140)).alloc (.cells #[.int .i64 0, .int .i64 0, .slice none 0 0, .slice none 0 0, .slice none 0 0] 105)) (.cells #[.int .i64 a0, .int .i64 a1, .slice none 0 0, .slice none 0 0, .slice none 0 0] 105)
  simpa only [World.size_alloc] using this
 have g1 : (((w.alloc (.cells #[.int .i64 a0, .int .i64 a1, v2, v3, v4] 140)).alloc (.cells #[.int .i64 0, .int .i64 0, .slice none 0 0, .slice none 0 0, .slice none 0 0] 105)).alloc (.cells #[.int .i64 a0, .int .i64 a1, .slice none 0 0, .slice none 0 0, .slice none 0 0] 105)).heap[w.heap.size + 1]? = some (.cells #[.int .i64 0, .int .i64 0, .slice none 0 0, .slice none 0 0, .slice none 0 0] 105 (0, 0)) := by
  have := heap_alloc_new (w.alloc (.cells #[.int .i64 a0, .int .i64 a1, v2, v3, v4] 140)) (.cells #[.int .i64 0, .int .i64 0, .slice none 0 0, .slice none 0 0, .slice none 0 0] 105)
  rw [Below.heap_alloc _ _ _ (by simp)]
  simpa only [World.size_alloc] using this
 have g0 : (((w.alloc (.cells #[.int .i64 a0, .int .i64 a1, v2, v3, v4] 140)).alloc (.cells #[.int .i64 0, .int .i64 0, .slice none 0 0, .slice none 0 0, .slice none 0 0] 105)).alloc (.cells #[.int .i64 a0, .int .i64 a1, .slice none 0 0, .slice none 0 0, .slice none 0 0] 105)).heap[w.heap.size]? = some (.cells #[.int .i64 a0, .int .i64 a1, v2, v3, v4] 140 (0, 0)) := by
  rw [Below.heap_alloc _ _ _ (by simp; omega), Below.heap_alloc _ _ _ (by simp)]
  exact heap_alloc_new w _
 have hz : w.heap.size + 2 < (((w.alloc (.cells #[.int .i64 a0, .int .i64 a1, v2, v3, v4] 140)).alloc (.cells #[.int .i64 0, .int .i64 0, .slice none 0 0, .slice none 0 0, .slice none 0 0] 105)).alloc (.cells #[.int .i64 a0, .int .i64 a1, .slice none 0 0, .slice none 0 0, .slice none 0 0] 105)).heap.size := by simp [World.size_alloc]
 generalize (((w.alloc (.cells #[.int .i64 a0, .int .i64 a1, v2, v3, v4] 140)).alloc (.cells #[.int .i64 0, .int .i64 0, .slice none 0 0, .slice none 0 0, .slice none 0 0] 105)).alloc (.cells #[.int .i64 a0, .int .i64 a1, .slice none 0 0, .slice none 0 0, .slice none 0 0] 105)) = W at *
 refine (toIntS_S v2 x2 W (slR_below tInt_law H2.out hb) S2.out).mono ?_
 rintro e w1 ⟨u2, rfl, o2, b1⟩
 obtain ⟨ua2, uc2, rfl⟩ := slO_len o2
 replace o2 := slO_mono (slO_lt tInt_law o2) (F' := fun b => W.heap.size ≤ b ∧ b < w1.heap.size) (fun b h => h)
 replace g0 := (b1.block _ (by omega)).trans g0
 replace g1 := (b1.block _ (by omega)).trans g1
 replace g2 := (b1.block _ (by omega)).trans g2
 have zz1 := b1.size
 replace hb := hb.trans (b1.mono (by omega))
 clear b1
 have c2_0 := (cell_of_row w1 _ 0 _ _ _ g2).trans (show _ = some (Value.int .i64 a0) from rfl)
 have f2_0 := frozen_of_row w1 _ 0 _ _ g2
 have c2_1 := (cell_of_row w1 _ 1 _ _ _ g2).trans (show _ = some (Value.int .i64 a1) from rfl)
 have f2_1 := frozen_of_row w1 _ 1 _ _ g2
 have c2_2 := (cell_of_row w1 _ 2 _ _ _ g2).trans (show _ = some (Value.slice none 0 0) from rfl)
 have f2_2 := frozen_of_row w1 _ 2 _ _ g2
 have ne1 : ¬ w.heap.size = w.heap.size + 1 + 1 := by omega
 have ne2 : ¬ w.heap.size + 1 = w.heap.size + 1 + 1 := by omega
 have ne3 : ¬ w.heap.size + 1 + 1 = w.heap.size + 1 := by omega
 have c0_3 := (cell_of_row w1 _ 3 _ _ _ g0).trans (show _ = some (v3) from rfl)
 have l0_3 : (w1.setCell ⟨w.heap.size + 1 + 1, 2, none⟩ (.slice ua2 x2.length uc2)).cell? ⟨w.heap.size, 3, none⟩ = some (v3) := by
  have m : (w1.setCell ⟨w.heap.size + 1 + 1, 2, none⟩ (.slice ua2 x2.length uc2)).heap[w.heap.size]? = some (.cells #[.int .i64 a0, .int .i64 a1, v2, v3, v4] 140 (0, 0)) := by
   repeat rw [heap_setCell_other _ _ _ _ (by simp <;> omega)]
   exact g0
  exact (cell_of_row _ _ 3 _ _ _ m).trans rfl
 go_wp2_with fail
 clear c2_0 f2_0 c2_1 f2_1 c2_2 f2_2 ne1 ne2 ne3 c0_3 l0_3
 have hw : Turn (fun b => b = w.heap.size + 1 + 1) w1 (w1.setCell ⟨w.heap.size + 1 + 1, 2, none⟩ (.slice ua2 x2.length uc2)) := by
  first | exact ((Turn.refl (fun b => b = w.heap.size + 1 + 1) _).trans (turn_set (G := fun b => b = w.heap.size + 1 + 1) (g := w.heap.size + 1 + 1) (j := 2) (u := .slice ua2 x2.length uc2) rfl)) | skip
 replace g0 := (hw.block _ (by omega) (by omega)).trans g0
 replace g1 := (hw.block _ (by omega) (by omega)).trans g1
 have g2n := (heap_setCell_same _ (w.heap.size + 1 + 1) 2 _ _ (.slice ua2 x2.length uc2) g2)
 replace g2 : (w1.setCell ⟨w.heap.size + 1 + 1, 2, none⟩ (.slice ua2 x2.length uc2)).heap[w.heap.size + 1 + 1]? = some (.cells #[.int .i64 a0, .int .i64 a1, .slice ua2 x2.length uc2, .slice none 0 0, .slice none 0 0] 105 (0, 0)) := by simpa using g2n
 clear g2n
 replace o2 := slO_turn tInt_law o2 hw (fun b h1 h2 => by first | (have := h1.1; omega) | (have := q2 b h1; omega))
 replace hb := below_turn hb hw (fun b h => by omega) (by omega)
 have hz0 := hw.size
 clear hw
 generalize (w1.setCell ⟨w.heap.size + 1 + 1, 2, none⟩ (.slice ua2 x2.length uc2)) = W1 at *
 refine (toIntS_S v3 x3 W1 (slR_below tInt_law H3.out hb) S3.out).mono ?_
 rintro e w2 ⟨u3, rfl, o3, b1⟩
 obtain ⟨ua3, uc3, rfl⟩ := slO_len o3
 replace o3 := slO_mono (slO_lt tInt_law o3) (F' := fun b => W1.heap.size ≤ b ∧ b < w2.heap.size) (fun b h => h)
 replace g0 := (b1.block _ (by omega)).trans g0
 replace g1 := (b1.block _ (by omega)).trans g1
 replace g2 := (b1.block _ (by omega)).trans g2
 replace o2 := slO_fresh tInt_law o2 b1
 have zz2 := b1.size
 replace hb := hb.trans (b1.mono (by omega))
 clear b1
 have c2_0 := (cell_of_row w2 _ 0 _ _ _ g2).trans (show _ = some (Value.int .i64 a0) from rfl)
 have f2_0 := frozen_of_row w2 _ 0 _ _ g2
 have c2_1 := (cell_of_row w2 _ 1 _ _ _ g2).trans (show _ = some (Value.int .i64 a1) from rfl)
 have f2_1 := frozen_of_row w2 _ 1 _ _ g2
 have c2_2 := (cell_of_row w2 _ 2 _ _ _ g2).trans (show _ = some (Value.slice ua2 x2.length uc2) from rfl)
 have f2_2 := frozen_of_row w2 _ 2 _ _ g2
 have c2_3 := (cell_of_row w2 _ 3 _ _ _ g2).trans (show _ = some (Value.slice none 0 0) from rfl)
 have f2_3 := frozen_of_row w2 _ 3 _ _ g2
 have ne1 : ¬ w.heap.size = w.heap.size + 1 + 1 := by omega
 have ne2 : ¬ w.heap.size + 1 = w.heap.size + 1 + 1 := by omega
 have ne3 : ¬ w.heap.size + 1 + 1 = w.heap.size + 1 := by omega
 have c0_4 := (cell_of_row w2 _ 4 _ _ _ g0).trans (show _ = some (v4) from rfl)
 have l0_4 : (w2.setCell ⟨w.heap.size + 1 + 1, 3, none⟩ (.slice ua3 x3.length uc3)).cell? ⟨w.heap.size, 4, none⟩ = some (v4) := by
  have m : (w2.setCell ⟨w.heap.size + 1 + 1, 3, none⟩ (.slice ua3 x3.length uc3)).heap[w.heap.size]? = some (.cells #[.int .i64 a0, .int .i64 a1, v2, v3, v4] 140 (0, 0)) := by
   repeat rw [heap_setCell_other _ _ _ _ (by simp <;> omega)]
   exact g0
  exact (cell_of_row _ _ 4 _ _ _ m).trans rfl
 go_wp2_with fail
 clear c2_0 f2_0 c2_1 f2_1 c2_2 f2_2 c2_3 f2_3 ne1 ne2 ne3 c0_4 l0_4
 have hw : Turn (fun b => b = w.heap.size + 1 + 1) w2 (w2.setCell ⟨w.heap.size + 1 + 1, 3, none⟩ (.slice ua3 x3.length uc3)) := by
  first | exact ((Turn.refl (fun b => b = w.heap.size + 1 + 1) _).trans (turn_set (G := fun b => b = w.heap.size + 1 + 1) (g := w.heap.size + 1 + 1) (j := 3) (u := .slice ua3 x3.length uc3) rfl)) | skip
 replace g0 := (hw.block _ (by omega) (by omega)).trans g0
 replace g1 := (hw.block _ (by omega) (by omega)).trans g1
 have g2n := (heap_setCell_same _ (w.heap.size + 1 + 1) 3 _ _ (.slice ua3 x3.length uc3) g2)
 replace g2 : (w2.setCell ⟨w.heap.size + 1 + 1, 3, none⟩ (.slice ua3 x3.length uc3)).heap[w.heap.size + 1 + 1]? = some (.cells #[.int .i64 a0, .int .i64 a1, .slice ua2 x2.length uc2, .slice ua3 x3.length uc3, .slice none 0 0] 105 (0, 0)) := by simpa using g2n
 clear g2n
 replace o2 := slO_turn tInt_law o2 hw (fun b h1 h2 => by first | (have := h1.1; omega) | (have := q2 b h1; omega))
 replace o3 := slO_turn tInt_law o3 hw (fun b h1 h2 => by first | (have := h1.1; omega) | (have := q3 b h1; omega))
 replace hb := below_turn hb hw (fun b h => by omega) (by omega)
 have hz1 := hw.size
 clear hw
 generalize (w2.setCell ⟨w.heap.size + 1 + 1, 3, none⟩ (.slice ua3 x3.length uc3)) = W2 at *
 refine (toIntS_S v4 x4 W2 (slR_below tInt_law H4.out hb) S4.out).mono ?_
 rintro e w3 ⟨u4, rfl, o4, b1⟩
 obtain ⟨ua4, uc4, rfl⟩ := slO_len o4
 replace o4 := slO_mono (slO_lt tInt_law o4) (F' := fun b => W2.heap.size ≤ b ∧ b < w3.heap.size) (fun b h => h)
 replace g0 := (b1.block _ (by omega)).trans g0
 replace g1 := (b1.block _ (by omega)).trans g1
 replace g2 := (b1.block _ (by omega)).trans g2
 replace o2 := slO_fresh tInt_law o2 b1
 replace o3 := slO_fresh tInt_law o3 b1
 have zz3 := b1.size
 replace hb := hb.trans (b1.mono (by omega))
 clear b1
 have c2_0 := (cell_of_row w3 _ 0 _ _ _ g2).trans (show _ = some (Value.int .i64 a0) from rfl)
 have f2_0 := frozen_of_row w3 _ 0 _ _ g2
 have c2_1 := (cell_of_row w3 _ 1 _ _ _ g2).trans (show _ = some (Value.int .i64 a1) from rfl)
 have f2_1 := frozen_of_row w3 _ 1 _ _ g2
 have c2_2 := (cell_of_row w3 _ 2 _ _ _ g2).trans (show _ = some (Value.slice ua2 x2.length uc2) from rfl)
 have f2_2 := frozen_of_row w3 _ 2 _ _ g2
 have c2_3 := (cell_of_row w3 _ 3 _ _ _ g2).trans (show _ = some (Value.slice ua3 x3.length uc3) from rfl)
 have f2_3 := frozen_of_row w3 _ 3 _ _ g2
 have c2_4 := (cell_of_row w3 _ 4 _ _ _ g2).trans (show _ = some (Value.slice none 0 0) from rfl)
 have f2_4 := frozen_of_row w3 _ 4 _ _ g2
 have ne1 : ¬ w.heap.size = w.heap.size + 1 + 1 := by omega
 have ne2 : ¬ w.heap.size + 1 = w.heap.size + 1 + 1 := by omega
 have ne3 : ¬ w.heap.size + 1 + 1 = w.heap.size + 1 := by omega
 have c1_0 := (cell_of_row w3 _ 0 _ _ _ g1).trans (show _ = some (Value.int .i64 0) from rfl)
 have f1_0 := frozen_of_row w3 _ 0 _ _ g1
 have c1_1 := (cell_of_row w3 _ 1 _ _ _ g1).trans (show _ = some (Value.int .i64 0) from rfl)
 have f1_1 := frozen_of_row w3 _ 1 _ _ g1
 have c1_2 := (cell_of_row w3 _ 2 _ _ _ g1).trans (show _ = some (Value.slice none 0 0) from rfl)
 have f1_2 := frozen_of_row w3 _ 2 _ _ g1
 have c1_3 := (cell_of_row w3 _ 3 _ _ _ g1).trans (show _ = some (Value.slice none 0 0) from rfl)
 have f1_3 := frozen_of_row w3 _ 3 _ _ g1
 have c1_4 := (cell_of_row w3 _ 4 _ _ _ g1).trans (show _ = some (Value.slice none 0 0) from rfl)
 have f1_4 := frozen_of_row w3 _ 4 _ _ g1
 go_wp2
 clear c2_0 f2_0 c2_1 f2_1 c2_2 f2_2 c2_3 f2_3 c2_4 f2_4 ne1 ne2 ne3 c1_0 f1_0 c1_1 f1_1 c1_2 f1_2 c1_3 f1_3 c1_4 f1_4
 have hw : Turn (fun b => b = w.heap.size + 1 ∨ b = w.heap.size + 1 + 1) w3 ((((((w3.setCell ⟨w.heap.size + 1 + 1, 4, none⟩ (.slice ua4 x4.length uc4)).setCell ⟨w.heap.size + 1, 0, none⟩ (.int .i64 a0)).setCell ⟨w.heap.size + 1, 1, none⟩ (.int .i64 a1)).setCell ⟨w.heap.size + 1, 2, none⟩ (.slice ua2 x2.length uc2)).setCell ⟨w.heap.size + 1, 3, none⟩ (.slice ua3 x3.length uc3)).setCell ⟨w.heap.size + 1, 4, none⟩ (.slice ua4 x4.length uc4)) := by
  first | exact (((((((Turn.refl _ _).trans (turn_set (g := w.heap.size + 1 + 1) (j := 4) (u := .slice ua4 x4.length uc4) (Or.inr rfl))).trans (turn_set (g := w.heap.size + 1) (j := 0) (u := .int .i64 a0) (Or.inl rfl))).trans (turn_set (g := w.heap.size + 1) (j := 1) (u := .int .i64 a1) (Or.inl rfl))).trans (turn_set (g := w.heap.size + 1) (j := 2) (u := .slice ua2 x2.length uc2) (Or.inl rfl))).trans (turn_set (g := w.heap.size + 1) (j := 3) (u := .slice ua3 x3.length uc3) (Or.inl rfl))).trans (turn_set (g := w.heap.size + 1) (j := 4) (u := .slice ua4 x4.length uc4) (Or.inl rfl))) | skip
 have r := (heap_setCell_same _ (w.heap.size + 1) 4 _ _ (.slice ua4 x4.length uc4) (heap_setCell_same _ (w.heap.size + 1) 3 _ _ (.slice ua3 x3.length uc3) (heap_setCell_same _ (w.heap.size + 1) 2 _ _ (.slice ua2 x2.length uc2) (heap_setCell_same _ (w.heap.size + 1) 1 _ _ (.int .i64 a1) (heap_setCell_same _ (w.heap.size + 1) 0 _ _ (.int .i64 a0) ((heap_setCell_other _ ⟨w.heap.size + 1 + 1, 4, none⟩ (w.heap.size + 1) (.slice ua4 x4.length uc4) (by simp)).trans g1))))))
 have e0 := cell_of_row _ _ 0 _ _ _ r
 have e1 := cell_of_row _ _ 1 _ _ _ r
 have e2 := cell_of_row _ _ 2 _ _ _ r
 have e3 := cell_of_row _ _ 3 _ _ _ r
 have e4 := cell_of_row _ _ 4 _ _ _ r
 simp at e0 e1 e2 e3 e4
 replace o2 := slO_turn tInt_law o2 hw (fun b h1 h2 => by first | (have := h1.1; omega) | (have := q2 b h1; omega))
 replace o3 := slO_turn tInt_law o3 hw (fun b h1 h2 => by first | (have := h1.1; omega) | (have := q3 b h1; omega))
 replace o4 := slO_turn tInt_law o4 hw (fun b h1 h2 => by first | (have := h1.1; omega) | (have := q4 b h1; omega))
 replace hb := below_turn hb hw (fun b h => by omega) (by omega)
 refine bodyPost_ret (v := .agg #[.int .i64 a0, .int .i64 a1, .slice ua2 x2.length uc2, .slice ua3 x3.length uc3, .slice ua4 x4.length uc4]) ?_ rfl ?_
 ·
  simp [results, Try.f108, go_sem, e0, e1, e2, e3, e4]
 ·
  exact ⟨[.int .i64 a0, .int .i64 a1, .slice ua2 x2.length uc2, .slice ua3 x3.length uc3, .slice ua4 x4.length uc4], rfl, tCharge_mkO o2 o3 o4 (fun b h => by show w.heap.size ≤ b; first | (have := h.1; omega) | (have := q2 b h; omega)) (fun b h => by show w.heap.size ≤ b; first | (have := h.1; omega) | (have := q3 b h; omega)) (fun b h => by show w.heap.size ≤ b; first | (have := h.1; omega) | (have := q4 b h; omega)) (fun b h1 h2 => by first | exact d2_3 b h1 h2 | (have := h1.1; have := h1.2; have := h2.1; have := h2.2; omega) | (have := q2 b h1; have := h2.1; have := h2.2; omega) | (have := h1.1; have := h1.2; have := q3 b h2; omega) | (have := q2 b h1; have := q3 b h2; omega)) (fun b h1 h2 => by first | exact d2_4 b h1 h2 | (have := h1.1; have := h1.2; have := h2.1; have := h2.2; omega) | (have := q2 b h1; have := h2.1; have := h2.2; omega) | (have := h1.1; have := h1.2; have := q4 b h2; omega) | (have := q2 b h1; have := q4 b h2; omega)) (fun b h1 h2 => by first | exact d3_4 b h1 h2 | (have := h1.1; have := h1.2; have := h2.1; have := h2.2; omega) | (have := q3 b h1; have := h2.1; have := h2.2; omega) | (have := h1.1; have := h1.2; have := q4 b h2; omega) | (have := q3 b h1; have := q4 b h2; omega)), hb⟩
set_option maxHeartbeats 8000000 in
set_option maxRecDepth 100000 in
theorem eqCharge_T (a0 a1 : Int) (v2 v3 v4 : Value) (x2 : List Int) (x3 : List Int) (x4 : List Int) (u2 u3 u4 : Value) (w : World) (h2 : SlR tInt w v2 x2) (h3 : SlR tInt w v3 x3) (h4 : SlR tInt w v4 x4) (g2 : SlR tInt w u2 x2) (g3 : SlR tInt w u3 x3) (g4 : SlR tInt w u4 x4) (s2 : zL tInt x2 ≤ 1048576) (s3 : zL tInt x3 ≤ 1048576) (s4 : zL tInt x4 ≤ 1048576) :
  Calls Try.prog 99 #[.agg #[.int .i64 a0, .int .i64 a1, v2, v3, v4], .agg #[.int .i64 a0, .int .i64 a1, u2, u3, u4]] w fun e w' => e = .returned (.bool true) ∧ Below w.heap.size w w' := by
 have H2 := Lib.hid h2; have G2 := Lib.hid g2; have S2 := Lib.hid s2
 have H3 := Lib.hid h3; have G3 := Lib.hid g3; have S3 := Lib.hid s3
 have H4 := Lib.hid h4; have G4 := Lib.hid g4; have S4 := Lib.hid s4
 clear h2 g2 s2 h3 g3 s3 h4 g4 s4
 have e0 : (a0 != a0) = false := by simp
 have e1 : (a1 != a1) = false := by simp
 go_enter Try.func99, Try.ntmps99
 go_wp2_with fail
 have hb : Below w.heap.size w ((w.alloc (.cells #[.int .i64 a0, .int .i64 a1, v2, v3, v4] 105)).alloc (.cells #[.int .i64 a0, .int .i64 a1, u2, u3, u4] 105)) := ((Below.refl _ w).alloc (Nat.le_refl _) _).alloc (by simp) _
 have g1 : ((w.alloc (.cells #[.int .i64 a0, .int .i64 a1, v2, v3, v4] 105)).alloc (.cells #[.int .i64 a0, .int .i64 a1, u2, u3, u4] 105)).heap[w.heap.size + 1]? = some (.cells #[.int .i64 a0, .int .i64 a1, u2, u3, u4] 105 (0, 0)) := by
  have := heap_alloc_new (w.alloc (.cells #[.int .i64 a0, .int .i64 a1, v2, v3, v4] 105)) (.cells #[.int .i64 a0, .int .i64 a1, u2, u3, u4] 105)
  simpa only [World.size_alloc] using this
 have g0 : ((w.alloc (.cells #[.int .i64 a0, .int .i64 a1, v2, v3, v4] 105)).alloc (.cells #[.int .i64 a0, .int .i64 a1, u2, u3, u4] 105)).heap[w.heap.size]? = some (.cells #[.int .i64 a0, .int .i64 a1, v2, v3, v4] 105 (0, 0)) := by
  rw [Below.heap_alloc _ _ _ (by simp)]
  exact heap_alloc_new w _
 have hz : w.heap.size + 1 < ((w.alloc (.cells #[.int .i64 a0, .int .i64 a1, v2, v3, v4] 105)).alloc (.cells #[.int .i64 a0, .int .i64 a1, u2, u3, u4] 105)).heap.size := by simp [World.size_alloc]
 generalize ((w.alloc (.cells #[.int .i64 a0, .int .i64 a1, v2, v3, v4] 105)).alloc (.cells #[.int .i64 a0, .int .i64 a1, u2, u3, u4] 105)) = W at *
 refine (eqIntS_S v2 u2 x2 W (slR_below tInt_law H2.out hb) (slR_below tInt_law G2.out hb) S2.out).mono ?_
 rintro e w1 ⟨rfl, b1⟩
 replace g0 := (b1.block _ (by omega)).trans g0
 replace g1 := (b1.block _ (by omega)).trans g1
 have zz0 := b1.size
 replace hb := hb.trans (b1.mono (by omega))
 clear b1
 have p0_3 := (cell_of_row w1 _ 3 _ _ _ g0).trans (show _ = some (v3) from rfl)
 have p1_3 := (cell_of_row w1 _ 3 _ _ _ g1).trans (show _ = some (u3) from rfl)
 go_wp2_with fail
 clear p0_3 p1_3
 refine (eqIntS_S v3 u3 x3 w1 (slR_below tInt_law H3.out hb) (slR_below tInt_law G3.out hb) S3.out).mono ?_
 rintro e w2 ⟨rfl, b1⟩
 replace g0 := (b1.block _ (by omega)).trans g0
 replace g1 := (b1.block _ (by omega)).trans g1
 have zz1 := b1.size
 replace hb := hb.trans (b1.mono (by omega))
 clear b1
 have p0_4 := (cell_of_row w2 _ 4 _ _ _ g0).trans (show _ = some (v4) from rfl)
 have p1_4 := (cell_of_row w2 _ 4 _ _ _ g1).trans (show _ = some (u4) from rfl)
 go_wp2_with fail
 clear p0_4 p1_4
 refine (eqIntS_S v4 u4 x4 w2 (slR_below tInt_law H4.out hb) (slR_below tInt_law G4.out hb) S4.out).mono ?_
 rintro e w3 ⟨rfl, b1⟩
 replace g0 := (b1.block _ (by omega)).trans g0
 replace g1 := (b1.block _ (by omega)).trans g1
 have zz2 := b1.size
 replace hb := hb.trans (b1.mono (by omega))
 clear b1
 go_wp2
 go_ret
 exact ⟨rfl, hb⟩
end Go.Proofs.Ytdhglmoanpkeoaa
namespace Go.Proofs.Ytdhglmoanpkeoaa
open Go.RowKit
set_option linter.unusedVariables false
set_option linter.unusedSimpArgs false
abbrev tChargeS : Ty (List (Int × Int × List Int × List Int × List Int)) := tSl 105 tCharge
theorem tChargeS_law : tChargeS.Law := tSl_law tCharge_law (by decide)
set_option maxHeartbeats 8000000 in
set_option maxRecDepth 100000 in
theorem szChargeS_Y (v : Value) (xs : List (Int × Int × List Int × List Int × List Int)) (k0 : Int) (w : World) (h : SlR tCharge w v xs) (hs : ((zL tCharge xs : Nat) : Int) ≤ k0) (hk : k0 ≤ 1048576) :
  Calls Try.prog 58 #[v, .int .i64 k0] w fun e w' => e = .returned (.int .i64 (k0 - ((zL tCharge xs : Nat) : Int))) ∧ Below w.heap.size w w' := by
 have H := Lib.hid h
 obtain ⟨a, cap, rfl⟩ := slR_len h
 clear h
 have h00 := zTo_le (T := tCharge) (xs := xs) (Nat.zero_le _)
 rw [zTo_zero] at h00
 have HS := Lib.hid hs
 go_enter Try.func58, Try.ntmps58
 have hneg : ¬ k0 - (xs.length : Int) < 0 := by omega
 go_wp2
 clear hneg
 go_loopw [1, 5] (fun l i wr => ∃ k : Nat, k ≤ xs.length ∧ i = .int .i64 k ∧ l = .int .i64 (k0 - (zTo tCharge xs k : Int)) ∧ Below w.heap.size w wr) (fun _ i _ => xs.length - (intOf i).toNat)
 case atStart => exact ⟨0, Nat.zero_le _, rfl, by rw [zTo_zero], Below.refl _ _⟩
 case round =>
  obtain ⟨k, hk', rfl, rfl, hbel⟩ := hrel
  by_cases hlt : k < xs.length
  ·
   have HST := Lib.hid (zTo_step (T := tCharge) hlt)
   have HLE := Lib.hid (zTo_le (T := tCharge) (xs := xs) (k := k + 1) (by omega))
   have i1 : (0 : Int) ≤ (k : Int) := by omega
   have i2 : (k : Int) < (xs.length : Int) := by omega
   obtain ⟨b, off, cap', cs, hv, hbl, hcs, hR⟩ := slR_at (slR_below tCharge_law H.out hbel) hlt
   simp only [Value.slice.injEq] at hv
   obtain ⟨rfl, _, rfl⟩ := hv
   generalize xs.getD k tCharge.d = x at *
   obtain ⟨a0, a1, x2, x3, x4⟩ := x
   obtain ⟨v2, v3, v4, hR'⟩ := tCharge_R hR
   obtain ⟨rfl, h2, h3, h4⟩ := hR'
   have p0 : wr.cell? ⟨b, off + k * 5, none⟩ = some (Value.int .i64 a0) := hcs 0 (by decide)
   have p1 : wr.cell? ⟨b, off + k * 5 + 1, none⟩ = some (Value.int .i64 a1) := hcs 1 (by decide)
   have p2 : wr.cell? ⟨b, off + k * 5 + 2, none⟩ = some (v2) := hcs 2 (by decide)
   have p3 : wr.cell? ⟨b, off + k * 5 + 3, none⟩ = some (v3) := hcs 3 (by decide)
   have p4 : wr.cell? ⟨b, off + k * 5 + 4, none⟩ = some (v4) := hcs 4 (by decide)
   clear hcs
   have HQ : Hid (tCharge.sz (a0, a1, x2, x3, x4) = zL tInt x2 + zL tInt x3 + zL tInt x4) := Lib.hid tCharge_sz
   have hx1 : ((zL tInt x2 + zL tInt x3 + zL tInt x4 : Nat) : Int) ≤ k0 - (zTo tCharge xs k : Int) := by have := HST.out; have := HLE.out; have := HQ.out; omega
   have hx2 : k0 - (zTo tCharge xs k : Int) ≤ 1048576 := by omega
   have hneg : ¬ k0 - (zTo tCharge xs k : Int) - ((zL tInt x2 + zL tInt x3 + zL tInt x4 : Nat) : Int) < 0 := by omega
   have HC := Lib.hid (fun W b => szCharge_Y a0 a1 v2 v3 v4 x2 x3 x4 (k0 - (zTo tCharge xs k : Int)) W (slR_below tInt_law h2 b) (slR_below tInt_law h3 b) (slR_below tInt_law h4 b) hx1 hx2)
   go_wp2_with fail
   refine (HC.out _ (Below.refl _ _)).mono ?_
   rintro e w1 ⟨rfl, b1⟩
   have b2 := hbel.trans (b1.mono hbel.size)
   go_wp2
   go_roundw
   case rel => exact ⟨k + 1, by omega, by go_num, by rw [HST.out, HQ.out]; go_num, b2⟩
   case measure => simp [intOf]; omega
  ·
   obtain rfl : k = xs.length := by omega
   go_wp2
   go_ret
   exact ⟨rfl, hbel⟩
set_option maxHeartbeats 8000000 in
set_option maxRecDepth 100000 in
theorem szChargeS_N (v : Value) (xs : List (Int × Int × List Int × List Int × List Int)) (k0 : Int) (w : World) (h : SlR tCharge w v xs) (hs : k0 < ((zL tCharge xs : Nat) : Int)) (hk : k0 ≤ 1048576) (hp : 0 ≤ k0) (ho : tChargeS.ok xs) :
  Calls Try.prog 58 #[v, .int .i64 k0] w fun e w' => e = .returned (.int .i64 (-1)) ∧ Below w.heap.size w w' := by
 have H := Lib.hid h
 have HX := Lib.hid ho.2
 have hn := ho.1
 have HS := Lib.hid hs
 obtain ⟨a, cap, rfl⟩ := slR_len h
 clear h ho hs
 by_cases h1 : k0 < (xs.length : Int)
 ·
  have hneg : k0 - (xs.length : Int) < 0 := by omega
  go_enter Try.func58, Try.ntmps58
  go_wp2
  go_ret
  exact ⟨rfl, Below.refl _ _⟩
 ·
  go_enter Try.func58, Try.ntmps58
  have hneg : ¬ k0 - (xs.length : Int) < 0 := by omega
  go_wp2
  clear hneg
  go_loopw [1, 5] (fun l i wr => ∃ k : Nat, k ≤ xs.length ∧ i = .int .i64 k ∧ l = .int .i64 (k0 - (zTo tCharge xs k : Int)) ∧ (zTo tCharge xs k : Int) ≤ k0 ∧ Below w.heap.size w wr) (fun _ i _ => xs.length - (intOf i).toNat)
  case atStart => exact ⟨0, Nat.zero_le _, rfl, by rw [zTo_zero], by rw [zTo_zero]; omega, Below.refl _ _⟩
  case round =>
   obtain ⟨k, hk', rfl, rfl, hle, hbel⟩ := hrel
   by_cases hlt : k < xs.length
   ·
    have HST := Lib.hid (zTo_step (T := tCharge) hlt)
    have hx := HX.out k hlt
    have i1 : (0 : Int) ≤ (k : Int) := by omega
    have i2 : (k : Int) < (xs.length : Int) := by omega
    obtain ⟨b, off, cap', cs, hv, hbl, hcs, hR⟩ := slR_at (slR_below tCharge_law H.out hbel) hlt
    simp only [Value.slice.injEq] at hv
    obtain ⟨rfl, _, rfl⟩ := hv
    generalize xs.getD k tCharge.d = x at *
    obtain ⟨a0, a1, x2, x3, x4⟩ := x
    obtain ⟨v2, v3, v4, hR'⟩ := tCharge_R hR
    obtain ⟨rfl, h2, h3, h4⟩ := hR'
    have p0 : wr.cell? ⟨b, off + k * 5, none⟩ = some (Value.int .i64 a0) := hcs 0 (by decide)
    have p1 : wr.cell? ⟨b, off + k * 5 + 1, none⟩ = some (Value.int .i64 a1) := hcs 1 (by decide)
    have p2 : wr.cell? ⟨b, off + k * 5 + 2, none⟩ = some (v2) := hcs 2 (by decide)
    have p3 : wr.cell? ⟨b, off + k * 5 + 3, none⟩ = some (v3) := hcs 3 (by decide)
    have p4 : wr.cell? ⟨b, off + k * 5 + 4, none⟩ = some (v4) := hcs 4 (by decide)
    clear hcs
    have HQ : Hid (tCharge.sz (a0, a1, x2, x3, x4) = zL tInt x2 + zL tInt x3 + zL tInt x4) := Lib.hid tCharge_sz
    obtain ⟨_, ⟨_, ⟨o2, ⟨o3, o4⟩⟩⟩⟩ := hx
    have hz0 : (0 : Int) ≤ (zTo tCharge xs k : Int) := by omega
    by_cases hg : ((zL tInt x2 + zL tInt x3 + zL tInt x4 : Nat) : Int) ≤ k0 - (zTo tCharge xs k : Int)
    ·
     have hx2 : k0 - (zTo tCharge xs k : Int) ≤ 1048576 := by omega
     have hneg : ¬ k0 - (zTo tCharge xs k : Int) - ((zL tInt x2 + zL tInt x3 + zL tInt x4 : Nat) : Int) < 0 := by omega
     have HC := Lib.hid (fun W b => szCharge_Y a0 a1 v2 v3 v4 x2 x3 x4 (k0 - (zTo tCharge xs k : Int)) W (slR_below tInt_law h2 b) (slR_below tInt_law h3 b) (slR_below tInt_law h4 b) hg hx2)
     go_wp2_with fail
     refine (HC.out _ (Below.refl _ _)).mono ?_
     rintro e w1 ⟨rfl, b1⟩
     have b2 := hbel.trans (b1.mono hbel.size)
     go_wp2
     go_roundw
     case rel => exact ⟨k + 1, by omega, by go_num, by rw [HST.out, HQ.out]; go_num, by rw [HST.out, HQ.out]; omega, b2⟩
     case measure => simp [intOf]; omega
    ·
     have hx1 : k0 - (zTo tCharge xs k : Int) < ((zL tInt x2 + zL tInt x3 + zL tInt x4 : Nat) : Int) := by omega
     have hx0 : 0 ≤ k0 - (zTo tCharge xs k : Int) := by omega
     have hx2 : k0 - (zTo tCharge xs k : Int) ≤ 1048576 := by omega
     have HC := Lib.hid (fun W b => szCharge_N a0 a1 v2 v3 v4 x2 x3 x4 (k0 - (zTo tCharge xs k : Int)) W (slR_below tInt_law h2 b) (slR_below tInt_law h3 b) (slR_below tInt_law h4 b) hx1 hx2 hx0 o2 o3 o4)
     clear hg
     go_wp2_with fail
     refine (HC.out _ (Below.refl _ _)).mono ?_
     rintro e w1 ⟨rfl, b1⟩
     have b2 := hbel.trans (b1.mono hbel.size)
     go_wp2
     go_ret
     exact ⟨rfl, b2⟩
   ·
    obtain rfl : k = xs.length := by omega
    exact absurd HS.out (by show ¬ k0 < ((zTo tCharge xs xs.length : Nat) : Int); omega)
theorem Try.info_Charge : (Try.prog.info? 105).map (fun i => (i.zero, i.size)) = some (some (.agg #[.int .i64 0, .int .i64 0, .slice none 0 0, .slice none 0 0, .slice none 0 0]), 5) := by kernel_rfl
theorem Try.bytes_Charge : ((Try.prog.info? 105).map (fun i => decide (i.bytes ≤ 512))) = some true := by kernel_rfl
theorem tCharge_zero (w : World) : tCharge.O w (fun _ => False) #[.int .i64 0, .int .i64 0, .slice none 0 0, .slice none 0 0, .slice none 0 0].toList tCharge.d := tCharge_mkO (slO_nil _ _ _ (fun _ => False)) (slO_nil _ _ _ (fun _ => False)) (slO_nil _ _ _ (fun _ => False)) (fun b h => h) (fun b h => h) (fun b h => h) (fun b h _ => h) (fun b h _ => h) (fun b h _ => h)
set_option maxHeartbeats 8000000 in
set_option maxRecDepth 100000 in
theorem toChargeS_S (v : Value) (xs : List (Int × Int × List Int × List Int × List Int)) (w : World) (h : SlR tCharge w v xs) (hs : zL tCharge xs ≤ 1048576) :
  Calls Try.prog 62 #[v] w (FreshS 105 tCharge w xs) := by
 obtain ⟨i0, hi, hz0, hz1⟩ : ∃ i0, Try.prog.info? 105 = some i0 ∧ i0.zero = some (.agg #[.int .i64 0, .int .i64 0, .slice none 0 0, .slice none 0 0, .slice none 0 0]) ∧ i0.size = 5 := by
  have h0 := Try.info_Charge
  cases q : Try.prog.info? 105 with
  | none => rw [q] at h0; simp at h0
  | some i => rw [q] at h0; simp only [Option.map_some, Option.some.injEq, Prod.mk.injEq] at h0; exact ⟨i, rfl, h0.1, h0.2⟩
 have hz2 : i0.bytes ≤ 512 := by
  have h0 := Try.bytes_Charge
  rw [hi] at h0
  simpa using h0
 have HI := Lib.hid hi; have HZ0 := Lib.hid hz0; have HZ1 := Lib.hid hz1; have HZ2 := Lib.hid hz2
 clear hi hz0 hz1 hz2
 have H := Lib.hid h
 have hlen := zL_len hs
 have HS := Lib.hid hs
 obtain ⟨a, cap, rfl⟩ := slR_len h
 clear h hs
 go_enter Try.func62, Try.ntmps62
 go_wp2_with (at_make; refine wpList_make_full _ rfl (.tmp 6) (.tmp 6) 40 rfl w.heap.size 105 i0 (.agg #[.int .i64 0, .int .i64 0, .slice none 0 0, .slice none 0 0, .slice none 0 0]) 5 Try.underlying40 HI.out HZ0.out HZ1.out _ _ _ _ xs.length rfl rfl rfl rfl (by have h9 := Nat.mul_le_mul HZ2.out hlen; have h8 := Nat.mul_le_mul hlen HZ2.out; omega) (by unfold maxLen; omega) (Nat.le_refl _) ?_)
 intro w1 hown0 hg0
 have hown1 : SlO 105 tCharge w1 (since w) (.slice (some ⟨w.heap.size, 0, none⟩) xs.length xs.length) (List.replicate xs.length tCharge.d) := slO_made (z := #[.int .i64 0, .int .i64 0, .slice none 0 0, .slice none 0 0, .slice none 0 0]) tCharge_law rfl (tCharge_zero w1) (Nat.le_refl _) hown0
 have hbel1 := (Below.refl w.heap.size w).grown hg0 (Nat.le_refl _) (fun k hk => by cases hk)
 clear hown0 hg0
 go_wp2
 go_loopw [4] (fun i wr => ∃ k : Nat, k ≤ xs.length ∧ i = .int .i64 k ∧ SlO 105 tCharge wr (since w) (.slice (some ⟨w.heap.size, 0, none⟩) xs.length xs.length) (xs.take k ++ List.replicate (xs.length - k) tCharge.d) ∧ Below w.heap.size w wr) (fun i _ => xs.length - (intOf i).toNat)
 case atStart => exact ⟨0, Nat.zero_le _, rfl, by simpa using hown1, hbel1⟩
 case round =>
  obtain ⟨k, hk, rfl, hown, hbel⟩ := hrel
  by_cases hlt : k < xs.length
  ·
   have HSET := Lib.hid (cTo_step (d := tCharge.d) hlt)
   have HKL : Hid (k < (xs.take k ++ List.replicate (xs.length - k) tCharge.d).length) := Lib.hid (by rw [cTo_len hk]; exact hlt)
   have HLL := Lib.hid (cTo_len (d := tCharge.d) hk)
   have i1 : (0 : Int) ≤ (k : Int) := by omega
   have i2 : (k : Int) < (xs.length : Int) := by omega
   have hzx := zL_at HS.out hlt
   obtain ⟨b, off, cap', cs, hv, hbl, hcs, hR⟩ := slR_at (slR_below tCharge_law H.out hbel) hlt
   simp only [Value.slice.injEq] at hv
   obtain ⟨rfl, _, rfl⟩ := hv
   obtain ⟨hme, hFg, hgl, cj, Fj, Lc, hrow, hLc, hO, hFj, hput⟩ := slO_open tCharge_law hown HKL.out
   clear hme
   clear hown1 hbel1
   generalize xs.getD k tCharge.d = x at *
   generalize xs.take k ++ List.replicate (xs.length - k) tCharge.d = ys at *
   obtain ⟨a0, a1, x2, x3, x4⟩ := x
   obtain ⟨v2, v3, v4, hR'⟩ := tCharge_R hR
   obtain ⟨rfl, h2, h3, h4⟩ := hR'
   have p0 : wr.cell? ⟨b, off + k * 5, none⟩ = some (Value.int .i64 a0) := hcs 0 (by decide)
   have p1 : wr.cell? ⟨b, off + k * 5 + 1, none⟩ = some (Value.int .i64 a1) := hcs 1 (by decide)
   have p2 : wr.cell? ⟨b, off + k * 5 + 2, none⟩ = some (v2) := hcs 2 (by decide)
   have p3 : wr.cell? ⟨b, off + k * 5 + 3, none⟩ = some (v3) := hcs 3 (by decide)
   have p4 : wr.cell? ⟨b, off + k * 5 + 4, none⟩ = some (v4) := hcs 4 (by decide)
   rw [tCharge_sz] at hzx
   have S2 := Lib.hid (show zL tInt x2 ≤ 1048576 by omega)
   have S3 := Lib.hid (show zL tInt x3 ≤ 1048576 by omega)
   have S4 := Lib.hid (show zL tInt x4 ≤ 1048576 by omega)
   have HC := Lib.hid (fun w g2 g3 g4 => toCharge_T a0 a1 v2 v3 v4 x2 x3 x4 w g2 g3 g4 S2.out S3.out S4.out)
   have G2 := Lib.hid h2
   have G3 := Lib.hid h3
   have G4 := Lib.hid h4
   clear hcs hzx h2 h3 h4
   go_wp2_with fail
   refine (HC.out _ G2.out G3.out G4.out).mono ?_
   rintro e w2 ⟨cv, rfl, ow, b2⟩
   replace ow := tCharge_law.lt ow
   have ow2 := ow
   obtain ⟨u2, u3, u4, K2, K3, K4, rfl, o2, o3, o4, _, _, _, _, _, _⟩ := tCharge_O ow2
   obtain ⟨ua2, uc2, rfl⟩ := slO_len o2
   obtain ⟨ua3, uc3, rfl⟩ := slO_len o3
   obtain ⟨ua4, uc4, rfl⟩ := slO_len o4
   clear o2 o3 o4
   have r0 := row_turn (G := fun _ => False) hrow (turn_below b2) (fun _ _ => not_false)
   rw [HLL.out] at r0
   have q0 : ∃ x, w2.cell? ⟨w.heap.size, k * 5, none⟩ = some x := ⟨_, (World.ownsRow.cellAt r0 (k * 5) (by have := HKL.out; rw [HLL.out] at this; show _ < xs.length * 5; omega)).trans (List.getElem?_eq_getElem (by have h1 : Lc.length = xs.length * 5 := r0.1; omega))⟩
   obtain ⟨y0, q0⟩ := q0
   have f0 := World.ownsRow.frozenAt r0 (k * 5)
   have q1 : ∃ x, w2.cell? ⟨w.heap.size, k * 5 + 1, none⟩ = some x := ⟨_, (World.ownsRow.cellAt r0 (k * 5 + 1) (by have := HKL.out; rw [HLL.out] at this; show _ < xs.length * 5; omega)).trans (List.getElem?_eq_getElem (by have h1 : Lc.length = xs.length * 5 := r0.1; omega))⟩
   obtain ⟨y1, q1⟩ := q1
   have f1 := World.ownsRow.frozenAt r0 (k * 5 + 1)
   have q2 : ∃ x, w2.cell? ⟨w.heap.size, k * 5 + 2, none⟩ = some x := ⟨_, (World.ownsRow.cellAt r0 (k * 5 + 2) (by have := HKL.out; rw [HLL.out] at this; show _ < xs.length * 5; omega)).trans (List.getElem?_eq_getElem (by have h1 : Lc.length = xs.length * 5 := r0.1; omega))⟩
   obtain ⟨y2, q2⟩ := q2
   have f2 := World.ownsRow.frozenAt r0 (k * 5 + 2)
   have q3 : ∃ x, w2.cell? ⟨w.heap.size, k * 5 + 3, none⟩ = some x := ⟨_, (World.ownsRow.cellAt r0 (k * 5 + 3) (by have := HKL.out; rw [HLL.out] at this; show _ < xs.length * 5; omega)).trans (List.getElem?_eq_getElem (by have h1 : Lc.length = xs.length * 5 := r0.1; omega))⟩
   obtain ⟨y3, q3⟩ := q3
   have f3 := World.ownsRow.frozenAt r0 (k * 5 + 3)
   have q4 : ∃ x, w2.cell? ⟨w.heap.size, k * 5 + 4, none⟩ = some x := ⟨_, (World.ownsRow.cellAt r0 (k * 5 + 4) (by have := HKL.out; rw [HLL.out] at this; show _ < xs.length * 5; omega)).trans (List.getElem?_eq_getElem (by have h1 : Lc.length = xs.length * 5 := r0.1; omega))⟩
   obtain ⟨y4, q4⟩ := q4
   have f4 := World.ownsRow.frozenAt r0 (k * 5 + 4)
   have b3 := hbel.trans (b2.mono hbel.size)
   have B3 := Lib.hid (((((b3.setCell (p := ⟨w.heap.size, k * 5, none⟩) (Nat.le_refl _) (.int .i64 a0)).setCell (p := ⟨w.heap.size, k * 5 + 1, none⟩) (Nat.le_refl _) (.int .i64 a1)).setCell (p := ⟨w.heap.size, k * 5 + 2, none⟩) (Nat.le_refl _) (.slice ua2 x2.length uc2)).setCell (p := ⟨w.heap.size, k * 5 + 3, none⟩) (Nat.le_refl _) (.slice ua3 x3.length uc3)).setCell (p := ⟨w.heap.size, k * 5 + 4, none⟩) (Nat.le_refl _) (.slice ua4 x4.length uc4))
   have hT : Turn (fun b => b = w.heap.size ∨ Fj b ∨ wr.heap.size ≤ b) wr (((((w2.setCell ⟨w.heap.size, k * 5, none⟩ (.int .i64 a0)).setCell ⟨w.heap.size, k * 5 + 1, none⟩ (.int .i64 a1)).setCell ⟨w.heap.size, k * 5 + 2, none⟩ (.slice ua2 x2.length uc2)).setCell ⟨w.heap.size, k * 5 + 3, none⟩ (.slice ua3 x3.length uc3)).setCell ⟨w.heap.size, k * 5 + 4, none⟩ (.slice ua4 x4.length uc4)) := ((((((turn_below b2).trans (turn_set (j := k * 5) (u := .int .i64 a0) (Or.inl rfl))).trans (turn_set (j := k * 5 + 1) (u := .int .i64 a1) (Or.inl rfl))).trans (turn_set (j := k * 5 + 2) (u := .slice ua2 x2.length uc2) (Or.inl rfl))).trans (turn_set (j := k * 5 + 3) (u := .slice ua3 x3.length uc3) (Or.inl rfl))).trans (turn_set (j := k * 5 + 4) (u := .slice ua4 x4.length uc4) (Or.inl rfl)))
   have hT2 : Turn (fun b => b = w.heap.size) w2 (((((w2.setCell ⟨w.heap.size, k * 5, none⟩ (.int .i64 a0)).setCell ⟨w.heap.size, k * 5 + 1, none⟩ (.int .i64 a1)).setCell ⟨w.heap.size, k * 5 + 2, none⟩ (.slice ua2 x2.length uc2)).setCell ⟨w.heap.size, k * 5 + 3, none⟩ (.slice ua3 x3.length uc3)).setCell ⟨w.heap.size, k * 5 + 4, none⟩ (.slice ua4 x4.length uc4)) := ((((((Turn.refl (fun b => b = w.heap.size) _).trans (turn_set (G := fun b => b = w.heap.size) (j := k * 5) (u := .int .i64 a0) rfl)).trans (turn_set (G := fun b => b = w.heap.size) (j := k * 5 + 1) (u := .int .i64 a1) rfl)).trans (turn_set (G := fun b => b = w.heap.size) (j := k * 5 + 2) (u := .slice ua2 x2.length uc2) rfl)).trans (turn_set (G := fun b => b = w.heap.size) (j := k * 5 + 3) (u := .slice ua3 x3.length uc3) rfl)).trans (turn_set (G := fun b => b = w.heap.size) (j := k * 5 + 4) (u := .slice ua4 x4.length uc4) rfl))
   have hO2 := tCharge_law.turn ow hT2 (fun b h1 h2 => by have := h1.1; simp only [since] at this; omega)
   have r9 := (World.ownsRow.stored (World.ownsRow.stored (World.ownsRow.stored (World.ownsRow.stored (World.ownsRow.stored r0 (k * 5) (.int .i64 a0)).1 (k * 5 + 1) (.int .i64 a1)).1 (k * 5 + 2) (.slice ua2 x2.length uc2)).1 (k * 5 + 3) (.slice ua3 x3.length uc3)).1 (k * 5 + 4) (.slice ua4 x4.length uc4)).1
   have hLl : Lc.length = xs.length * 5 := r0.1
   have hst := Lib.hid (hput (((((w2.setCell ⟨w.heap.size, k * 5, none⟩ (.int .i64 a0)).setCell ⟨w.heap.size, k * 5 + 1, none⟩ (.int .i64 a1)).setCell ⟨w.heap.size, k * 5 + 2, none⟩ (.slice ua2 x2.length uc2)).setCell ⟨w.heap.size, k * 5 + 3, none⟩ (.slice ua3 x3.length uc3)).setCell ⟨w.heap.size, k * 5 + 4, none⟩ (.slice ua4 x4.length uc4)) (((((Lc.set (k * 5) (.int .i64 a0)).set (k * 5 + 1) (.int .i64 a1)).set (k * 5 + 2) (.slice ua2 x2.length uc2)).set (k * 5 + 3) (.slice ua3 x3.length uc3)).set (k * 5 + 4) (.slice ua4 x4.length uc4)) [.int .i64 a0, .int .i64 a1, .slice ua2 x2.length uc2, .slice ua3 x3.length uc3, .slice ua4 x4.length uc4] _ (a0, a1, x2, x3, x4) (by rw [HLL.out]; exact r9) (fun p hp => by have hp2 : p < k * 5 ∨ k * 5 + 5 ≤ p := hp; rw [List.getElem?_set_ne (by omega)]; rw [List.getElem?_set_ne (by omega)]; rw [List.getElem?_set_ne (by omega)]; rw [List.getElem?_set_ne (by omega)]; rw [List.getElem?_set_ne (by omega)]) (fun i hi => by have hi' : i < 5 := hi; match i, hi' with | 0, _ => (show ((((((Lc.set (k * 5) (.int .i64 a0)).set (k * 5 + 1) (.int .i64 a1)).set (k * 5 + 2) (.slice ua2 x2.length uc2)).set (k * 5 + 3) (.slice ua3 x3.length uc3)).set (k * 5 + 4) (.slice ua4 x4.length uc4)))[k * 5]? = _; rw [List.getElem?_set_ne (by omega)]; rw [List.getElem?_set_ne (by omega)]; rw [List.getElem?_set_ne (by omega)]; rw [List.getElem?_set_ne (by omega)]; rw [List.getElem?_set_self (by first | omega | (simp only [List.length_set]; omega))]; rfl) | 1, _ => (show ((((((Lc.set (k * 5) (.int .i64 a0)).set (k * 5 + 1) (.int .i64 a1)).set (k * 5 + 2) (.slice ua2 x2.length uc2)).set (k * 5 + 3) (.slice ua3 x3.length uc3)).set (k * 5 + 4) (.slice ua4 x4.length uc4)))[k * 5 + 1]? = _; rw [List.getElem?_set_ne (by omega)]; rw [List.getElem?_set_ne (by omega)]; rw [List.getElem?_set_ne (by omega)]; rw [List.getElem?_set_self (by first | omega | (simp only [List.length_set]; omega))]; rfl) | 2, _ => (show ((((((Lc.set (k * 5) (.int .i64 a0)).set (k * 5 + 1) (.int .i64 a1)).set (k * 5 + 2) (.slice ua2 x2.length uc2)).set (k * 5 + 3) (.slice ua3 x3.length uc3)).set (k * 5 + 4) (.slice ua4 x4.length uc4)))[k * 5 + 2]? = _; rw [List.getElem?_set_ne (by omega)]; rw [List.getElem?_set_ne (by omega)]; rw [List.getElem?_set_self (by first | omega | (simp only [List.length_set]; omega))]; rfl) | 3, _ => (show ((((((Lc.set (k * 5) (.int .i64 a0)).set (k * 5 + 1) (.int .i64 a1)).set (k * 5 + 2) (.slice ua2 x2.length uc2)).set (k * 5 + 3) (.slice ua3 x3.length uc3)).set (k * 5 + 4) (.slice ua4 x4.length uc4)))[k * 5 + 3]? = _; rw [List.getElem?_set_ne (by omega)]; rw [List.getElem?_set_self (by first | omega | (simp only [List.length_set]; omega))]; rfl) | 4, _ => (show ((((((Lc.set (k * 5) (.int .i64 a0)).set (k * 5 + 1) (.int .i64 a1)).set (k * 5 + 2) (.slice ua2 x2.length uc2)).set (k * 5 + 3) (.slice ua3 x3.length uc3)).set (k * 5 + 4) (.slice ua4 x4.length uc4)))[k * 5 + 4]? = _; rw [List.getElem?_set_self (by first | omega | (simp only [List.length_set]; omega))]; rfl)) hO2 (fun b hb => ⟨Nat.le_trans hbel.size hb.1, Or.inr hb.1⟩) hT)
   have hst2 : SlO 105 tCharge (((((w2.setCell ⟨w.heap.size, k * 5, none⟩ (.int .i64 a0)).setCell ⟨w.heap.size, k * 5 + 1, none⟩ (.int .i64 a1)).setCell ⟨w.heap.size, k * 5 + 2, none⟩ (.slice ua2 x2.length uc2)).setCell ⟨w.heap.size, k * 5 + 3, none⟩ (.slice ua3 x3.length uc3)).setCell ⟨w.heap.size, k * 5 + 4, none⟩ (.slice ua4 x4.length uc4)) (since w) (.slice (some ⟨w.heap.size, 0, none⟩) xs.length xs.length) (xs.take (k + 1) ++ List.replicate (xs.length - (k + 1)) tCharge.d) := by have := hst.out; rw [HSET.out] at this; exact this
   have HST := Lib.hid hst2
   clear hst hst2 hT hT2 hO2 r9 r0 hrow hO hput hown hbel b2 ow b3 hLl hLc hFj
   go_wp2
   go_roundw
   case rel => exact ⟨k + 1, by omega, by go_num, HST.out, B3.out⟩
   case measure => simp [intOf]; omega
  ·
   obtain rfl : k = xs.length := by omega
   have HE : Hid (xs.take xs.length ++ List.replicate (xs.length - xs.length) tCharge.d = xs) := Lib.hid (by simp)
   rw [HE.out] at hown
   go_wp2
   go_ret
   exact ⟨_, rfl, hown, hbel⟩
set_option maxHeartbeats 8000000 in
set_option maxRecDepth 100000 in
theorem eqChargeS_S (v u : Value) (xs : List (Int × Int × List Int × List Int × List Int)) (w : World) (h : SlR tCharge w v xs) (g : SlR tCharge w u xs) (hs : zL tCharge xs ≤ 1048576) :
  Calls Try.prog 47 #[v, u] w fun e w' => e = .returned (.bool true) ∧ Below w.heap.size w w' := by
 have H := Lib.hid h
 have G := Lib.hid g
 have HS := Lib.hid hs
 have hlen := zL_len hs
 obtain ⟨a, cap, rfl⟩ := slR_len h
 obtain ⟨a2, cap2, rfl⟩ := slR_len g
 clear h g hs
 go_enter Try.func47, Try.ntmps47
 go_wp2
 go_loopw [5] (fun i wr => ∃ k : Nat, k ≤ xs.length ∧ i = .int .i64 k ∧ Below w.heap.size w wr) (fun i _ => xs.length - (intOf i).toNat)
 case atStart => exact ⟨0, Nat.zero_le _, rfl, Below.refl _ _⟩
 case round =>
  obtain ⟨k, hk, rfl, hbel⟩ := hrel
  by_cases hlt : k < xs.length
  ·
   obtain ⟨b, off, cap', cs, hv, hbl, hcs, hR⟩ := slR_at (slR_below tCharge_law H.out hbel) hlt
   simp only [Value.slice.injEq] at hv
   obtain ⟨rfl, _, rfl⟩ := hv
   obtain ⟨b2, off2, cap2', ds, hv2, hbl2, hds, hQ⟩ := slR_at (slR_below tCharge_law G.out hbel) hlt
   simp only [Value.slice.injEq] at hv2
   obtain ⟨rfl, _, rfl⟩ := hv2
   have hzx := zL_at HS.out hlt
   have i1 : (0 : Int) ≤ (k : Int) := by omega
   have i2 : (k : Int) < (xs.length : Int) := by omega
   generalize xs.getD k tCharge.d = x at *
   obtain ⟨a0, a1, x2, x3, x4⟩ := x
   obtain ⟨v2, v3, v4, hR'⟩ := tCharge_R hR
   obtain ⟨rfl, h2, h3, h4⟩ := hR'
   obtain ⟨u2, u3, u4, hQ'⟩ := tCharge_R hQ
   obtain ⟨rfl, g2, g3, g4⟩ := hQ'
   rw [tCharge_sz] at hzx
   have S2 := Lib.hid (show zL tInt x2 ≤ 1048576 by omega)
   have S3 := Lib.hid (show zL tInt x3 ≤ 1048576 by omega)
   have S4 := Lib.hid (show zL tInt x4 ≤ 1048576 by omega)
   have p0 : wr.cell? ⟨b, off + k * 5, none⟩ = some (Value.int .i64 a0) := hcs 0 (by decide)
   have q0 : wr.cell? ⟨b2, off2 + k * 5, none⟩ = some (Value.int .i64 a0) := hds 0 (by decide)
   have p1 : wr.cell? ⟨b, off + k * 5 + 1, none⟩ = some (Value.int .i64 a1) := hcs 1 (by decide)
   have q1 : wr.cell? ⟨b2, off2 + k * 5 + 1, none⟩ = some (Value.int .i64 a1) := hds 1 (by decide)
   have p2 : wr.cell? ⟨b, off + k * 5 + 2, none⟩ = some (v2) := hcs 2 (by decide)
   have q2 : wr.cell? ⟨b2, off2 + k * 5 + 2, none⟩ = some (u2) := hds 2 (by decide)
   have p3 : wr.cell? ⟨b, off + k * 5 + 3, none⟩ = some (v3) := hcs 3 (by decide)
   have q3 : wr.cell? ⟨b2, off2 + k * 5 + 3, none⟩ = some (u3) := hds 3 (by decide)
   have p4 : wr.cell? ⟨b, off + k * 5 + 4, none⟩ = some (v4) := hcs 4 (by decide)
   have q4 : wr.cell? ⟨b2, off2 + k * 5 + 4, none⟩ = some (u4) := hds 4 (by decide)
   clear hcs hds hzx
   go_wp2
   go_region_with (first | (go_at_call 99; refine (eqCharge_T a0 a1 v2 v3 v4 x2 x3 x4 u2 u3 u4 _ (by exact slR_same tInt_law h2 rfl rfl rfl rfl) (by exact slR_same tInt_law h3 rfl rfl rfl rfl) (by exact slR_same tInt_law h4 rfl rfl rfl rfl) (by exact slR_same tInt_law g2 rfl rfl rfl rfl) (by exact slR_same tInt_law g3 rfl rfl rfl rfl) (by exact slR_same tInt_law g4 rfl rfl rfl rfl) S2.out S3.out S4.out).mono ?_; rintro e w8 ⟨rfl, b9⟩; have b10 : Below wr.heap.size wr w8 := ⟨b9.os, b9.tape, b9.output, b9.size, b9.block⟩))
   all_goals
    have b11 := hbel.trans (b10.mono hbel.size)
    go_wp2
    go_roundw
    case rel => exact ⟨k + 1, by omega, by go_num, b11⟩
    case measure => simp [intOf]; omega
  ·
   go_wp2
   go_ret
   exact ⟨rfl, hbel⟩
end Go.Proofs.Ytdhglmoanpkeoaa
namespace Go.Proofs.Ytdhglmoanpkeoaa
open Go.RowKit
set_option linter.unusedVariables false
set_option linter.unusedSimpArgs false
def tEngine : Ty ((List (List (Int × List Int × Int × Int)) × Int) × Int × List Int × List ((Int × Int × List (Int × Int × Int) × List Int) × Int × List Int × Int × Int × Int × List (Int × List Int)) × List ((Int × Int × List (Int × Int × Int) × List Int) × Int × Int × List (Int × List Int)) × List (Int × Int × List Int × List Int × List Int) × Int) := tPair tStore (tPair tInt (tPair tIntS (tPair tActiveS (tPair tFinishedS (tPair tChargeS tInt)))))
theorem tEngine_law : tEngine.Law := tPair_law tStore_law (tPair_law tInt_law (tPair_law tIntS_law (tPair_law tActiveS_law (tPair_law tFinishedS_law (tPair_law tChargeS_law tInt_law)))))
theorem tEngine_R {w : World} {cs : List Value} {x0 : List (List (Int × List Int × Int × Int))} {a1 : Int} {a2 : Int} {x3 : List Int} {x4 : List ((Int × Int × List (Int × Int × Int) × List Int) × Int × List Int × Int × Int × Int × List (Int × List Int))} {x5 : List ((Int × Int × List (Int × Int × Int) × List Int) × Int × Int × List (Int × List Int))} {x6 : List (Int × Int × List Int × List Int × List Int)} {a7 : Int} (h : tEngine.R w cs ((x0, a1), a2, x3, x4, x5, x6, a7)) : ∃ v0 v3 v4 v5 v6, cs = [v0, .int .i64 a1, .int .i64 a2, v3, v4, v5, v6, .int .i64 a7] ∧ SlR tVersionS w v0 x0 ∧ SlR tInt w v3 x3 ∧ SlR tActive w v4 x4 ∧ SlR tFinished w v5 x5 ∧ SlR tCharge w v6 x6 := by
 obtain ⟨_, _, rfl, ⟨_, _, rfl, ⟨v0, rfl, h0⟩, rfl⟩, ⟨_, _, rfl, rfl, ⟨_, _, rfl, ⟨v3, rfl, h3⟩, ⟨_, _, rfl, ⟨v4, rfl, h4⟩, ⟨_, _, rfl, ⟨v5, rfl, h5⟩, ⟨_, _, rfl, ⟨v6, rfl, h6⟩, rfl⟩⟩⟩⟩⟩⟩ := h
 exact ⟨_, _, _, _, _, rfl, h0, h3, h4, h5, h6⟩
theorem tEngine_O {w : World} {F : Nat → Prop} {cs : List Value} {x0 : List (List (Int × List Int × Int × Int))} {a1 : Int} {a2 : Int} {x3 : List Int} {x4 : List ((Int × Int × List (Int × Int × Int) × List Int) × Int × List Int × Int × Int × Int × List (Int × List Int))} {x5 : List ((Int × Int × List (Int × Int × Int) × List Int) × Int × Int × List (Int × List Int))} {x6 : List (Int × Int × List Int × List Int × List Int)} {a7 : Int} (h : tEngine.O w F cs ((x0, a1), a2, x3, x4, x5, x6, a7)) : ∃ v0 v3 v4 v5 v6, ∃ F0 F3 F4 F5 F6 : Nat → Prop, cs = [v0, .int .i64 a1, .int .i64 a2, v3, v4, v5, v6, .int .i64 a7] ∧ SlO 61 tVersionS w F0 v0 x0 ∧ SlO 3 tInt w F3 v3 x3 ∧ SlO 92 tActive w F4 v4 x4 ∧ SlO 101 tFinished w F5 v5 x5 ∧ SlO 105 tCharge w F6 v6 x6 ∧ (∀ b, F0 b → F b) ∧ (∀ b, F3 b → F b) ∧ (∀ b, F4 b → F b) ∧ (∀ b, F5 b → F b) ∧ (∀ b, F6 b → F b) ∧ (∀ b, F0 b → ¬ F3 b) ∧ (∀ b, F0 b → ¬ F4 b) ∧ (∀ b, F0 b → ¬ F5 b) ∧ (∀ b, F0 b → ¬ F6 b) ∧ (∀ b, F3 b → ¬ F4 b) ∧ (∀ b, F3 b → ¬ F5 b) ∧ (∀ b, F3 b → ¬ F6 b) ∧ (∀ b, F4 b → ¬ F5 b) ∧ (∀ b, F4 b → ¬ F6 b) ∧ (∀ b, F5 b → ¬ F6 b) := by
 obtain ⟨_, _, F0_1, F0_2, rfl, ⟨_, _, F1_1, F1_2, rfl, ⟨v0, rfl, h0⟩, rfl, s1_1, s1_2, d1⟩, ⟨_, _, F2_1, F2_2, rfl, rfl, ⟨_, _, F3_1, F3_2, rfl, ⟨v3, rfl, h3⟩, ⟨_, _, F4_1, F4_2, rfl, ⟨v4, rfl, h4⟩, ⟨_, _, F5_1, F5_2, rfl, ⟨v5, rfl, h5⟩, ⟨_, _, F6_1, F6_2, rfl, ⟨v6, rfl, h6⟩, rfl, s6_1, s6_2, d6⟩, s5_1, s5_2, d5⟩, s4_1, s4_2, d4⟩, s3_1, s3_2, d3⟩, s2_1, s2_2, d2⟩, s0_1, s0_2, d0⟩ := h
 exact ⟨v0, v3, v4, v5, v6, F1_1, F3_1, F4_1, F5_1, F6_1, rfl, h0, h3, h4, h5, h6, fun b h => (s0_1 b (s1_1 b h)), fun b h => (s0_2 b (s2_2 b (s3_1 b h))), fun b h => (s0_2 b (s2_2 b (s3_2 b (s4_1 b h)))), fun b h => (s0_2 b (s2_2 b (s3_2 b (s4_2 b (s5_1 b h))))), fun b h => (s0_2 b (s2_2 b (s3_2 b (s4_2 b (s5_2 b (s6_1 b h)))))), fun b h h2 => d0 b (s1_1 b h) (s2_2 b (s3_1 b h2)), fun b h h2 => d0 b (s1_1 b h) (s2_2 b (s3_2 b (s4_1 b h2))), fun b h h2 => d0 b (s1_1 b h) (s2_2 b (s3_2 b (s4_2 b (s5_1 b h2)))), fun b h h2 => d0 b (s1_1 b h) (s2_2 b (s3_2 b (s4_2 b (s5_2 b (s6_1 b h2))))), fun b h h2 => d3 b h (s4_1 b h2), fun b h h2 => d3 b h (s4_2 b (s5_1 b h2)), fun b h h2 => d3 b h (s4_2 b (s5_2 b (s6_1 b h2))), fun b h h2 => d4 b h (s5_1 b h2), fun b h h2 => d4 b h (s5_2 b (s6_1 b h2)), fun b h h2 => d5 b h (s6_1 b h2)⟩
theorem tEngine_mkO {w : World} {F : Nat → Prop} {x0 : List (List (Int × List Int × Int × Int))} {a1 : Int} {a2 : Int} {x3 : List Int} {x4 : List ((Int × Int × List (Int × Int × Int) × List Int) × Int × List Int × Int × Int × Int × List (Int × List Int))} {x5 : List ((Int × Int × List (Int × Int × Int) × List Int) × Int × Int × List (Int × List Int))} {x6 : List (Int × Int × List Int × List Int × List Int)} {a7 : Int} {v0 v3 v4 v5 v6 : Value} {F0 F3 F4 F5 F6 : Nat → Prop} (h0 : SlO 61 tVersionS w F0 v0 x0) (h3 : SlO 3 tInt w F3 v3 x3) (h4 : SlO 92 tActive w F4 v4 x4) (h5 : SlO 101 tFinished w F5 v5 x5) (h6 : SlO 105 tCharge w F6 v6 x6) (s0 : ∀ b, F0 b → F b) (s3 : ∀ b, F3 b → F b) (s4 : ∀ b, F4 b → F b) (s5 : ∀ b, F5 b → F b) (s6 : ∀ b, F6 b → F b) (d0_3 : ∀ b, F0 b → ¬ F3 b) (d0_4 : ∀ b, F0 b → ¬ F4 b) (d0_5 : ∀ b, F0 b → ¬ F5 b) (d0_6 : ∀ b, F0 b → ¬ F6 b) (d3_4 : ∀ b, F3 b → ¬ F4 b) (d3_5 : ∀ b, F3 b → ¬ F5 b) (d3_6 : ∀ b, F3 b → ¬ F6 b) (d4_5 : ∀ b, F4 b → ¬ F5 b) (d4_6 : ∀ b, F4 b → ¬ F6 b) (d5_6 : ∀ b, F5 b → ¬ F6 b) : tEngine.O w F [v0, .int .i64 a1, .int .i64 a2, v3, v4, v5, v6, .int .i64 a7] ((x0, a1), a2, x3, x4, x5, x6, a7) := ⟨[v0, .int .i64 a1], [.int .i64 a2, v3, v4, v5, v6, .int .i64 a7], F0, fun b => F3 b ∨ (F4 b ∨ (F5 b ∨ (F6 b))), rfl, ⟨[v0], [.int .i64 a1], F0, fun _ => False, rfl, ⟨_, rfl, h0⟩, rfl, (fun b h => h), (fun b h => (False.elim h)), (fun b h g => (False.elim g))⟩, ⟨[.int .i64 a2], [v3, v4, v5, v6, .int .i64 a7], fun _ => False, fun b => F3 b ∨ (F4 b ∨ (F5 b ∨ (F6 b))), rfl, rfl, ⟨[v3], [v4, v5, v6, .int .i64 a7], F3, fun b => F4 b ∨ (F5 b ∨ (F6 b)), rfl, ⟨_, rfl, h3⟩, ⟨[v4], [v5, v6, .int .i64 a7], F4, fun b => F5 b ∨ (F6 b), rfl, ⟨_, rfl, h4⟩, ⟨[v5], [v6, .int .i64 a7], F5, F6, rfl, ⟨_, rfl, h5⟩, ⟨[v6], [.int .i64 a7], F6, fun _ => False, rfl, ⟨_, rfl, h6⟩, rfl, (fun b h => h), (fun b h => (False.elim h)), (fun b h g => (False.elim g))⟩, (fun b h => (Or.inl h)), (fun b h => (Or.inr h)), (fun b h g => d5_6 b h g)⟩, (fun b h => (Or.inl h)), (fun b h => (h.elim (fun q0 => (Or.inr (Or.inl q0))) (fun q0 => (Or.inr (Or.inr q0))))), (fun b h g => (g.elim (fun q10 => d4_5 b h q10) (fun q10 => d4_6 b h q10)))⟩, (fun b h => (Or.inl h)), (fun b h => (h.elim (fun q0 => (Or.inr (Or.inl q0))) (fun q0 => (q0.elim (fun q1 => (Or.inr (Or.inr (Or.inl q1)))) (fun q1 => (Or.inr (Or.inr (Or.inr q1)))))))), (fun b h g => (g.elim (fun q10 => d3_4 b h q10) (fun q10 => (q10.elim (fun q11 => d3_5 b h q11) (fun q11 => d3_6 b h q11)))))⟩, (fun b h => (False.elim h)), (fun b h => (h.elim (fun q0 => (Or.inl q0)) (fun q0 => (q0.elim (fun q1 => (Or.inr (Or.inl q1))) (fun q1 => (q1.elim (fun q2 => (Or.inr (Or.inr (Or.inl q2)))) (fun q2 => (Or.inr (Or.inr (Or.inr q2)))))))))), (fun b h g => (False.elim h))⟩, (fun b h => s0 b h), (fun b h => (h.elim (fun q0 => s3 b q0) (fun q0 => (q0.elim (fun q1 => s4 b q1) (fun q1 => (q1.elim (fun q2 => s5 b q2) (fun q2 => s6 b q2))))))), (fun b h g => (g.elim (fun q10 => d0_3 b h q10) (fun q10 => (q10.elim (fun q11 => d0_4 b h q11) (fun q11 => (q11.elim (fun q12 => d0_5 b h q12) (fun q12 => d0_6 b h q12)))))))⟩
set_option maxHeartbeats 8000000 in
set_option maxRecDepth 100000 in
theorem szEngine_Y (a1 a2 a7 : Int) (v0 v3 v4 v5 v6 : Value) (x0 : List (List (Int × List Int × Int × Int))) (x3 : List Int) (x4 : List ((Int × Int × List (Int × Int × Int) × List Int) × Int × List Int × Int × Int × Int × List (Int × List Int))) (x5 : List ((Int × Int × List (Int × Int × Int) × List Int) × Int × Int × List (Int × List Int))) (x6 : List (Int × Int × List Int × List Int × List Int)) (k0 : Int) (w : World) (h0 : SlR tVersionS w v0 x0) (h3 : SlR tInt w v3 x3) (h4 : SlR tActive w v4 x4) (h5 : SlR tFinished w v5 x5) (h6 : SlR tCharge w v6 x6) (hs : ((zL tVersionS x0 + zL tInt x3 + zL tActive x4 + zL tFinished x5 + zL tCharge x6 : Nat) : Int) ≤ k0) (hk : k0 ≤ 1048576) :
  Calls Try.prog 21 #[.agg #[v0, .int .i64 a1, .int .i64 a2, v3, v4, v5, v6, .int .i64 a7], .int .i64 k0] w fun e w' => e = .returned (.int .i64 (k0 - ((zL tVersionS x0 + zL tInt x3 + zL tActive x4 + zL tFinished x5 + zL tCharge x6 : Nat) : Int))) ∧ Below w.heap.size w w' := by
 have H0 := Lib.hid h0
 have H3 := Lib.hid h3
 have H4 := Lib.hid h4
 have H5 := Lib.hid h5
 have H6 := Lib.hid h6
 clear h0 h3 h4 h5 h6
 have HZ0 : Hid (((zL tVersionS x0 : Nat) : Int) ≤ k0) := Lib.hid (by omega)
 have HK0 : Hid (k0 ≤ 1048576) := Lib.hid (by omega)
 have hn0 : ¬ k0 - ((zL tVersionS x0 : Nat) : Int) < 0 := by omega
 have HZ3 : Hid (((zL tInt x3 : Nat) : Int) ≤ k0 - ((zL tVersionS x0 : Nat) : Int)) := Lib.hid (by omega)
 have HK3 : Hid (k0 - ((zL tVersionS x0 : Nat) : Int) ≤ 1048576) := Lib.hid (by omega)
 have hn3 : ¬ k0 - ((zL tVersionS x0 : Nat) : Int) - ((zL tInt x3 : Nat) : Int) < 0 := by omega
 have HZ4 : Hid (((zL tActive x4 : Nat) : Int) ≤ k0 - ((zL tVersionS x0 : Nat) : Int) - ((zL tInt x3 : Nat) : Int)) := Lib.hid (by omega)
 have HK4 : Hid (k0 - ((zL tVersionS x0 : Nat) : Int) - ((zL tInt x3 : Nat) : Int) ≤ 1048576) := Lib.hid (by omega)
 have hn4 : ¬ k0 - ((zL tVersionS x0 : Nat) : Int) - ((zL tInt x3 : Nat) : Int) - ((zL tActive x4 : Nat) : Int) < 0 := by omega
 have HZ5 : Hid (((zL tFinished x5 : Nat) : Int) ≤ k0 - ((zL tVersionS x0 : Nat) : Int) - ((zL tInt x3 : Nat) : Int) - ((zL tActive x4 : Nat) : Int)) := Lib.hid (by omega)
 have HK5 : Hid (k0 - ((zL tVersionS x0 : Nat) : Int) - ((zL tInt x3 : Nat) : Int) - ((zL tActive x4 : Nat) : Int) ≤ 1048576) := Lib.hid (by omega)
 have hn5 : ¬ k0 - ((zL tVersionS x0 : Nat) : Int) - ((zL tInt x3 : Nat) : Int) - ((zL tActive x4 : Nat) : Int) - ((zL tFinished x5 : Nat) : Int) < 0 := by omega
 have HZ6 : Hid (((zL tCharge x6 : Nat) : Int) ≤ k0 - ((zL tVersionS x0 : Nat) : Int) - ((zL tInt x3 : Nat) : Int) - ((zL tActive x4 : Nat) : Int) - ((zL tFinished x5 : Nat) : Int)) := Lib.hid (by omega)
 have HK6 : Hid (k0 - ((zL tVersionS x0 : Nat) : Int) - ((zL tInt x3 : Nat) : Int) - ((zL tActive x4 : Nat) : Int) - ((zL tFinished x5 : Nat) : Int) ≤ 1048576) := Lib.hid (by omega)
 have hn6 : ¬ k0 - ((zL tVersionS x0 : Nat) : Int) - ((zL tInt x3 : Nat) : Int) - ((zL tActive x4 : Nat) : Int) - ((zL tFinished x5 : Nat) : Int) - ((zL tCharge x6 : Nat) : Int) < 0 := by omega
 have HE : Hid (k0 - ((zL tVersionS x0 : Nat) : Int) - ((zL tInt x3 : Nat) : Int) - ((zL tActive x4 : Nat) : Int) - ((zL tFinished x5 : Nat) : Int) - ((zL tCharge x6 : Nat) : Int) = k0 - ((zL tVersionS x0 + zL tInt x3 + zL tActive x4 + zL tFinished x5 + zL tCharge x6 : Nat) : Int)) := Lib.hid (by omega)
 clear hs hk
 have hb : Below w.heap.size w (w.alloc (.cells #[v0, .int .i64 a1, .int .i64 a2, v3, v4, v5, v6, .int .i64 a7] 52)) := (Below.refl _ w).alloc (Nat.le_refl _) _
 have g0 : (w.alloc (.cells #[v0, .int .i64 a1, .int .i64 a2, v3, v4, v5, v6, .int .i64 a7] 52)).heap[w.heap.size]? = some (.cells #[v0, .int .i64 a1, .int .i64 a2, v3, v4, v5, v6, .int .i64 a7] 52 (0, 0)) := heap_alloc_new w _
 have hz0 : w.heap.size < (w.alloc (.cells #[v0, .int .i64 a1, .int .i64 a2, v3, v4, v5, v6, .int .i64 a7] 52)).heap.size := by simp
 go_enter Try.func21, Try.ntmps21
 go_wp2_with fail
 generalize (w.alloc (.cells #[v0, .int .i64 a1, .int .i64 a2, v3, v4, v5, v6, .int .i64 a7] 52)) = W at *
 refine (szStore_Y a1 v0 x0 (k0) W (slR_below tVersionS_law H0.out hb) HZ0.out HK0.out).mono ?_
 rintro e W1 ⟨rfl, b1⟩
 replace g0 := (b1.block w.heap.size hz0).trans g0
 replace hz0 := Nat.lt_of_lt_of_le hz0 b1.size
 replace hb := hb.trans (b1.mono hb.size)
 clear b1
 have p3 := (cell_of_row W1 _ 3 _ _ _ g0).trans (show _ = some (v3) from rfl)
 go_wp2_with fail
 clear p3
 refine (szIntS_Y v3 x3 (k0 - ((zL tVersionS x0 : Nat) : Int)) W1 (slR_below tInt_law H3.out hb) HZ3.out HK3.out).mono ?_
 rintro e W2 ⟨rfl, b1⟩
 replace g0 := (b1.block w.heap.size hz0).trans g0
 replace hz0 := Nat.lt_of_lt_of_le hz0 b1.size
 replace hb := hb.trans (b1.mono hb.size)
 clear b1
 have p4 := (cell_of_row W2 _ 4 _ _ _ g0).trans (show _ = some (v4) from rfl)
 go_wp2_with fail
 clear p4
 refine (szActiveS_Y v4 x4 (k0 - ((zL tVersionS x0 : Nat) : Int) - ((zL tInt x3 : Nat) : Int)) W2 (slR_below tActive_law H4.out hb) HZ4.out HK4.out).mono ?_
 rintro e W3 ⟨rfl, b1⟩
 replace g0 := (b1.block w.heap.size hz0).trans g0
 replace hz0 := Nat.lt_of_lt_of_le hz0 b1.size
 replace hb := hb.trans (b1.mono hb.size)
 clear b1
 have p5 := (cell_of_row W3 _ 5 _ _ _ g0).trans (show _ = some (v5) from rfl)
 go_wp2_with fail
 clear p5
 refine (szFinishedS_Y v5 x5 (k0 - ((zL tVersionS x0 : Nat) : Int) - ((zL tInt x3 : Nat) : Int) - ((zL tActive x4 : Nat) : Int)) W3 (slR_below tFinished_law H5.out hb) HZ5.out HK5.out).mono ?_
 rintro e W4 ⟨rfl, b1⟩
 replace g0 := (b1.block w.heap.size hz0).trans g0
 replace hz0 := Nat.lt_of_lt_of_le hz0 b1.size
 replace hb := hb.trans (b1.mono hb.size)
 clear b1
 have p6 := (cell_of_row W4 _ 6 _ _ _ g0).trans (show _ = some (v6) from rfl)
 go_wp2_with fail
 clear p6
 refine (szChargeS_Y v6 x6 (k0 - ((zL tVersionS x0 : Nat) : Int) - ((zL tInt x3 : Nat) : Int) - ((zL tActive x4 : Nat) : Int) - ((zL tFinished x5 : Nat) : Int)) W4 (slR_below tCharge_law H6.out hb) HZ6.out HK6.out).mono ?_
 rintro e W5 ⟨rfl, b1⟩
 replace g0 := (b1.block w.heap.size hz0).trans g0
 replace hz0 := Nat.lt_of_lt_of_le hz0 b1.size
 replace hb := hb.trans (b1.mono hb.size)
 clear b1
 go_wp2
 go_ret
 exact ⟨ty_ret HE.out, hb⟩
set_option maxHeartbeats 8000000 in
set_option maxRecDepth 100000 in
theorem szEngine_N (a1 a2 a7 : Int) (v0 v3 v4 v5 v6 : Value) (x0 : List (List (Int × List Int × Int × Int))) (x3 : List Int) (x4 : List ((Int × Int × List (Int × Int × Int) × List Int) × Int × List Int × Int × Int × Int × List (Int × List Int))) (x5 : List ((Int × Int × List (Int × Int × Int) × List Int) × Int × Int × List (Int × List Int))) (x6 : List (Int × Int × List Int × List Int × List Int)) (k0 : Int) (w : World) (h0 : SlR tVersionS w v0 x0) (h3 : SlR tInt w v3 x3) (h4 : SlR tActive w v4 x4) (h5 : SlR tFinished w v5 x5) (h6 : SlR tCharge w v6 x6) (hs : k0 < ((zL tVersionS x0 + zL tInt x3 + zL tActive x4 + zL tFinished x5 + zL tCharge x6 : Nat) : Int)) (hk : k0 ≤ 1048576) (hp : 0 ≤ k0) (o0 : tVersionSS.ok x0) (o3 : tIntS.ok x3) (o4 : tActiveS.ok x4) (o5 : tFinishedS.ok x5) (o6 : tChargeS.ok x6) :
  Calls Try.prog 21 #[.agg #[v0, .int .i64 a1, .int .i64 a2, v3, v4, v5, v6, .int .i64 a7], .int .i64 k0] w fun e w' => e = .returned (.int .i64 (-1)) ∧ Below w.heap.size w w' := by
 have H0 := Lib.hid h0
 have H3 := Lib.hid h3
 have H4 := Lib.hid h4
 have H5 := Lib.hid h5
 have H6 := Lib.hid h6
 clear h0 h3 h4 h5 h6
 have HO0 := Lib.hid o0
 have HO3 := Lib.hid o3
 have HO4 := Lib.hid o4
 have HO5 := Lib.hid o5
 have HO6 := Lib.hid o6
 clear o0 o3 o4 o5 o6
 by_cases c0 : k0 < ((zL tVersionS x0 : Nat) : Int)
 ·
  have HZ0 : Hid (k0 < ((zL tVersionS x0 : Nat) : Int)) := Lib.hid (by omega)
  have HP0 : Hid (0 ≤ k0) := Lib.hid (by omega)
  have HK0 : Hid (k0 ≤ 1048576) := Lib.hid (by omega)
  clear hs hk
  clear c0 hp
  have hb : Below w.heap.size w (w.alloc (.cells #[v0, .int .i64 a1, .int .i64 a2, v3, v4, v5, v6, .int .i64 a7] 52)) := (Below.refl _ w).alloc (Nat.le_refl _) _
  have g0 : (w.alloc (.cells #[v0, .int .i64 a1, .int .i64 a2, v3, v4, v5, v6, .int .i64 a7] 52)).heap[w.heap.size]? = some (.cells #[v0, .int .i64 a1, .int .i64 a2, v3, v4, v5, v6, .int .i64 a7] 52 (0, 0)) := heap_alloc_new w _
  have hz0 : w.heap.size < (w.alloc (.cells #[v0, .int .i64 a1, .int .i64 a2, v3, v4, v5, v6, .int .i64 a7] 52)).heap.size := by simp
  go_enter Try.func21, Try.ntmps21
  go_wp2_with fail
  generalize (w.alloc (.cells #[v0, .int .i64 a1, .int .i64 a2, v3, v4, v5, v6, .int .i64 a7] 52)) = W at *
  refine (szStore_N a1 v0 x0 (k0) W (slR_below tVersionS_law H0.out hb) HZ0.out HK0.out HP0.out HO0.out).mono ?_
  rintro e W1 ⟨rfl, b1⟩
  replace g0 := (b1.block w.heap.size hz0).trans g0
  replace hz0 := Nat.lt_of_lt_of_le hz0 b1.size
  replace hb := hb.trans (b1.mono hb.size)
  clear b1
  go_wp2
  go_ret
  exact ⟨rfl, hb⟩
 ·
  by_cases c1 : k0 - ((zL tVersionS x0 : Nat) : Int) < ((zL tInt x3 : Nat) : Int)
  ·
   have HZ0 : Hid (((zL tVersionS x0 : Nat) : Int) ≤ k0) := Lib.hid (by omega)
   have hn0 : ¬ k0 - ((zL tVersionS x0 : Nat) : Int) < 0 := by omega
   have HK0 : Hid (k0 ≤ 1048576) := Lib.hid (by omega)
   have HZ3 : Hid (k0 - ((zL tVersionS x0 : Nat) : Int) < ((zL tInt x3 : Nat) : Int)) := Lib.hid (by omega)
   have HP3 : Hid (0 ≤ k0 - ((zL tVersionS x0 : Nat) : Int)) := Lib.hid (by omega)
   have HK3 : Hid (k0 - ((zL tVersionS x0 : Nat) : Int) ≤ 1048576) := Lib.hid (by omega)
   clear hs hk
   clear c1 hp c0
   have hb : Below w.heap.size w (w.alloc (.cells #[v0, .int .i64 a1, .int .i64 a2, v3, v4, v5, v6, .int .i64 a7] 52)) := (Below.refl _ w).alloc (Nat.le_refl _) _
   have g0 : (w.alloc (.cells #[v0, .int .i64 a1, .int .i64 a2, v3, v4, v5, v6, .int .i64 a7] 52)).heap[w.heap.size]? = some (.cells #[v0, .int .i64 a1, .int .i64 a2, v3, v4, v5, v6, .int .i64 a7] 52 (0, 0)) := heap_alloc_new w _
   have hz0 : w.heap.size < (w.alloc (.cells #[v0, .int .i64 a1, .int .i64 a2, v3, v4, v5, v6, .int .i64 a7] 52)).heap.size := by simp
   go_enter Try.func21, Try.ntmps21
   go_wp2_with fail
   generalize (w.alloc (.cells #[v0, .int .i64 a1, .int .i64 a2, v3, v4, v5, v6, .int .i64 a7] 52)) = W at *
   refine (szStore_Y a1 v0 x0 (k0) W (slR_below tVersionS_law H0.out hb) HZ0.out HK0.out).mono ?_
   rintro e W1 ⟨rfl, b1⟩
   replace g0 := (b1.block w.heap.size hz0).trans g0
   replace hz0 := Nat.lt_of_lt_of_le hz0 b1.size
   replace hb := hb.trans (b1.mono hb.size)
   clear b1
   have p3 := (cell_of_row W1 _ 3 _ _ _ g0).trans (show _ = some (v3) from rfl)
   go_wp2_with fail
   clear p3
   refine (szIntS_N v3 x3 (k0 - ((zL tVersionS x0 : Nat) : Int)) W1 (slR_below tInt_law H3.out hb) HZ3.out HK3.out HP3.out HO3.out).mono ?_
   rintro e W2 ⟨rfl, b1⟩
   replace g0 := (b1.block w.heap.size hz0).trans g0
   replace hz0 := Nat.lt_of_lt_of_le hz0 b1.size
   replace hb := hb.trans (b1.mono hb.size)
   clear b1
   go_wp2
   go_ret
   exact ⟨rfl, hb⟩
  ·
   by_cases c2 : k0 - ((zL tVersionS x0 : Nat) : Int) - ((zL tInt x3 : Nat) : Int) < ((zL tActive x4 : Nat) : Int)
   ·
    have HZ0 : Hid (((zL tVersionS x0 : Nat) : Int) ≤ k0) := Lib.hid (by omega)
    have hn0 : ¬ k0 - ((zL tVersionS x0 : Nat) : Int) < 0 := by omega
    have HK0 : Hid (k0 ≤ 1048576) := Lib.hid (by omega)
    have HZ3 : Hid (((zL tInt x3 : Nat) : Int) ≤ k0 - ((zL tVersionS x0 : Nat) : Int)) := Lib.hid (by omega)
    have hn3 : ¬ k0 - ((zL tVersionS x0 : Nat) : Int) - ((zL tInt x3 : Nat) : Int) < 0 := by omega
    have HK3 : Hid (k0 - ((zL tVersionS x0 : Nat) : Int) ≤ 1048576) := Lib.hid (by omega)
    have HZ4 : Hid (k0 - ((zL tVersionS x0 : Nat) : Int) - ((zL tInt x3 : Nat) : Int) < ((zL tActive x4 : Nat) : Int)) := Lib.hid (by omega)
    have HP4 : Hid (0 ≤ k0 - ((zL tVersionS x0 : Nat) : Int) - ((zL tInt x3 : Nat) : Int)) := Lib.hid (by omega)
    have HK4 : Hid (k0 - ((zL tVersionS x0 : Nat) : Int) - ((zL tInt x3 : Nat) : Int) ≤ 1048576) := Lib.hid (by omega)
    clear hs hk
    clear c2 hp c0 c1
    have hb : Below w.heap.size w (w.alloc (.cells #[v0, .int .i64 a1, .int .i64 a2, v3, v4, v5, v6, .int .i64 a7] 52)) := (Below.refl _ w).alloc (Nat.le_refl _) _
    have g0 : (w.alloc (.cells #[v0, .int .i64 a1, .int .i64 a2, v3, v4, v5, v6, .int .i64 a7] 52)).heap[w.heap.size]? = some (.cells #[v0, .int .i64 a1, .int .i64 a2, v3, v4, v5, v6, .int .i64 a7] 52 (0, 0)) := heap_alloc_new w _
    have hz0 : w.heap.size < (w.alloc (.cells #[v0, .int .i64 a1, .int .i64 a2, v3, v4, v5, v6, .int .i64 a7] 52)).heap.size := by simp
    go_enter Try.func21, Try.ntmps21
    go_wp2_with fail
    generalize (w.alloc (.cells #[v0, .int .i64 a1, .int .i64 a2, v3, v4, v5, v6, .int .i64 a7] 52)) = W at *
    refine (szStore_Y a1 v0 x0 (k0) W (slR_below tVersionS_law H0.out hb) HZ0.out HK0.out).mono ?_
    rintro e W1 ⟨rfl, b1⟩
    replace g0 := (b1.block w.heap.size hz0).trans g0
    replace hz0 := Nat.lt_of_lt_of_le hz0 b1.size
    replace hb := hb.trans (b1.mono hb.size)
    clear b1
    have p3 := (cell_of_row W1 _ 3 _ _ _ g0).trans (show _ = some (v3) from rfl)
    go_wp2_with fail
    clear p3
    refine (szIntS_Y v3 x3 (k0 - ((zL tVersionS x0 : Nat) : Int)) W1 (slR_below tInt_law H3.out hb) HZ3.out HK3.out).mono ?_
    rintro e W2 ⟨rfl, b1⟩
    replace g0 := (b1.block w.heap.size hz0).trans g0
    replace hz0 := Nat.lt_of_lt_of_le hz0 b1.size
    replace hb := hb.trans (b1.mono hb.size)
    clear b1
    have p4 := (cell_of_row W2 _ 4 _ _ _ g0).trans (show _ = some (v4) from rfl)
    go_wp2_with fail
    clear p4
    refine (szActiveS_N v4 x4 (k0 - ((zL tVersionS x0 : Nat) : Int) - ((zL tInt x3 : Nat) : Int)) W2 (slR_below tActive_law H4.out hb) HZ4.out HK4.out HP4.out HO4.out).mono ?_
    rintro e W3 ⟨rfl, b1⟩
    replace g0 := (b1.block w.heap.size hz0).trans g0
    replace hz0 := Nat.lt_of_lt_of_le hz0 b1.size
    replace hb := hb.trans (b1.mono hb.size)
    clear b1
    go_wp2
    go_ret
    exact ⟨rfl, hb⟩
   ·
    by_cases c3 : k0 - ((zL tVersionS x0 : Nat) : Int) - ((zL tInt x3 : Nat) : Int) - ((zL tActive x4 : Nat) : Int) < ((zL tFinished x5 : Nat) : Int)
    ·
     have HZ0 : Hid (((zL tVersionS x0 : Nat) : Int) ≤ k0) := Lib.hid (by omega)
     have hn0 : ¬ k0 - ((zL tVersionS x0 : Nat) : Int) < 0 := by omega
     have HK0 : Hid (k0 ≤ 1048576) := Lib.hid (by omega)
     have HZ3 : Hid (((zL tInt x3 : Nat) : Int) ≤ k0 - ((zL tVersionS x0 : Nat) : Int)) := Lib.hid (by omega)
     have hn3 : ¬ k0 - ((zL tVersionS x0 : Nat) : Int) - ((zL tInt x3 : Nat) : Int) < 0 := by omega
     have HK3 : Hid (k0 - ((zL tVersionS x0 : Nat) : Int) ≤ 1048576) := Lib.hid (by omega)
     have HZ4 : Hid (((zL tActive x4 : Nat) : Int) ≤ k0 - ((zL tVersionS x0 : Nat) : Int) - ((zL tInt x3 : Nat) : Int)) := Lib.hid (by omega)
     have hn4 : ¬ k0 - ((zL tVersionS x0 : Nat) : Int) - ((zL tInt x3 : Nat) : Int) - ((zL tActive x4 : Nat) : Int) < 0 := by omega
     have HK4 : Hid (k0 - ((zL tVersionS x0 : Nat) : Int) - ((zL tInt x3 : Nat) : Int) ≤ 1048576) := Lib.hid (by omega)
     have HZ5 : Hid (k0 - ((zL tVersionS x0 : Nat) : Int) - ((zL tInt x3 : Nat) : Int) - ((zL tActive x4 : Nat) : Int) < ((zL tFinished x5 : Nat) : Int)) := Lib.hid (by omega)
     have HP5 : Hid (0 ≤ k0 - ((zL tVersionS x0 : Nat) : Int) - ((zL tInt x3 : Nat) : Int) - ((zL tActive x4 : Nat) : Int)) := Lib.hid (by omega)
     have HK5 : Hid (k0 - ((zL tVersionS x0 : Nat) : Int) - ((zL tInt x3 : Nat) : Int) - ((zL tActive x4 : Nat) : Int) ≤ 1048576) := Lib.hid (by omega)
     clear hs hk
     clear c3 hp c0 c1 c2
     have hb : Below w.heap.size w (w.alloc (.cells #[v0, .int .i64 a1, .int .i64 a2, v3, v4, v5, v6, .int .i64 a7] 52)) := (Below.refl _ w).alloc (Nat.le_refl _) _
     have g0 : (w.alloc (.cells #[v0, .int .i64 a1, .int .i64 a2, v3, v4, v5, v6, .int .i64 a7] 52)).heap[w.heap.size]? = some (.cells #[v0, .int .i64 a1, .int .i64 a2, v3, v4, v5, v6, .int .i64 a7] 52 (0, 0)) := heap_alloc_new w _
     have hz0 : w.heap.size < (w.alloc (.cells #[v0, .int .i64 a1, .int .i64 a2, v3, v4, v5, v6, .int .i64 a7] 52)).heap.size := by simp
     go_enter Try.func21, Try.ntmps21
     go_wp2_with fail
     generalize (w.alloc (.cells #[v0, .int .i64 a1, .int .i64 a2, v3, v4, v5, v6, .int .i64 a7] 52)) = W at *
     refine (szStore_Y a1 v0 x0 (k0) W (slR_below tVersionS_law H0.out hb) HZ0.out HK0.out).mono ?_
     rintro e W1 ⟨rfl, b1⟩
     replace g0 := (b1.block w.heap.size hz0).trans g0
     replace hz0 := Nat.lt_of_lt_of_le hz0 b1.size
     replace hb := hb.trans (b1.mono hb.size)
     clear b1
     have p3 := (cell_of_row W1 _ 3 _ _ _ g0).trans (show _ = some (v3) from rfl)
     go_wp2_with fail
     clear p3
     refine (szIntS_Y v3 x3 (k0 - ((zL tVersionS x0 : Nat) : Int)) W1 (slR_below tInt_law H3.out hb) HZ3.out HK3.out).mono ?_
     rintro e W2 ⟨rfl, b1⟩
     replace g0 := (b1.block w.heap.size hz0).trans g0
     replace hz0 := Nat.lt_of_lt_of_le hz0 b1.size
     replace hb := hb.trans (b1.mono hb.size)
     clear b1
     have p4 := (cell_of_row W2 _ 4 _ _ _ g0).trans (show _ = some (v4) from rfl)
     go_wp2_with fail
     clear p4
     refine (szActiveS_Y v4 x4 (k0 - ((zL tVersionS x0 : Nat) : Int) - ((zL tInt x3 : Nat) : Int)) W2 (slR_below tActive_law H4.out hb) HZ4.out HK4.out).mono ?_
     rintro e W3 ⟨rfl, b1⟩
     replace g0 := (b1.block w.heap.size hz0).trans g0
     replace hz0 := Nat.lt_of_lt_of_le hz0 b1.size
     replace hb := hb.trans (b1.mono hb.size)
     clear b1
     have p5 := (cell_of_row W3 _ 5 _ _ _ g0).trans (show _ = some (v5) from rfl)
     go_wp2_with fail
     clear p5
     refine (szFinishedS_N v5 x5 (k0 - ((zL tVersionS x0 : Nat) : Int) - ((zL tInt x3 : Nat) : Int) - ((zL tActive x4 : Nat) : Int)) W3 (slR_below tFinished_law H5.out hb) HZ5.out HK5.out HP5.out HO5.out).mono ?_
     rintro e W4 ⟨rfl, b1⟩
     replace g0 := (b1.block w.heap.size hz0).trans g0
     replace hz0 := Nat.lt_of_lt_of_le hz0 b1.size
     replace hb := hb.trans (b1.mono hb.size)
     clear b1
     go_wp2
     go_ret
     exact ⟨rfl, hb⟩
    ·
     have HZ0 : Hid (((zL tVersionS x0 : Nat) : Int) ≤ k0) := Lib.hid (by omega)
     have hn0 : ¬ k0 - ((zL tVersionS x0 : Nat) : Int) < 0 := by omega
     have HK0 : Hid (k0 ≤ 1048576) := Lib.hid (by omega)
     have HZ3 : Hid (((zL tInt x3 : Nat) : Int) ≤ k0 - ((zL tVersionS x0 : Nat) : Int)) := Lib.hid (by omega)
     have hn3 : ¬ k0 - ((zL tVersionS x0 : Nat) : Int) - ((zL tInt x3 : Nat) : Int) < 0 := by omega
     have HK3 : Hid (k0 - ((zL tVersionS x0 : Nat) : Int) ≤ 1048576) := Lib.hid (by omega)
     have HZ4 : Hid (((zL tActive x4 : Nat) : Int) ≤ k0 - ((zL tVersionS x0 : Nat) : Int) - ((zL tInt x3 : Nat) : Int)) := Lib.hid (by omega)
     have hn4 : ¬ k0 - ((zL tVersionS x0 : Nat) : Int) - ((zL tInt x3 : Nat) : Int) - ((zL tActive x4 : Nat) : Int) < 0 := by omega
     have HK4 : Hid (k0 - ((zL tVersionS x0 : Nat) : Int) - ((zL tInt x3 : Nat) : Int) ≤ 1048576) := Lib.hid (by omega)
     have HZ5 : Hid (((zL tFinished x5 : Nat) : Int) ≤ k0 - ((zL tVersionS x0 : Nat) : Int) - ((zL tInt x3 : Nat) : Int) - ((zL tActive x4 : Nat) : Int)) := Lib.hid (by omega)
     have hn5 : ¬ k0 - ((zL tVersionS x0 : Nat) : Int) - ((zL tInt x3 : Nat) : Int) - ((zL tActive x4 : Nat) : Int) - ((zL tFinished x5 : Nat) : Int) < 0 := by omega
     have HK5 : Hid (k0 - ((zL tVersionS x0 : Nat) : Int) - ((zL tInt x3 : Nat) : Int) - ((zL tActive x4 : Nat) : Int) ≤ 1048576) := Lib.hid (by omega)
     have HZ6 : Hid (k0 - ((zL tVersionS x0 : Nat) : Int) - ((zL tInt x3 : Nat) : Int) - ((zL tActive x4 : Nat) : Int) - ((zL tFinished x5 : Nat) : Int) < ((zL tCharge x6 : Nat) : Int)) := Lib.hid (by omega)
     have HP6 : Hid (0 ≤ k0 - ((zL tVersionS x0 : Nat) : Int) - ((zL tInt x3 : Nat) : Int) - ((zL tActive x4 : Nat) : Int) - ((zL tFinished x5 : Nat) : Int)) := Lib.hid (by omega)
     have HK6 : Hid (k0 - ((zL tVersionS x0 : Nat) : Int) - ((zL tInt x3 : Nat) : Int) - ((zL tActive x4 : Nat) : Int) - ((zL tFinished x5 : Nat) : Int) ≤ 1048576) := Lib.hid (by omega)
     clear hs hk
     clear hp c0 c1 c2 c3
     have hb : Below w.heap.size w (w.alloc (.cells #[v0, .int .i64 a1, .int .i64 a2, v3, v4, v5, v6, .int .i64 a7] 52)) := (Below.refl _ w).alloc (Nat.le_refl _) _
     have g0 : (w.alloc (.cells #[v0, .int .i64 a1, .int .i64 a2, v3, v4, v5, v6, .int .i64 a7] 52)).heap[w.heap.size]? = some (.cells #[v0, .int .i64 a1, .int .i64 a2, v3, v4, v5, v6, .int .i64 a7] 52 (0, 0)) := heap_alloc_new w _
     have hz0 : w.heap.size < (w.alloc (.cells #[v0, .int .i64 a1, .int .i64 a2, v3, v4, v5, v6, .int .i64 a7] 52)).heap.size := by simp
     go_enter Try.func21, Try.ntmps21
     go_wp2_with fail
     generalize (w.alloc (.cells #[v0, .int .i64 a1, .int .i64 a2, v3, v4, v5, v6, .int .i64 a7] 52)) = W at *
     refine (szStore_Y a1 v0 x0 (k0) W (slR_below tVersionS_law H0.out hb) HZ0.out HK0.out).mono ?_
     rintro e W1 ⟨rfl, b1⟩
     replace g0 := (b1.block w.heap.size hz0).trans g0
     replace hz0 := Nat.lt_of_lt_of_le hz0 b1.size
     replace hb := hb.trans (b1.mono hb.size)
     clear b1
     have p3 := (cell_of_row W1 _ 3 _ _ _ g0).trans (show _ = some (v3) from rfl)
     go_wp2_with fail
     clear p3
     refine (szIntS_Y v3 x3 (k0 - ((zL tVersionS x0 : Nat) : Int)) W1 (slR_below tInt_law H3.out hb) HZ3.out HK3.out).mono ?_
     rintro e W2 ⟨rfl, b1⟩
     replace g0 := (b1.block w.heap.size hz0).trans g0
     replace hz0 := Nat.lt_of_lt_of_le hz0 b1.size
     replace hb := hb.trans (b1.mono hb.size)
     clear b1
     have p4 := (cell_of_row W2 _ 4 _ _ _ g0).trans (show _ = some (v4) from rfl)
     go_wp2_with fail
     clear p4
     refine (szActiveS_Y v4 x4 (k0 - ((zL tVersionS x0 : Nat) : Int) - ((zL tInt x3 : Nat) : Int)) W2 (slR_below tActive_law H4.out hb) HZ4.out HK4.out).mono ?_
     rintro e W3 ⟨rfl, b1⟩
     replace g0 := (b1.block w.heap.size hz0).trans g0
     replace hz0 := Nat.lt_of_lt_of_le hz0 b1.size
     replace hb := hb.trans (b1.mono hb.size)
     clear b1
     have p5 := (cell_of_row W3 _ 5 _ _ _ g0).trans (show _ = some (v5) from rfl)
     go_wp2_with fail
     clear p5
     refine (szFinishedS_Y v5 x5 (k0 - ((zL tVersionS x0 : Nat) : Int) - ((zL tInt x3 : Nat) : Int) - ((zL tActive x4 : Nat) : Int)) W3 (slR_below tFinished_law H5.out hb) HZ5.out HK5.out).mono ?_
     rintro e W4 ⟨rfl, b1⟩
     replace g0 := (b1.block w.heap.size hz0).trans g0
     replace hz0 := Nat.lt_of_lt_of_le hz0 b1.size
     replace hb := hb.trans (b1.mono hb.size)
     clear b1
     have p6 := (cell_of_row W4 _ 6 _ _ _ g0).trans (show _ = some (v6) from rfl)
     go_wp2_with fail
     clear p6
     refine (szChargeS_N v6 x6 (k0 - ((zL tVersionS x0 : Nat) : Int) - ((zL tInt x3 : Nat) : Int) - ((zL tActive x4 : Nat) : Int) - ((zL tFinished x5 : Nat) : Int)) W4 (slR_below tCharge_law H6.out hb) HZ6.out HK6.out HP6.out HO6.out).mono ?_
     rintro e W5 ⟨rfl, b1⟩
     replace g0 := (b1.block w.heap.size hz0).trans g0
     replace hz0 := Nat.lt_of_lt_of_le hz0 b1.size
     replace hb := hb.trans (b1.mono hb.size)
     clear b1
     go_wp2
     go_ret
     exact ⟨rfl, hb⟩
set_option maxHeartbeats 8000000 in
set_option maxRecDepth 100000 in
theorem toEngine_T (a1 a2 a7 : Int) (v0 v3 v4 v5 v6 : Value) (x0 : List (List (Int × List Int × Int × Int))) (x3 : List Int) (x4 : List ((Int × Int × List (Int × Int × Int) × List Int) × Int × List Int × Int × Int × Int × List (Int × List Int))) (x5 : List ((Int × Int × List (Int × Int × Int) × List Int) × Int × Int × List (Int × List Int))) (x6 : List (Int × Int × List Int × List Int × List Int)) (w : World) (h0 : SlR tVersionS w v0 x0) (h3 : SlR tInt w v3 x3) (h4 : SlR tActive w v4 x4) (h5 : SlR tFinished w v5 x5) (h6 : SlR tCharge w v6 x6) (s0 : zL tVersionS x0 ≤ 1048576) (s3 : zL tInt x3 ≤ 1048576) (s4 : zL tActive x4 ≤ 1048576) (s5 : zL tFinished x5 ≤ 1048576) (s6 : zL tCharge x6 ≤ 1048576) :
  Calls Try.prog 23 #[.agg #[v0, .int .i64 a1, .int .i64 a2, v3, v4, v5, v6, .int .i64 a7]] w (FreshT tEngine (fun cs => .agg cs.toArray) w ((x0, a1), a2, x3, x4, x5, x6, a7)) := by
 have H0 := Lib.hid h0
 have H3 := Lib.hid h3
 have H4 := Lib.hid h4
 have H5 := Lib.hid h5
 have H6 := Lib.hid h6
 clear h0 h3 h4 h5 h6
 have S0 := Lib.hid s0
 have S3 := Lib.hid s3
 have S4 := Lib.hid s4
 have S5 := Lib.hid s5
 have S6 := Lib.hid s6
 clear s0 s3 s4 s5 s6
 go_enter Try.func23, Try.ntmps23
 go_wp2_with fail
 have hb : Below w.heap.size w (((w.alloc (.cells #[v0, .int .i64 a1, .int .i64 a2, v3, v4, v5, v6, .int .i64 a7] 52)).alloc (.cells #[.slice none 0 0, .int .i64 0, .int .i64 0, .slice none 0 0, .slice none 0 0, .slice none 0 0, .slice none 0 0, .int .i64 0] 42)).alloc (.cells #[.slice none 0 0, .int .i64 0, .int .i64 0, .slice none 0 0, .slice none 0 0, .slice none 0 0, .slice none 0 0, .int .i64 0] 42)) := (((Below.refl _ w).alloc (Nat.le_refl _) _).alloc (by simp) _).alloc (by simp; omega) _
 have g2 : (((w.alloc (.cells #[v0, .int .i64 a1, .int .i64 a2, v3, v4, v5, v6, .int .i64 a7] 52)).alloc (.cells #[.slice none 0 0, .int .i64 0, .int .i64 0, .slice none 0 0, .slice none 0 0, .slice none 0 0, .slice none 0 0, .int .i64 0] 42)).alloc (.cells #[.slice none 0 0, .int .i64 0, .int .i64 0, .slice none 0 0, .slice none 0 0, .slice none 0 0, .slice none 0 0, .int .i64 0] 42)).heap[w.heap.size + 1 + 1]? = some (.cells #[.slice none 0 0, .int .i64 0, .int .i64 0, .slice none 0 0, .slice none 0 0, .slice none 0 0, .slice none 0 0, .int .i64 0] 42 (0, 0)) := by
  have := heap_alloc_new ((w.alloc (.cells #[v0, .int .i64 a1, .int .i64 a2, v3, v4, v5, v6, .int .i64 a7] 52)).alloc (.cells #[.slice none 0 0, .int .i64 0, .int .i64 0, .slice none 0 0, .slice none 0 0, .slice none 0 0, .slice none 0 0, .int .i64 0] 42)) (.cells #[.slice none 0 0, .int .i64 0, .int .i64 0, .slice none 0 0, .slice none 0 0, .slice none 0 0, .slice none 0 0, .int .i64 0] 42)
  simpa only [World.size_alloc] using this
 have g1 : (((w.alloc (.cells #[v0, .int .i64 a1, .int .i64 a2, v3, v4, v5, v6, .int .i64 a7] 52)).alloc (.cells #[.slice none 0 0, .int .i64 0, .int .i64 0, .slice none 0 0, .slice none 0 0, .slice none 0 0, .slice none 0 0, .int .i64 0] 42)).alloc (.cells #[.slice none 0 0, .int .i64 0, .int .i64 0, .slice none 0 0, .slice none 0 0, .slice none 0 0, .slice none 0 0, .int .i64 0] 42)).heap[w.heap.size + 1]? = some (.cells #[.slice none 0 0, .int .i64 0, .int .i64 0, .slice none 0 0, .slice none 0 0, .slice none 0 0, .slice none 0 0, .int .i64 0] 42 (0, 0)) := by
  have := heap_alloc_new (w.alloc (.cells #[v0, .int .i64 a1, .int .i64 a2, v3, v4, v5, v6, .int .i64 a7] 52)) (.cells #[.slice none 0 0, .int .i64 0, .int .i64 0, .slice none 0 0, .slice none 0 0, .slice none 0 0, .slice none 0 0, .int .i64 0] 42)
  rw [Below.heap_alloc _ _ _ (by simp)]
  simpa only [World.size_alloc] using this
 have g0 : (((w.alloc (.cells #[v0, .int .i64 a1, .int .i64 a2, v3, v4, v5, v6, .int .i64 a7] 52)).alloc (.cells #[.slice none 0 0, .int .i64 0, .int .i64 0, .slice none 0 0, .slice none 0 0, .slice none 0 0, .slice none 0 0, .int .i64 0] 42)).alloc (.cells #[.slice none 0 0, .int .i64 0, .int .i64 0, .slice none 0 0, .slice none 0 0, .slice none 0 0, .slice none 0 0, .int .i64 0] 42)).heap[w.heap.size]? = some (.cells #[v0, .int .i64 a1, .int .i64 a2, v3, v4, v5, v6, .int .i64 a7] 52 (0, 0)) := by
  rw [Below.heap_alloc _ _ _ (by simp; omega), Below.heap_alloc _ _ _ (by simp)]
  exact heap_alloc_new w _
 have hz : w.heap.size + 2 < (((w.alloc (.cells #[v0, .int .i64 a1, .int .i64 a2, v3, v4, v5, v6, .int .i64 a7] 52)).alloc (.cells #[.slice none 0 0, .int .i64 0, .int .i64 0, .slice none 0 0, .slice none 0 0, .slice none 0 0, .slice none 0 0, .int .i64 0] 42)).alloc (.cells #[.slice none 0 0, .int .i64 0, .int .i64 0, .slice none 0 0, .slice none 0 0, .slice none 0 0, .slice none 0 0, .int .i64 0] 42)).heap.size := by simp [World.size_alloc]
 generalize (((w.alloc (.cells #[v0, .int .i64 a1, .int .i64 a2, v3, v4, v5, v6, .int .i64 a7] 52)).alloc (.cells #[.slice none 0 0, .int .i64 0, .int .i64 0, .slice none 0 0, .slice none 0 0, .slice none 0 0, .slice none 0 0, .int .i64 0] 42)).alloc (.cells #[.slice none 0 0, .int .i64 0, .int .i64 0, .slice none 0 0, .slice none 0 0, .slice none 0 0, .slice none 0 0, .int .i64 0] 42)) = W at *
 refine (toStore_T a1 v0 x0 W (slR_below tVersionS_law H0.out hb) S0.out).mono ?_
 rintro e w1 ⟨cs, rfl, ow, b1⟩
 replace ow := tStore_law.mono (tStore_law.lt ow) (F' := fun b => W.heap.size ≤ b ∧ b < w1.heap.size) (fun b h => h)
 obtain ⟨u0, F0, rfl, o0, q0⟩ := tStore_O ow
 obtain ⟨ua0, uc0, rfl⟩ := slO_len o0
 replace g0 := (b1.block _ (by omega)).trans g0
 replace g1 := (b1.block _ (by omega)).trans g1
 replace g2 := (b1.block _ (by omega)).trans g2
 have zz1 := b1.size
 replace hb := hb.trans (b1.mono (by omega))
 clear b1
 have c2_0 := (cell_of_row w1 _ 0 _ _ _ g2).trans (show _ = some (Value.slice none 0 0) from rfl)
 have f2_0 := frozen_of_row w1 _ 0 _ _ g2
 have c2_1 := (cell_of_row w1 _ 1 _ _ _ g2).trans (show _ = some (Value.int .i64 0) from rfl)
 have f2_1 := frozen_of_row w1 _ 1 _ _ g2
 have c2_2 := (cell_of_row w1 _ 2 _ _ _ g2).trans (show _ = some (Value.int .i64 0) from rfl)
 have f2_2 := frozen_of_row w1 _ 2 _ _ g2
 have ne1 : ¬ w.heap.size = w.heap.size + 1 + 1 := by omega
 have ne2 : ¬ w.heap.size + 1 = w.heap.size + 1 + 1 := by omega
 have ne3 : ¬ w.heap.size + 1 + 1 = w.heap.size + 1 := by omega
 have c0_2 := (cell_of_row w1 _ 2 _ _ _ g0).trans (show _ = some (Value.int .i64 a2) from rfl)
 have c0_3 := (cell_of_row w1 _ 3 _ _ _ g0).trans (show _ = some (v3) from rfl)
 have l0_2 : ((w1.setCell ⟨w.heap.size + 1 + 1, 0, none⟩ (.slice ua0 x0.length uc0)).setCell ⟨w.heap.size + 1 + 1, 1, none⟩ (.int .i64 a1)).cell? ⟨w.heap.size, 2, none⟩ = some (Value.int .i64 a2) := by
  have m : ((w1.setCell ⟨w.heap.size + 1 + 1, 0, none⟩ (.slice ua0 x0.length uc0)).setCell ⟨w.heap.size + 1 + 1, 1, none⟩ (.int .i64 a1)).heap[w.heap.size]? = some (.cells #[v0, .int .i64 a1, .int .i64 a2, v3, v4, v5, v6, .int .i64 a7] 52 (0, 0)) := by
   repeat rw [heap_setCell_other _ _ _ _ (by simp <;> omega)]
   exact g0
  exact (cell_of_row _ _ 2 _ _ _ m).trans rfl
 have l0_3 : (((w1.setCell ⟨w.heap.size + 1 + 1, 0, none⟩ (.slice ua0 x0.length uc0)).setCell ⟨w.heap.size + 1 + 1, 1, none⟩ (.int .i64 a1)).setCell ⟨w.heap.size + 1 + 1, 2, none⟩ (.int .i64 a2)).cell? ⟨w.heap.size, 3, none⟩ = some (v3) := by
  have m : (((w1.setCell ⟨w.heap.size + 1 + 1, 0, none⟩ (.slice ua0 x0.length uc0)).setCell ⟨w.heap.size + 1 + 1, 1, none⟩ (.int .i64 a1)).setCell ⟨w.heap.size + 1 + 1, 2, none⟩ (.int .i64 a2)).heap[w.heap.size]? = some (.cells #[v0, .int .i64 a1, .int .i64 a2, v3, v4, v5, v6, .int .i64 a7] 52 (0, 0)) := by
   repeat rw [heap_setCell_other _ _ _ _ (by simp <;> omega)]
   exact g0
  exact (cell_of_row _ _ 3 _ _ _ m).trans rfl
 go_wp2_with fail
 clear c2_0 f2_0 c2_1 f2_1 c2_2 f2_2 ne1 ne2 ne3 c0_2 c0_3 l0_2 l0_3
 have hw : Turn (fun b => b = w.heap.size + 1 + 1) w1 (((w1.setCell ⟨w.heap.size + 1 + 1, 0, none⟩ (.slice ua0 x0.length uc0)).setCell ⟨w.heap.size + 1 + 1, 1, none⟩ (.int .i64 a1)).setCell ⟨w.heap.size + 1 + 1, 2, none⟩ (.int .i64 a2)) := by
  first | exact ((((Turn.refl (fun b => b = w.heap.size + 1 + 1) _).trans (turn_set (G := fun b => b = w.heap.size + 1 + 1) (g := w.heap.size + 1 + 1) (j := 0) (u := .slice ua0 x0.length uc0) rfl)).trans (turn_set (G := fun b => b = w.heap.size + 1 + 1) (g := w.heap.size + 1 + 1) (j := 1) (u := .int .i64 a1) rfl)).trans (turn_set (G := fun b => b = w.heap.size + 1 + 1) (g := w.heap.size + 1 + 1) (j := 2) (u := .int .i64 a2) rfl)) | skip
 replace g0 := (hw.block _ (by omega) (by omega)).trans g0
 replace g1 := (hw.block _ (by omega) (by omega)).trans g1
 have g2n := (heap_setCell_same _ (w.heap.size + 1 + 1) 2 _ _ (.int .i64 a2) (heap_setCell_same _ (w.heap.size + 1 + 1) 1 _ _ (.int .i64 a1) (heap_setCell_same _ (w.heap.size + 1 + 1) 0 _ _ (.slice ua0 x0.length uc0) g2)))
 replace g2 : (((w1.setCell ⟨w.heap.size + 1 + 1, 0, none⟩ (.slice ua0 x0.length uc0)).setCell ⟨w.heap.size + 1 + 1, 1, none⟩ (.int .i64 a1)).setCell ⟨w.heap.size + 1 + 1, 2, none⟩ (.int .i64 a2)).heap[w.heap.size + 1 + 1]? = some (.cells #[.slice ua0 x0.length uc0, .int .i64 a1, .int .i64 a2, .slice none 0 0, .slice none 0 0, .slice none 0 0, .slice none 0 0, .int .i64 0] 42 (0, 0)) := by simpa using g2n
 clear g2n
 replace o0 := slO_turn tVersionS_law o0 hw (fun b h1 h2 => by first | (have := h1.1; omega) | (have := q0 b h1; omega))
 replace hb := below_turn hb hw (fun b h => by omega) (by omega)
 have hz0 := hw.size
 clear hw
 generalize (((w1.setCell ⟨w.heap.size + 1 + 1, 0, none⟩ (.slice ua0 x0.length uc0)).setCell ⟨w.heap.size + 1 + 1, 1, none⟩ (.int .i64 a1)).setCell ⟨w.heap.size + 1 + 1, 2, none⟩ (.int .i64 a2)) = W1 at *
 refine (toIntS_S v3 x3 W1 (slR_below tInt_law H3.out hb) S3.out).mono ?_
 rintro e w2 ⟨u3, rfl, o3, b1⟩
 obtain ⟨ua3, uc3, rfl⟩ := slO_len o3
 replace o3 := slO_mono (slO_lt tInt_law o3) (F' := fun b => W1.heap.size ≤ b ∧ b < w2.heap.size) (fun b h => h)
 replace g0 := (b1.block _ (by omega)).trans g0
 replace g1 := (b1.block _ (by omega)).trans g1
 replace g2 := (b1.block _ (by omega)).trans g2
 replace o0 := slO_fresh tVersionS_law o0 b1
 have zz2 := b1.size
 replace hb := hb.trans (b1.mono (by omega))
 clear b1
 have c2_0 := (cell_of_row w2 _ 0 _ _ _ g2).trans (show _ = some (Value.slice ua0 x0.length uc0) from rfl)
 have f2_0 := frozen_of_row w2 _ 0 _ _ g2
 have c2_1 := (cell_of_row w2 _ 1 _ _ _ g2).trans (show _ = some (Value.int .i64 a1) from rfl)
 have f2_1 := frozen_of_row w2 _ 1 _ _ g2
 have c2_2 := (cell_of_row w2 _ 2 _ _ _ g2).trans (show _ = some (Value.int .i64 a2) from rfl)
 have f2_2 := frozen_of_row w2 _ 2 _ _ g2
 have c2_3 := (cell_of_row w2 _ 3 _ _ _ g2).trans (show _ = some (Value.slice none 0 0) from rfl)
 have f2_3 := frozen_of_row w2 _ 3 _ _ g2
 have ne1 : ¬ w.heap.size = w.heap.size + 1 + 1 := by omega
 have ne2 : ¬ w.heap.size + 1 = w.heap.size + 1 + 1 := by omega
 have ne3 : ¬ w.heap.size + 1 + 1 = w.heap.size + 1 := by omega
 have c0_4 := (cell_of_row w2 _ 4 _ _ _ g0).trans (show _ = some (v4) from rfl)
 have l0_4 : (w2.setCell ⟨w.heap.size + 1 + 1, 3, none⟩ (.slice ua3 x3.length uc3)).cell? ⟨w.heap.size, 4, none⟩ = some (v4) := by
  have m : (w2.setCell ⟨w.heap.size + 1 + 1, 3, none⟩ (.slice ua3 x3.length uc3)).heap[w.heap.size]? = some (.cells #[v0, .int .i64 a1, .int .i64 a2, v3, v4, v5, v6, .int .i64 a7] 52 (0, 0)) := by
   repeat rw [heap_setCell_other _ _ _ _ (by simp <;> omega)]
   exact g0
  exact (cell_of_row _ _ 4 _ _ _ m).trans rfl
 go_wp2_with fail
 clear c2_0 f2_0 c2_1 f2_1 c2_2 f2_2 c2_3 f2_3 ne1 ne2 ne3 c0_4 l0_4
 have hw : Turn (fun b => b = w.heap.size + 1 + 1) w2 (w2.setCell ⟨w.heap.size + 1 + 1, 3, none⟩ (.slice ua3 x3.length uc3)) := by
  first | exact ((Turn.refl (fun b => b = w.heap.size + 1 + 1) _).trans (turn_set (G := fun b => b = w.heap.size + 1 + 1) (g := w.heap.size + 1 + 1) (j := 3) (u := .slice ua3 x3.length uc3) rfl)) | skip
 replace g0 := (hw.block _ (by omega) (by omega)).trans g0
 replace g1 := (hw.block _ (by omega) (by omega)).trans g1
 have g2n := (heap_setCell_same _ (w.heap.size + 1 + 1) 3 _ _ (.slice ua3 x3.length uc3) g2)
 replace g2 : (w2.setCell ⟨w.heap.size + 1 + 1, 3, none⟩ (.slice ua3 x3.length uc3)).heap[w.heap.size + 1 + 1]? = some (.cells #[.slice ua0 x0.length uc0, .int .i64 a1, .int .i64 a2, .slice ua3 x3.length uc3, .slice none 0 0, .slice none 0 0, .slice none 0 0, .int .i64 0] 42 (0, 0)) := by simpa using g2n
 clear g2n
 replace o0 := slO_turn tVersionS_law o0 hw (fun b h1 h2 => by first | (have := h1.1; omega) | (have := q0 b h1; omega))
 replace o3 := slO_turn tInt_law o3 hw (fun b h1 h2 => by first | (have := h1.1; omega) | (have := q3 b h1; omega))
 replace hb := below_turn hb hw (fun b h => by omega) (by omega)
 have hz1 := hw.size
 clear hw
 generalize (w2.setCell ⟨w.heap.size + 1 + 1, 3, none⟩ (.slice ua3 x3.length uc3)) = W2 at *
 refine (toActiveS_S v4 x4 W2 (slR_below tActive_law H4.out hb) S4.out).mono ?_
 rintro e w3 ⟨u4, rfl, o4, b1⟩
 obtain ⟨ua4, uc4, rfl⟩ := slO_len o4
 replace o4 := slO_mono (slO_lt tActive_law o4) (F' := fun b => W2.heap.size ≤ b ∧ b < w3.heap.size) (fun b h => h)
 replace g0 := (b1.block _ (by omega)).trans g0
 replace g1 := (b1.block _ (by omega)).trans g1
 replace g2 := (b1.block _ (by omega)).trans g2
 replace o0 := slO_fresh tVersionS_law o0 b1
 replace o3 := slO_fresh tInt_law o3 b1
 have zz3 := b1.size
 replace hb := hb.trans (b1.mono (by omega))
 clear b1
 have c2_0 := (cell_of_row w3 _ 0 _ _ _ g2).trans (show _ = some (Value.slice ua0 x0.length uc0) from rfl)
 have f2_0 := frozen_of_row w3 _ 0 _ _ g2
 have c2_1 := (cell_of_row w3 _ 1 _ _ _ g2).trans (show _ = some (Value.int .i64 a1) from rfl)
 have f2_1 := frozen_of_row w3 _ 1 _ _ g2
 have c2_2 := (cell_of_row w3 _ 2 _ _ _ g2).trans (show _ = some (Value.int .i64 a2) from rfl)
 have f2_2 := frozen_of_row w3 _ 2 _ _ g2
 have c2_3 := (cell_of_row w3 _ 3 _ _ _ g2).trans (show _ = some (Value.slice ua3 x3.length uc3) from rfl)
 have f2_3 := frozen_of_row w3 _ 3 _ _ g2
 have c2_4 := (cell_of_row w3 _ 4 _ _ _ g2).trans (show _ = some (Value.slice none 0 0) from rfl)
 have f2_4 := frozen_of_row w3 _ 4 _ _ g2
 have ne1 : ¬ w.heap.size = w.heap.size + 1 + 1 := by omega
 have ne2 : ¬ w.heap.size + 1 = w.heap.size + 1 + 1 := by omega
 have ne3 : ¬ w.heap.size + 1 + 1 = w.heap.size + 1 := by omega
 have c0_5 := (cell_of_row w3 _ 5 _ _ _ g0).trans (show _ = some (v5) from rfl)
 have l0_5 : (w3.setCell ⟨w.heap.size + 1 + 1, 4, none⟩ (.slice ua4 x4.length uc4)).cell? ⟨w.heap.size, 5, none⟩ = some (v5) := by
  have m : (w3.setCell ⟨w.heap.size + 1 + 1, 4, none⟩ (.slice ua4 x4.length uc4)).heap[w.heap.size]? = some (.cells #[v0, .int .i64 a1, .int .i64 a2, v3, v4, v5, v6, .int .i64 a7] 52 (0, 0)) := by
   repeat rw [heap_setCell_other _ _ _ _ (by simp <;> omega)]
   exact g0
  exact (cell_of_row _ _ 5 _ _ _ m).trans rfl
 go_wp2_with fail
 clear c2_0 f2_0 c2_1 f2_1 c2_2 f2_2 c2_3 f2_3 c2_4 f2_4 ne1 ne2 ne3 c0_5 l0_5
 have hw : Turn (fun b => b = w.heap.size + 1 + 1) w3 (w3.setCell ⟨w.heap.size + 1 + 1, 4, none⟩ (.slice ua4 x4.length uc4)) := by
  first | exact ((Turn.refl (fun b => b = w.heap.size + 1 + 1) _).trans (turn_set (G := fun b => b = w.heap.size + 1 + 1) (g := w.heap.size + 1 + 1) (j := 4) (u := .slice ua4 x4.length uc4) rfl)) | skip
 replace g0 := (hw.block _ (by omega) (by omega)).trans g0
 replace g1 := (hw.block _ (by omega) (by omega)).trans g1
 have g2n := (heap_setCell_same _ (w.heap.size + 1 + 1) 4 _ _ (.slice ua4 x4.length uc4) g2)
 replace g2 : (w3.setCell ⟨w.heap.size + 1 + 1, 4, none⟩ (.slice ua4 x4.length uc4)).heap[w.heap.size + 1 + 1]? = some (.cells #[.slice ua0 x0.length uc0, .int .i64 a1, .int .i64 a2, .slice ua3 x3.length uc3, .slice ua4 x4.length uc4, .slice none 0 0, .slice none 0 0, .int .i64 0] 42 (0, 0)) := by simpa using g2n
 clear g2n
 replace o0 := slO_turn tVersionS_law o0 hw (fun b h1 h2 => by first | (have := h1.1; omega) | (have := q0 b h1; omega))
 replace o3 := slO_turn tInt_law o3 hw (fun b h1 h2 => by first | (have := h1.1; omega) | (have := q3 b h1; omega))
 replace o4 := slO_turn tActive_law o4 hw (fun b h1 h2 => by first | (have := h1.1; omega) | (have := q4 b h1; omega))
 replace hb := below_turn hb hw (fun b h => by omega) (by omega)
 have hz2 := hw.size
 clear hw
 generalize (w3.setCell ⟨w.heap.size + 1 + 1, 4, none⟩ (.slice ua4 x4.length uc4)) = W3 at *
 refine (toFinishedS_S v5 x5 W3 (slR_below tFinished_law H5.out hb) S5.out).mono ?_
 rintro e w4 ⟨u5, rfl, o5, b1⟩
 obtain ⟨ua5, uc5, rfl⟩ := slO_len o5
 replace o5 := slO_mono (slO_lt tFinished_law o5) (F' := fun b => W3.heap.size ≤ b ∧ b < w4.heap.size) (fun b h => h)
 replace g0 := (b1.block _ (by omega)).trans g0
 replace g1 := (b1.block _ (by omega)).trans g1
 replace g2 := (b1.block _ (by omega)).trans g2
 replace o0 := slO_fresh tVersionS_law o0 b1
 replace o3 := slO_fresh tInt_law o3 b1
 replace o4 := slO_fresh tActive_law o4 b1
 have zz4 := b1.size
 replace hb := hb.trans (b1.mono (by omega))
 clear b1
 have c2_0 := (cell_of_row w4 _ 0 _ _ _ g2).trans (show _ = some (Value.slice ua0 x0.length uc0) from rfl)
 have f2_0 := frozen_of_row w4 _ 0 _ _ g2
 have c2_1 := (cell_of_row w4 _ 1 _ _ _ g2).trans (show _ = some (Value.int .i64 a1) from rfl)
 have f2_1 := frozen_of_row w4 _ 1 _ _ g2
 have c2_2 := (cell_of_row w4 _ 2 _ _ _ g2).trans (show _ = some (Value.int .i64 a2) from rfl)
 have f2_2 := frozen_of_row w4 _ 2 _ _ g2
 have c2_3 := (cell_of_row w4 _ 3 _ _ _ g2).trans (show _ = some (Value.slice ua3 x3.length uc3) from rfl)
 have f2_3 := frozen_of_row w4 _ 3 _ _ g2
 have c2_4 := (cell_of_row w4 _ 4 _ _ _ g2).trans (show _ = some (Value.slice ua4 x4.length uc4) from rfl)
 have f2_4 := frozen_of_row w4 _ 4 _ _ g2
 have c2_5 := (cell_of_row w4 _ 5 _ _ _ g2).trans (show _ = some (Value.slice none 0 0) from rfl)
 have f2_5 := frozen_of_row w4 _ 5 _ _ g2
 have ne1 : ¬ w.heap.size = w.heap.size + 1 + 1 := by omega
 have ne2 : ¬ w.heap.size + 1 = w.heap.size + 1 + 1 := by omega
 have ne3 : ¬ w.heap.size + 1 + 1 = w.heap.size + 1 := by omega
 have c0_6 := (cell_of_row w4 _ 6 _ _ _ g0).trans (show _ = some (v6) from rfl)
 have l0_6 : (w4.setCell ⟨w.heap.size + 1 + 1, 5, none⟩ (.slice ua5 x5.length uc5)).cell? ⟨w.heap.size, 6, none⟩ = some (v6) := by
  have m : (w4.setCell ⟨w.heap.size + 1 + 1, 5, none⟩ (.slice ua5 x5.length uc5)).heap[w.heap.size]? = some (.cells #[v0, .int .i64 a1, .int .i64 a2, v3, v4, v5, v6, .int .i64 a7] 52 (0, 0)) := by
   repeat rw [heap_setCell_other _ _ _ _ (by simp <;> omega)]
   exact g0
  exact (cell_of_row _ _ 6 _ _ _ m).trans rfl
 go_wp2_with fail
 clear c2_0 f2_0 c2_1 f2_1 c2_2 f2_2 c2_3 f2_3 c2_4 f2_4 c2_5 f2_5 ne1 ne2 ne3 c0_6 l0_6
 have hw : Turn (fun b => b = w.heap.size + 1 + 1) w4 (w4.setCell ⟨w.heap.size + 1 + 1, 5, none⟩ (.slice ua5 x5.length uc5)) := by
  first | exact ((Turn.refl (fun b => b = w.heap.size + 1 + 1) _).trans (turn_set (G := fun b => b = w.heap.size + 1 + 1) (g := w.heap.size + 1 + 1) (j := 5) (u := .slice ua5 x5.length uc5) rfl)) | skip
 replace g0 := (hw.block _ (by omega) (by omega)).trans g0
 replace g1 := (hw.block _ (by omega) (by omega)).trans g1
 have g2n := (heap_setCell_same _ (w.heap.size + 1 + 1) 5 _ _ (.slice ua5 x5.length uc5) g2)
 replace g2 : (w4.setCell ⟨w.heap.size + 1 + 1, 5, none⟩ (.slice ua5 x5.length uc5)).heap[w.heap.size + 1 + 1]? = some (.cells #[.slice ua0 x0.length uc0, .int .i64 a1, .int .i64 a2, .slice ua3 x3.length uc3, .slice ua4 x4.length uc4, .slice ua5 x5.length uc5, .slice none 0 0, .int .i64 0] 42 (0, 0)) := by simpa using g2n
 clear g2n
 replace o0 := slO_turn tVersionS_law o0 hw (fun b h1 h2 => by first | (have := h1.1; omega) | (have := q0 b h1; omega))
 replace o3 := slO_turn tInt_law o3 hw (fun b h1 h2 => by first | (have := h1.1; omega) | (have := q3 b h1; omega))
 replace o4 := slO_turn tActive_law o4 hw (fun b h1 h2 => by first | (have := h1.1; omega) | (have := q4 b h1; omega))
 replace o5 := slO_turn tFinished_law o5 hw (fun b h1 h2 => by first | (have := h1.1; omega) | (have := q5 b h1; omega))
 replace hb := below_turn hb hw (fun b h => by omega) (by omega)
 have hz3 := hw.size
 clear hw
 generalize (w4.setCell ⟨w.heap.size + 1 + 1, 5, none⟩ (.slice ua5 x5.length uc5)) = W4 at *
 refine (toChargeS_S v6 x6 W4 (slR_below tCharge_law H6.out hb) S6.out).mono ?_
 rintro e w5 ⟨u6, rfl, o6, b1⟩
 obtain ⟨ua6, uc6, rfl⟩ := slO_len o6
 replace o6 := slO_mono (slO_lt tCharge_law o6) (F' := fun b => W4.heap.size ≤ b ∧ b < w5.heap.size) (fun b h => h)
 replace g0 := (b1.block _ (by omega)).trans g0
 replace g1 := (b1.block _ (by omega)).trans g1
 replace g2 := (b1.block _ (by omega)).trans g2
 replace o0 := slO_fresh tVersionS_law o0 b1
 replace o3 := slO_fresh tInt_law o3 b1
 replace o4 := slO_fresh tActive_law o4 b1
 replace o5 := slO_fresh tFinished_law o5 b1
 have zz5 := b1.size
 replace hb := hb.trans (b1.mono (by omega))
 clear b1
 have c2_0 := (cell_of_row w5 _ 0 _ _ _ g2).trans (show _ = some (Value.slice ua0 x0.length uc0) from rfl)
 have f2_0 := frozen_of_row w5 _ 0 _ _ g2
 have c2_1 := (cell_of_row w5 _ 1 _ _ _ g2).trans (show _ = some (Value.int .i64 a1) from rfl)
 have f2_1 := frozen_of_row w5 _ 1 _ _ g2
 have c2_2 := (cell_of_row w5 _ 2 _ _ _ g2).trans (show _ = some (Value.int .i64 a2) from rfl)
 have f2_2 := frozen_of_row w5 _ 2 _ _ g2
 have c2_3 := (cell_of_row w5 _ 3 _ _ _ g2).trans (show _ = some (Value.slice ua3 x3.length uc3) from rfl)
 have f2_3 := frozen_of_row w5 _ 3 _ _ g2
 have c2_4 := (cell_of_row w5 _ 4 _ _ _ g2).trans (show _ = some (Value.slice ua4 x4.length uc4) from rfl)
 have f2_4 := frozen_of_row w5 _ 4 _ _ g2
 have c2_5 := (cell_of_row w5 _ 5 _ _ _ g2).trans (show _ = some (Value.slice ua5 x5.length uc5) from rfl)
 have f2_5 := frozen_of_row w5 _ 5 _ _ g2
 have c2_6 := (cell_of_row w5 _ 6 _ _ _ g2).trans (show _ = some (Value.slice none 0 0) from rfl)
 have f2_6 := frozen_of_row w5 _ 6 _ _ g2
 have c2_7 := (cell_of_row w5 _ 7 _ _ _ g2).trans (show _ = some (Value.int .i64 0) from rfl)
 have f2_7 := frozen_of_row w5 _ 7 _ _ g2
 have ne1 : ¬ w.heap.size = w.heap.size + 1 + 1 := by omega
 have ne2 : ¬ w.heap.size + 1 = w.heap.size + 1 + 1 := by omega
 have ne3 : ¬ w.heap.size + 1 + 1 = w.heap.size + 1 := by omega
 have c0_7 := (cell_of_row w5 _ 7 _ _ _ g0).trans (show _ = some (Value.int .i64 a7) from rfl)
 have c1_0 := (cell_of_row w5 _ 0 _ _ _ g1).trans (show _ = some (Value.slice none 0 0) from rfl)
 have f1_0 := frozen_of_row w5 _ 0 _ _ g1
 have c1_1 := (cell_of_row w5 _ 1 _ _ _ g1).trans (show _ = some (Value.int .i64 0) from rfl)
 have f1_1 := frozen_of_row w5 _ 1 _ _ g1
 have c1_2 := (cell_of_row w5 _ 2 _ _ _ g1).trans (show _ = some (Value.int .i64 0) from rfl)
 have f1_2 := frozen_of_row w5 _ 2 _ _ g1
 have c1_3 := (cell_of_row w5 _ 3 _ _ _ g1).trans (show _ = some (Value.slice none 0 0) from rfl)
 have f1_3 := frozen_of_row w5 _ 3 _ _ g1
 have c1_4 := (cell_of_row w5 _ 4 _ _ _ g1).trans (show _ = some (Value.slice none 0 0) from rfl)
 have f1_4 := frozen_of_row w5 _ 4 _ _ g1
 have c1_5 := (cell_of_row w5 _ 5 _ _ _ g1).trans (show _ = some (Value.slice none 0 0) from rfl)
 have f1_5 := frozen_of_row w5 _ 5 _ _ g1
 have c1_6 := (cell_of_row w5 _ 6 _ _ _ g1).trans (show _ = some (Value.slice none 0 0) from rfl)
 have f1_6 := frozen_of_row w5 _ 6 _ _ g1
 have c1_7 := (cell_of_row w5 _ 7 _ _ _ g1).trans (show _ = some (Value.int .i64 0) from rfl)
 have f1_7 := frozen_of_row w5 _ 7 _ _ g1
 have l0_7 : (w5.setCell ⟨w.heap.size + 1 + 1, 6, none⟩ (.slice ua6 x6.length uc6)).cell? ⟨w.heap.size, 7, none⟩ = some (Value.int .i64 a7) := by
  have m : (w5.setCell ⟨w.heap.size + 1 + 1, 6, none⟩ (.slice ua6 x6.length uc6)).heap[w.heap.size]? = some (.cells #[v0, .int .i64 a1, .int .i64 a2, v3, v4, v5, v6, .int .i64 a7] 52 (0, 0)) := by
   repeat rw [heap_setCell_other _ _ _ _ (by simp <;> omega)]
   exact g0
  exact (cell_of_row _ _ 7 _ _ _ m).trans rfl
 go_wp2
 clear c2_0 f2_0 c2_1 f2_1 c2_2 f2_2 c2_3 f2_3 c2_4 f2_4 c2_5 f2_5 c2_6 f2_6 c2_7 f2_7 ne1 ne2 ne3 c0_7 c1_0 f1_0 c1_1 f1_1 c1_2 f1_2 c1_3 f1_3 c1_4 f1_4 c1_5 f1_5 c1_6 f1_6 c1_7 f1_7 l0_7
 have hw : Turn (fun b => b = w.heap.size + 1 ∨ b = w.heap.size + 1 + 1) w5 ((((((((((w5.setCell ⟨w.heap.size + 1 + 1, 6, none⟩ (.slice ua6 x6.length uc6)).setCell ⟨w.heap.size + 1 + 1, 7, none⟩ (.int .i64 a7)).setCell ⟨w.heap.size + 1, 0, none⟩ (.slice ua0 x0.length uc0)).setCell ⟨w.heap.size + 1, 1, none⟩ (.int .i64 a1)).setCell ⟨w.heap.size + 1, 2, none⟩ (.int .i64 a2)).setCell ⟨w.heap.size + 1, 3, none⟩ (.slice ua3 x3.length uc3)).setCell ⟨w.heap.size + 1, 4, none⟩ (.slice ua4 x4.length uc4)).setCell ⟨w.heap.size + 1, 5, none⟩ (.slice ua5 x5.length uc5)).setCell ⟨w.heap.size + 1, 6, none⟩ (.slice ua6 x6.length uc6)).setCell ⟨w.heap.size + 1, 7, none⟩ (.int .i64 a7)) := by
  first | exact (((((((((((Turn.refl _ _).trans (turn_set (g := w.heap.size + 1 + 1) (j := 6) (u := .slice ua6 x6.length uc6) (Or.inr rfl))).trans (turn_set (g := w.heap.size + 1 + 1) (j := 7) (u := .int .i64 a7) (Or.inr rfl))).trans (turn_set (g := w.heap.size + 1) (j := 0) (u := .slice ua0 x0.length uc0) (Or.inl rfl))).trans (turn_set (g := w.heap.size + 1) (j := 1) (u := .int .i64 a1) (Or.inl rfl))).trans (turn_set (g := w.heap.size + 1) (j := 2) (u := .int .i64 a2) (Or.inl rfl))).trans (turn_set (g := w.heap.size + 1) (j := 3) (u := .slice ua3 x3.length uc3) (Or.inl rfl))).trans (turn_set (g := w.heap.size + 1) (j := 4) (u := .slice ua4 x4.length uc4) (Or.inl rfl))).trans (turn_set (g := w.heap.size + 1) (j := 5) (u := .slice ua5 x5.length uc5) (Or.inl rfl))).trans (turn_set (g := w.heap.size + 1) (j := 6) (u := .slice ua6 x6.length uc6) (Or.inl rfl))).trans (turn_set (g := w.heap.size + 1) (j := 7) (u := .int .i64 a7) (Or.inl rfl))) | skip
 have r := (heap_setCell_same _ (w.heap.size + 1) 7 _ _ (.int .i64 a7) (heap_setCell_same _ (w.heap.size + 1) 6 _ _ (.slice ua6 x6.length uc6) (heap_setCell_same _ (w.heap.size + 1) 5 _ _ (.slice ua5 x5.length uc5) (heap_setCell_same _ (w.heap.size + 1) 4 _ _ (.slice ua4 x4.length uc4) (heap_setCell_same _ (w.heap.size + 1) 3 _ _ (.slice ua3 x3.length uc3) (heap_setCell_same _ (w.heap.size + 1) 2 _ _ (.int .i64 a2) (heap_setCell_same _ (w.heap.size + 1) 1 _ _ (.int .i64 a1) (heap_setCell_same _ (w.heap.size + 1) 0 _ _ (.slice ua0 x0.length uc0) ((heap_setCell_other _ ⟨w.heap.size + 1 + 1, 7, none⟩ (w.heap.size + 1) (.int .i64 a7) (by simp)).trans ((heap_setCell_other _ ⟨w.heap.size + 1 + 1, 6, none⟩ (w.heap.size + 1) (.slice ua6 x6.length uc6) (by simp)).trans g1))))))))))
 have e0 := cell_of_row _ _ 0 _ _ _ r
 have e1 := cell_of_row _ _ 1 _ _ _ r
 have e2 := cell_of_row _ _ 2 _ _ _ r
 have e3 := cell_of_row _ _ 3 _ _ _ r
 have e4 := cell_of_row _ _ 4 _ _ _ r
 have e5 := cell_of_row _ _ 5 _ _ _ r
 have e6 := cell_of_row _ _ 6 _ _ _ r
 have e7 := cell_of_row _ _ 7 _ _ _ r
 simp at e0 e1 e2 e3 e4 e5 e6 e7
 replace o0 := slO_turn tVersionS_law o0 hw (fun b h1 h2 => by first | (have := h1.1; omega) | (have := q0 b h1; omega))
 replace o3 := slO_turn tInt_law o3 hw (fun b h1 h2 => by first | (have := h1.1; omega) | (have := q3 b h1; omega))
 replace o4 := slO_turn tActive_law o4 hw (fun b h1 h2 => by first | (have := h1.1; omega) | (have := q4 b h1; omega))
 replace o5 := slO_turn tFinished_law o5 hw (fun b h1 h2 => by first | (have := h1.1; omega) | (have := q5 b h1; omega))
 replace o6 := slO_turn tCharge_law o6 hw (fun b h1 h2 => by first | (have := h1.1; omega) | (have := q6 b h1; omega))
 replace hb := below_turn hb hw (fun b h => by omega) (by omega)
 refine bodyPost_ret (v := .agg #[.slice ua0 x0.length uc0, .int .i64 a1, .int .i64 a2, .slice ua3 x3.length uc3, .slice ua4 x4.length uc4, .slice ua5 x5.length uc5, .slice ua6 x6.length uc6, .int .i64 a7]) ?_ rfl ?_
 ·
  simp [results, Try.f23, go_sem, e0, e1, e2, e3, e4, e5, e6, e7]
 ·
  exact ⟨[.slice ua0 x0.length uc0, .int .i64 a1, .int .i64 a2, .slice ua3 x3.length uc3, .slice ua4 x4.length uc4, .slice ua5 x5.length uc5, .slice ua6 x6.length uc6, .int .i64 a7], rfl, tEngine_mkO o0 o3 o4 o5 o6 (fun b h => by show w.heap.size ≤ b; first | (have := h.1; omega) | (have := q0 b h; omega)) (fun b h => by show w.heap.size ≤ b; first | (have := h.1; omega) | (have := q3 b h; omega)) (fun b h => by show w.heap.size ≤ b; first | (have := h.1; omega) | (have := q4 b h; omega)) (fun b h => by show w.heap.size ≤ b; first | (have := h.1; omega) | (have := q5 b h; omega)) (fun b h => by show w.heap.size ≤ b; first | (have := h.1; omega) | (have := q6 b h; omega)) (fun b h1 h2 => by first | exact d0_3 b h1 h2 | (have := h1.1; have := h1.2; have := h2.1; have := h2.2; omega) | (have := q0 b h1; have := h2.1; have := h2.2; omega) | (have := h1.1; have := h1.2; have := q3 b h2; omega) | (have := q0 b h1; have := q3 b h2; omega)) (fun b h1 h2 => by first | exact d0_4 b h1 h2 | (have := h1.1; have := h1.2; have := h2.1; have := h2.2; omega) | (have := q0 b h1; have := h2.1; have := h2.2; omega) | (have := h1.1; have := h1.2; have := q4 b h2; omega) | (have := q0 b h1; have := q4 b h2; omega)) (fun b h1 h2 => by first | exact d0_5 b h1 h2 | (have := h1.1; have := h1.2; have := h2.1; have := h2.2; omega) | (have := q0 b h1; have := h2.1; have := h2.2; omega) | (have := h1.1; have := h1.2; have := q5 b h2; omega) | (have := q0 b h1; have := q5 b h2; omega)) (fun b h1 h2 => by first | exact d0_6 b h1 h2 | (have := h1.1; have := h1.2; have := h2.1; have := h2.2; omega) | (have := q0 b h1; have := h2.1; have := h2.2; omega) | (have := h1.1; have := h1.2; have := q6 b h2; omega) | (have := q0 b h1; have := q6 b h2; omega)) (fun b h1 h2 => by first | exact d3_4 b h1 h2 | (have := h1.1; have := h1.2; have := h2.1; have := h2.2; omega) | (have := q3 b h1; have := h2.1; have := h2.2; omega) | (have := h1.1; have := h1.2; have := q4 b h2; omega) | (have := q3 b h1; have := q4 b h2; omega)) (fun b h1 h2 => by first | exact d3_5 b h1 h2 | (have := h1.1; have := h1.2; have := h2.1; have := h2.2; omega) | (have := q3 b h1; have := h2.1; have := h2.2; omega) | (have := h1.1; have := h1.2; have := q5 b h2; omega) | (have := q3 b h1; have := q5 b h2; omega)) (fun b h1 h2 => by first | exact d3_6 b h1 h2 | (have := h1.1; have := h1.2; have := h2.1; have := h2.2; omega) | (have := q3 b h1; have := h2.1; have := h2.2; omega) | (have := h1.1; have := h1.2; have := q6 b h2; omega) | (have := q3 b h1; have := q6 b h2; omega)) (fun b h1 h2 => by first | exact d4_5 b h1 h2 | (have := h1.1; have := h1.2; have := h2.1; have := h2.2; omega) | (have := q4 b h1; have := h2.1; have := h2.2; omega) | (have := h1.1; have := h1.2; have := q5 b h2; omega) | (have := q4 b h1; have := q5 b h2; omega)) (fun b h1 h2 => by first | exact d4_6 b h1 h2 | (have := h1.1; have := h1.2; have := h2.1; have := h2.2; omega) | (have := q4 b h1; have := h2.1; have := h2.2; omega) | (have := h1.1; have := h1.2; have := q6 b h2; omega) | (have := q4 b h1; have := q6 b h2; omega)) (fun b h1 h2 => by first | exact d5_6 b h1 h2 | (have := h1.1; have := h1.2; have := h2.1; have := h2.2; omega) | (have := q5 b h1; have := h2.1; have := h2.2; omega) | (have := h1.1; have := h1.2; have := q6 b h2; omega) | (have := q5 b h1; have := q6 b h2; omega)), hb⟩
set_option maxHeartbeats 8000000 in
set_option maxRecDepth 100000 in
theorem eqEngine_T (a1 a2 a7 : Int) (v0 v3 v4 v5 v6 : Value) (x0 : List (List (Int × List Int × Int × Int))) (x3 : List Int) (x4 : List ((Int × Int × List (Int × Int × Int) × List Int) × Int × List Int × Int × Int × Int × List (Int × List Int))) (x5 : List ((Int × Int × List (Int × Int × Int) × List Int) × Int × Int × List (Int × List Int))) (x6 : List (Int × Int × List Int × List Int × List Int)) (u0 u3 u4 u5 u6 : Value) (w : World) (h0 : SlR tVersionS w v0 x0) (h3 : SlR tInt w v3 x3) (h4 : SlR tActive w v4 x4) (h5 : SlR tFinished w v5 x5) (h6 : SlR tCharge w v6 x6) (g0 : SlR tVersionS w u0 x0) (g3 : SlR tInt w u3 x3) (g4 : SlR tActive w u4 x4) (g5 : SlR tFinished w u5 x5) (g6 : SlR tCharge w u6 x6) (s0 : zL tVersionS x0 ≤ 1048576) (s3 : zL tInt x3 ≤ 1048576) (s4 : zL tActive x4 ≤ 1048576) (s5 : zL tFinished x5 ≤ 1048576) (s6 : zL tCharge x6 ≤ 1048576) :
  Calls Try.prog 18 #[.agg #[v0, .int .i64 a1, .int .i64 a2, v3, v4, v5, v6, .int .i64 a7], .agg #[u0, .int .i64 a1, .int .i64 a2, u3, u4, u5, u6, .int .i64 a7]] w fun e w' => e = .returned (.bool true) ∧ Below w.heap.size w w' := by
 have H0 := Lib.hid h0; have G0 := Lib.hid g0; have S0 := Lib.hid s0
 have H3 := Lib.hid h3; have G3 := Lib.hid g3; have S3 := Lib.hid s3
 have H4 := Lib.hid h4; have G4 := Lib.hid g4; have S4 := Lib.hid s4
 have H5 := Lib.hid h5; have G5 := Lib.hid g5; have S5 := Lib.hid s5
 have H6 := Lib.hid h6; have G6 := Lib.hid g6; have S6 := Lib.hid s6
 clear h0 g0 s0 h3 g3 s3 h4 g4 s4 h5 g5 s5 h6 g6 s6
 have e1 : (a1 != a1) = false := by simp
 have e2 : (a2 != a2) = false := by simp
 have e7 : (a7 != a7) = false := by simp
 go_enter Try.func18, Try.ntmps18
 go_wp2_with fail
 have hb : Below w.heap.size w ((w.alloc (.cells #[v0, .int .i64 a1, .int .i64 a2, v3, v4, v5, v6, .int .i64 a7] 42)).alloc (.cells #[u0, .int .i64 a1, .int .i64 a2, u3, u4, u5, u6, .int .i64 a7] 42)) := ((Below.refl _ w).alloc (Nat.le_refl _) _).alloc (by simp) _
 have g1 : ((w.alloc (.cells #[v0, .int .i64 a1, .int .i64 a2, v3, v4, v5, v6, .int .i64 a7] 42)).alloc (.cells #[u0, .int .i64 a1, .int .i64 a2, u3, u4, u5, u6, .int .i64 a7] 42)).heap[w.heap.size + 1]? = some (.cells #[u0, .int .i64 a1, .int .i64 a2, u3, u4, u5, u6, .int .i64 a7] 42 (0, 0)) := by
  have := heap_alloc_new (w.alloc (.cells #[v0, .int .i64 a1, .int .i64 a2, v3, v4, v5, v6, .int .i64 a7] 42)) (.cells #[u0, .int .i64 a1, .int .i64 a2, u3, u4, u5, u6, .int .i64 a7] 42)
  simpa only [World.size_alloc] using this
 have g0 : ((w.alloc (.cells #[v0, .int .i64 a1, .int .i64 a2, v3, v4, v5, v6, .int .i64 a7] 42)).alloc (.cells #[u0, .int .i64 a1, .int .i64 a2, u3, u4, u5, u6, .int .i64 a7] 42)).heap[w.heap.size]? = some (.cells #[v0, .int .i64 a1, .int .i64 a2, v3, v4, v5, v6, .int .i64 a7] 42 (0, 0)) := by
  rw [Below.heap_alloc _ _ _ (by simp)]
  exact heap_alloc_new w _
 have hz : w.heap.size + 1 < ((w.alloc (.cells #[v0, .int .i64 a1, .int .i64 a2, v3, v4, v5, v6, .int .i64 a7] 42)).alloc (.cells #[u0, .int .i64 a1, .int .i64 a2, u3, u4, u5, u6, .int .i64 a7] 42)).heap.size := by simp [World.size_alloc]
 generalize ((w.alloc (.cells #[v0, .int .i64 a1, .int .i64 a2, v3, v4, v5, v6, .int .i64 a7] 42)).alloc (.cells #[u0, .int .i64 a1, .int .i64 a2, u3, u4, u5, u6, .int .i64 a7] 42)) = W at *
 refine (eqStore_T a1 v0 x0 u0 W (slR_below tVersionS_law H0.out hb) (slR_below tVersionS_law G0.out hb) S0.out).mono ?_
 rintro e w1 ⟨rfl, b1⟩
 replace g0 := (b1.block _ (by omega)).trans g0
 replace g1 := (b1.block _ (by omega)).trans g1
 have zz0 := b1.size
 replace hb := hb.trans (b1.mono (by omega))
 clear b1
 have p0_2 := (cell_of_row w1 _ 2 _ _ _ g0).trans (show _ = some (Value.int .i64 a2) from rfl)
 have p1_2 := (cell_of_row w1 _ 2 _ _ _ g1).trans (show _ = some (Value.int .i64 a2) from rfl)
 have p0_3 := (cell_of_row w1 _ 3 _ _ _ g0).trans (show _ = some (v3) from rfl)
 have p1_3 := (cell_of_row w1 _ 3 _ _ _ g1).trans (show _ = some (u3) from rfl)
 go_wp2_with fail
 clear p0_2 p1_2 p0_3 p1_3
 refine (eqIntS_S v3 u3 x3 w1 (slR_below tInt_law H3.out hb) (slR_below tInt_law G3.out hb) S3.out).mono ?_
 rintro e w2 ⟨rfl, b1⟩
 replace g0 := (b1.block _ (by omega)).trans g0
 replace g1 := (b1.block _ (by omega)).trans g1
 have zz1 := b1.size
 replace hb := hb.trans (b1.mono (by omega))
 clear b1
 have p0_4 := (cell_of_row w2 _ 4 _ _ _ g0).trans (show _ = some (v4) from rfl)
 have p1_4 := (cell_of_row w2 _ 4 _ _ _ g1).trans (show _ = some (u4) from rfl)
 go_wp2_with fail
 clear p0_4 p1_4
 refine (eqActiveS_S v4 u4 x4 w2 (slR_below tActive_law H4.out hb) (slR_below tActive_law G4.out hb) S4.out).mono ?_
 rintro e w3 ⟨rfl, b1⟩
 replace g0 := (b1.block _ (by omega)).trans g0
 replace g1 := (b1.block _ (by omega)).trans g1
 have zz2 := b1.size
 replace hb := hb.trans (b1.mono (by omega))
 clear b1
 have p0_5 := (cell_of_row w3 _ 5 _ _ _ g0).trans (show _ = some (v5) from rfl)
 have p1_5 := (cell_of_row w3 _ 5 _ _ _ g1).trans (show _ = some (u5) from rfl)
 go_wp2_with fail
 clear p0_5 p1_5
 refine (eqFinishedS_S v5 u5 x5 w3 (slR_below tFinished_law H5.out hb) (slR_below tFinished_law G5.out hb) S5.out).mono ?_
 rintro e w4 ⟨rfl, b1⟩
 replace g0 := (b1.block _ (by omega)).trans g0
 replace g1 := (b1.block _ (by omega)).trans g1
 have zz3 := b1.size
 replace hb := hb.trans (b1.mono (by omega))
 clear b1
 have p0_6 := (cell_of_row w4 _ 6 _ _ _ g0).trans (show _ = some (v6) from rfl)
 have p1_6 := (cell_of_row w4 _ 6 _ _ _ g1).trans (show _ = some (u6) from rfl)
 go_wp2_with fail
 clear p0_6 p1_6
 refine (eqChargeS_S v6 u6 x6 w4 (slR_below tCharge_law H6.out hb) (slR_below tCharge_law G6.out hb) S6.out).mono ?_
 rintro e w5 ⟨rfl, b1⟩
 replace g0 := (b1.block _ (by omega)).trans g0
 replace g1 := (b1.block _ (by omega)).trans g1
 have zz4 := b1.size
 replace hb := hb.trans (b1.mono (by omega))
 clear b1
 have p0_7 := (cell_of_row w5 _ 7 _ _ _ g0).trans (show _ = some (Value.int .i64 a7) from rfl)
 have p1_7 := (cell_of_row w5 _ 7 _ _ _ g1).trans (show _ = some (Value.int .i64 a7) from rfl)
 go_wp2
 clear p0_7 p1_7
 go_ret
 exact ⟨rfl, hb⟩
end Go.Proofs.Ytdhglmoanpkeoaa
namespace Go.Proofs.Ytdhglmoanpkeoaa
open Go.RowKit
set_option linter.unusedVariables false
set_option linter.unusedSimpArgs false
set_option maxHeartbeats 2000000 in
set_option maxRecDepth 100000 in
theorem equalInts_any (v u : Value) (xs ys : List Int) (w : World) (h : Ints w v xs) (g : Ints w u ys) (hn : xs.length ≤ 1048576) (hm : ys.length ≤ 1048576) :
  Calls Try.prog 71 #[v, u] w fun e w' => e = .returned (.bool (decide (xs = ys))) ∧ Below w.heap.size w w' := by
 have H := Lib.hid h
 have G := Lib.hid g
 obtain ⟨a, cap, rfl⟩ := ints_len h
 obtain ⟨a2, cap2, rfl⟩ := ints_len g
 clear h g
 by_cases hl : xs.length = ys.length
 ·
  have HL := Lib.hid hl
  have hne : ((xs.length : Int) != (ys.length : Int)) = false := by rw [hl]; simp
  clear hl
  go_enter Try.func71, Try.ntmps71
  go_wp2
  clear hne
  go_loopw [13] (fun i wr => ∃ k : Nat, k ≤ xs.length ∧ i = .int .i64 k ∧ Hid (∀ j, j < k → xs.getD j 0 = ys.getD j 0) ∧ Below w.heap.size w wr) (fun i _ => xs.length - (intOf i).toNat)
  case atStart => exact ⟨0, Nat.zero_le _, rfl, Lib.hid (fun j hj => by omega), Below.refl _ _⟩
  case round =>
   obtain ⟨k, hk, rfl, hall, hbel⟩ := hrel
   by_cases hlt : k < xs.length
   ·
    obtain ⟨b, off, cap', hv, hbl, hc⟩ := ints_cell H.out (by omega)
    simp only [Value.slice.injEq] at hv
    obtain ⟨rfl, _, rfl⟩ := hv
    obtain ⟨b2, off2, cap2', hv2, hbl2, hc2⟩ := ints_cell G.out (by have := HL.out; omega)
    simp only [Value.slice.injEq] at hv2
    obtain ⟨rfl, _, rfl⟩ := hv2
    have hcell := (hbel.cell (p := ⟨b, off + k, none⟩) hbl).trans (hc k hlt)
    have hcell2 := (hbel.cell (p := ⟨b2, off2 + k, none⟩) hbl2).trans (hc2 k (by have := HL.out; omega))
    have i1 : (0 : Int) ≤ (k : Int) := by omega
    have i2 : (k : Int) < (xs.length : Int) := by omega
    have i3 : (k : Int) < (ys.length : Int) := by have := HL.out; omega
    clear hc hc2
    by_cases he : xs.getD k 0 = ys.getD k 0
    ·
     have HA : Hid (∀ j, j < k + 1 → xs.getD j 0 = ys.getD j 0) := Lib.hid (fun j hj => by
      by_cases e : j = k
      ·
       exact e ▸ he
      ·
       exact hall.out j (by omega))
     rw [← he] at hcell2
     clear he hall
     generalize xs.getD k 0 = y at hcell hcell2
     go_wp2
     go_quiet (fail)
     go_wp2
     go_roundw
     case rel => exact ⟨k + 1, by omega, by go_num, HA, below_dn hbel _⟩
     case measure => simp [intOf]; omega
    ·
     have HF := Lib.hid (decide_eq_false (list_ne_at hlt he))
     have heq : (xs.getD k 0 != ys.getD k 0) = true := by rw [bne_iff_ne]; exact he
     clear he hall
     generalize xs.getD k 0 = y at hcell heq
     generalize ys.getD k 0 = z at hcell2 heq
     go_wp2
     go_quiet (fail)
     go_wp2
     go_ret
     exact ⟨ret_b HF.out.symm, below_dn hbel _⟩
   ·
    obtain rfl : k = xs.length := by omega
    have HT := Lib.hid (decide_eq_true (list_eq_all HL.out hall.out))
    clear hall
    go_wp2
    go_ret
    exact ⟨ret_b HT.out.symm, hbel⟩
 ·
  have HF := Lib.hid (decide_eq_false (show ¬ xs = ys from fun e => hl (by rw [e])))
  have hne : ((xs.length : Int) != (ys.length : Int)) = true := by rw [bne_iff_ne]; omega
  clear hl
  go_enter Try.func71, Try.ntmps71
  go_wp2
  go_ret
  exact ⟨ret_b HF.out.symm, Below.refl _ _⟩
end Go.Proofs.Ytdhglmoanpkeoaa
namespace Go.Proofs.Ytdhglmoanpkeoaa
open Go.RowKit
set_option linter.unusedVariables false
set_option linter.unusedSimpArgs false
theorem slR_rows {w : World} {v : Value} {rs : List RowD} (h : SlR tRow w v rs) : RowsR w v rs := by
 rcases h with h | ⟨b, off, cap, us, h1, h2, h3, h4⟩
 ·
  exact Or.inl h
 ·
  refine Or.inr ⟨b, off, cap, fun j => (us j).getD 1 (.slice none 0 0), h1, h2, h3, fun j hj => ?_⟩
  obtain ⟨hc, hR⟩ := h4 j hj
  obtain ⟨v1, e, g1⟩ := tRow_R (a0 := (rs.getD j (0, [])).1) (x1 := (rs.getD j (0, [])).2) hR
  have c0 := hc 0 (by decide); have c1 := hc 1 (by decide)
  simp only [e] at c0 c1 ⊢
  exact ⟨c0, c1, slR_ints g1⟩
theorem zL_rows (rs : List RowD) : zL tRow rs = szL rs := by
 have hf : tRow.sz = fun r : RowD => r.2.length := by
  funext r; obtain ⟨a, x⟩ := r; rw [tRow_sz, zL_ints]
 unfold zL zTo szL szTo sumN
 rw [hf]
end Go.Proofs.Ytdhglmoanpkeoaa
namespace Go.Proofs.Ytdhglmoanpkeoaa
open Go.RowKit
set_option linter.unusedVariables false
set_option linter.unusedSimpArgs false
end Go.Proofs.Ytdhglmoanpkeoaa
namespace Go.Proofs.Ytdhglmoanpkeoaa
open Go.RowKit
set_option linter.unusedVariables false
set_option linter.unusedSimpArgs false
end Go.Proofs.Ytdhglmoanpkeoaa
namespace Go.Proofs.Ytdhglmoanpkeoaa
open Go.RowKit
set_option linter.unusedVariables false
set_option linter.unusedSimpArgs false
section
variable {α : Type} {T : Ty α}
end
end Go.Proofs.Ytdhglmoanpkeoaa
namespace Go.Proofs.Ytdhglmoanpkeoaa
open Go.RowKit
set_option linter.unusedVariables false
end Go.Proofs.Ytdhglmoanpkeoaa
namespace Go.Proofs.Ytdhglmoanpkeoaa
open Go.ChangeShapes Go.WideShapes Go.ChangeAt Go.WideMaps Go.WideElems Go.RowKit
set_option linter.unusedVariables false
theorem laidOutP : laidOutB Try.prog = true := by kernel_rfl
end Go.Proofs.Ytdhglmoanpkeoaa
