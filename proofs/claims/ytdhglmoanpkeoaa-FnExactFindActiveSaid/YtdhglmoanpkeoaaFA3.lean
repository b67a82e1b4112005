/-
  Texts of the proof, merged: TEngine, EngBr, BrRow, EngSpec1, EngP1, LawFindActive, OpenInts, OpnT, OVersion, OVersionS, OVersionSS, OStore, OCond, OCondS, OQuery, ORow, ORowS, OActive, OActiveS, OFinished, OFinishedS, OCharge, OChargeS, OEngine.
-/
import Derived.Test.YtdhglmoanpkeoaaFA2
import Derived.BigQuiet
import Derived.Deep.QuietTactic
import Derived.Deep.RegionHeld3
import Derived.ProofKit
import Derived.OpenShut
import Derived.Carry
import Derived.Lib.SmallJoins
import Derived.Deep.Slices
namespace Go.Proofs.Ytdhglmoanpkeoaa
open Go.RowKit
set_option linter.unusedVariables false
set_option linter.unusedSimpArgs false
def tEngine : Ty ((List (List (Int × List Int × Int × Int)) × Int) × Int × List Int × List ((Int × Int × List (Int × Int × Int) × List Int) × Int × List Int × Int × Int × Int × List (Int × List Int)) × List ((Int × Int × List (Int × Int × Int) × List Int) × Int × Int × List (Int × List Int)) × List (Int × Int × List Int × List Int × List Int) × Int) := tPair tStore (tPair tInt (tPair tIntS (tPair tActiveS (tPair tFinishedS (tPair tChargeS tInt)))))
theorem tEngine_law : tEngine.Law := tPair_law tStore_law (tPair_law tInt_law (tPair_law tIntS_law (tPair_law tActiveS_law (tPair_law tFinishedS_law (tPair_law tChargeS_law tInt_law)))))
theorem tEngine_R {w : World} {cs : List Value} {x0 : List (List (Int × List Int × Int × Int))} {a1 : Int} {a2 : Int} {x3 : List Int} {x4 : List ((Int × Int × List (Int × Int × Int) × List Int) × Int × List Int × Int × Int × Int × List (Int × List Int))} {x5 : List ((Int × Int × List (Int × Int × Int) × List Int) × Int × Int × List (Int × List Int))} {x6 : List (Int × Int × List Int × List Int × List Int)} {a7 : Int} (h : tEngine.R w cs ((x0, a1), a2, x3, x4, x5, x6, a7)) : ∃ v0 v3 v4 v5 v6, cs = [v0, .int .i64 a1, .int .i64 a2, v3, v4, v5, v6, .int .i64 a7] ∧ SlR tVersionS w v0 x0 ∧ SlR tInt w v3 x3 ∧ SlR tActive w v4 x4 ∧ SlR tFinished w v5 x5 ∧ SlR tCharge w v6 x6 := by
  obtain ⟨_, _, rfl, ⟨_, _, rfl, ⟨v0, rfl, h0⟩, rfl⟩, ⟨_, _, rfl, rfl, ⟨_, _, rfl, ⟨v3, rfl, h3⟩, ⟨_, _, rfl, ⟨v4, rfl, h4⟩, ⟨_, _, rfl, ⟨v5, rfl, h5⟩, ⟨_, _, rfl, ⟨v6, rfl, h6⟩, rfl⟩⟩⟩⟩⟩⟩ := h
  exact ⟨_, _, _, _, _, rfl, h0, h3, h4, h5, h6⟩
theorem tEngine_O {w : World} {F : Nat → Prop} {cs : List Value} {x0 : List (List (Int × List Int × Int × Int))} {a1 : Int} {a2 : Int} {x3 : List Int} {x4 : List ((Int × Int × List (Int × Int × Int) × List Int) × Int × List Int × Int × Int × Int × List (Int × List Int))} {x5 : List ((Int × Int × List (Int × Int × Int) × List Int) × Int × Int × List (Int × List Int))} {x6 : List (Int × Int × List Int × List Int × List Int)} {a7 : Int} (h : tEngine.O w F cs ((x0, a1), a2, x3, x4, x5, x6, a7)) : ∃ v0 v3 v4 v5 v6, ∃ F0 F3 F4 F5 F6 : Nat → Prop, cs = [v0, .int .i64 a1, .int .i64 a2, v3, v4, v5, v6, .int .i64 a7] ∧ SlO 61 tVersionS w F0 v0 x0 ∧ SlO 3 tInt w F3 v3 x3 ∧ SlO 92 tActive w F4 v4 x4 ∧ SlO 101 tFinished w F5 v5 x5 ∧ SlO 105 tCharge w F6 v6 x6 ∧ (∀ b, F0 b → F b) ∧ (∀ b, F3 b → F b) ∧ (∀ b, F4 b → F b) ∧ (∀ b, F5 b → F b) ∧ (∀ b, F6 b → F b) ∧ (∀ b, F0 b → ¬ F3 b) ∧ (∀ b, F0 b → ¬ F4 b) ∧ (∀ b, F0 b → ¬ F5 b) ∧ (∀ b, F0 b → ¬ F6 b) ∧ (∀ b, F3 b → ¬ F4 b) ∧ (∀ b, F3 b → ¬ F5 b) ∧ (∀ b, F3 b → ¬ F6 b) ∧ (∀ b, F4 b → ¬ F5 b) ∧ (∀ b, F4 b → ¬ F6 b) ∧ (∀ b, F5 b → ¬ F6 b) := by
  obtain ⟨_, _, F0_1, F0_2, rfl, ⟨_, _, F1_1, F1_2, rfl, ⟨v0, rfl, h0⟩, rfl, s1_1, s1_2, d1⟩, ⟨_, _, F2_1, F2_2, rfl, rfl, ⟨_, _, F3_1, F3_2, rfl, ⟨v3, rfl, h3⟩, ⟨_, _, F4_1, F4_2, rfl, ⟨v4, rfl, h4⟩, ⟨_, _, F5_1, F5_2, rfl, ⟨v5, rfl, h5⟩, ⟨_, _, F6_1, F6_2, rfl, ⟨v6, rfl, h6⟩, rfl, s6_1, s6_2, d6⟩, s5_1, s5_2, d5⟩, s4_1, s4_2, d4⟩, s3_1, s3_2, d3⟩, s2_1, s2_2, d2⟩, s0_1, s0_2, d0⟩ := h
  exact ⟨v0, v3, v4, v5, v6, F1_1, F3_1, F4_1, F5_1, F6_1, rfl, h0, h3, h4, h5, h6, fun b h => (s0_1 b (s1_1 b h)), fun b h => (s0_2 b (s2_2 b (s3_1 b h))), fun b h => (s0_2 b (s2_2 b (s3_2 b (s4_1 b h)))), fun b h => (s0_2 b (s2_2 b (s3_2 b (s4_2 b (s5_1 b h))))), fun b h => (s0_2 b (s2_2 b (s3_2 b (s4_2 b (s5_2 b (s6_1 b h)))))), fun b h h2 => d0 b (s1_1 b h) (s2_2 b (s3_1 b h2)), fun b h h2 => d0 b (s1_1 b h) (s2_2 b (s3_2 b (s4_1 b h2))), fun b h h2 => d0 b (s1_1 b h) (s2_2 b (s3_2 b (s4_2 b (s5_1 b h2)))), fun b h h2 => d0 b (s1_1 b h) (s2_2 b (s3_2 b (s4_2 b (s5_2 b (s6_1 b h2))))), fun b h h2 => d3 b h (s4_1 b h2), fun b h h2 => d3 b h (s4_2 b (s5_1 b h2)), fun b h h2 => d3 b h (s4_2 b (s5_2 b (s6_1 b h2))), fun b h h2 => d4 b h (s5_1 b h2), fun b h h2 => d4 b h (s5_2 b (s6_1 b h2)), fun b h h2 => d5 b h (s6_1 b h2)⟩
theorem tEngine_mkO {w : World} {F : Nat → Prop} {x0 : List (List (Int × List Int × Int × Int))} {a1 : Int} {a2 : Int} {x3 : List Int} {x4 : List ((Int × Int × List (Int × Int × Int) × List Int) × Int × List Int × Int × Int × Int × List (Int × List Int))} {x5 : List ((Int × Int × List (Int × Int × Int) × List Int) × Int × Int × List (Int × List Int))} {x6 : List (Int × Int × List Int × List Int × List Int)} {a7 : Int} {v0 v3 v4 v5 v6 : Value} {F0 F3 F4 F5 F6 : Nat → Prop} (h0 : SlO 61 tVersionS w F0 v0 x0) (h3 : SlO 3 tInt w F3 v3 x3) (h4 : SlO 92 tActive w F4 v4 x4) (h5 : SlO 101 tFinished w F5 v5 x5) (h6 : SlO 105 tCharge w F6 v6 x6) (s0 : ∀ b, F0 b → F b) (s3 : ∀ b, F3 b → F b) (s4 : ∀ b, F4 b → F b) (s5 : ∀ b, F5 b → F b) (s6 : ∀ b, F6 b → F b) (d0_3 : ∀ b, F0 b → ¬ F3 b) (d0_4 : ∀ b, F0 b → ¬ F4 b) (d0_5 : ∀ b, F0 b → ¬ F5 b) (d0_6 : ∀ b, F0 b → ¬ F6 b) (d3_4 : ∀ b, F3 b → ¬ F4 b) (d3_5 : ∀ b, F3 b → ¬ F5 b) (d3_6 : ∀ b, F3 b → ¬ F6 b) (d4_5 : ∀ b, F4 b → ¬ F5 b) (d4_6 : ∀ b, F4 b → ¬ F6 b) (d5_6 : ∀ b, F5 b → ¬ F6 b) : tEngine.O w F [v0, .int .i64 a1, .int .i64 a2, v3, v4, v5, v6, .int .i64 a7] ((x0, a1), a2, x3, x4, x5, x6, a7) := ⟨[v0, .int .i64 a1], [.int .i64 a2, v3, v4, v5, v6, .int .i64 a7], F0, fun b => F3 b ∨ (F4 b ∨ (F5 b ∨ (F6 b))), rfl, ⟨[v0], [.int .i64 a1], F0, fun _ => False, rfl, ⟨_, rfl, h0⟩, rfl, (fun b h => h), (fun b h => (False.elim h)), (fun b h g => (False.elim g))⟩, ⟨[.int .i64 a2], [v3, v4, v5, v6, .int .i64 a7], fun _ => False, fun b => F3 b ∨ (F4 b ∨ (F5 b ∨ (F6 b))), rfl, rfl, ⟨[v3], [v4, v5, v6, .int .i64 a7], F3, fun b => F4 b ∨ (F5 b ∨ (F6 b)), rfl, ⟨_, rfl, h3⟩, ⟨[v4], [v5, v6, .int .i64 a7], F4, fun b => F5 b ∨ (F6 b), rfl, ⟨_, rfl, h4⟩, ⟨[v5], [v6, .int .i64 a7], F5, F6, rfl, ⟨_, rfl, h5⟩, ⟨[v6], [.int .i64 a7], F6, fun _ => False, rfl, ⟨_, rfl, h6⟩, rfl, (fun b h => h), (fun b h => (False.elim h)), (fun b h g => (False.elim g))⟩, (fun b h => (Or.inl h)), (fun b h => (Or.inr h)), (fun b h g => d5_6 b h g)⟩, (fun b h => (Or.inl h)), (fun b h => (h.elim (fun q0 => (Or.inr (Or.inl q0))) (fun q0 => (Or.inr (Or.inr q0))))), (fun b h g => (g.elim (fun q10 => d4_5 b h q10) (fun q10 => d4_6 b h q10)))⟩, (fun b h => (Or.inl h)), (fun b h => (h.elim (fun q0 => (Or.inr (Or.inl q0))) (fun q0 => (q0.elim (fun q1 => (Or.inr (Or.inr (Or.inl q1)))) (fun q1 => (Or.inr (Or.inr (Or.inr q1)))))))), (fun b h g => (g.elim (fun q10 => d3_4 b h q10) (fun q10 => (q10.elim (fun q11 => d3_5 b h q11) (fun q11 => d3_6 b h q11)))))⟩, (fun b h => (False.elim h)), (fun b h => (h.elim (fun q0 => (Or.inl q0)) (fun q0 => (q0.elim (fun q1 => (Or.inr (Or.inl q1))) (fun q1 => (q1.elim (fun q2 => (Or.inr (Or.inr (Or.inl q2)))) (fun q2 => (Or.inr (Or.inr (Or.inr q2)))))))))), (fun b h g => (False.elim h))⟩, (fun b h => s0 b h), (fun b h => (h.elim (fun q0 => s3 b q0) (fun q0 => (q0.elim (fun q1 => s4 b q1) (fun q1 => (q1.elim (fun q2 => s5 b q2) (fun q2 => s6 b q2))))))), (fun b h g => (g.elim (fun q10 => d0_3 b h q10) (fun q10 => (q10.elim (fun q11 => d0_4 b h q11) (fun q11 => (q11.elim (fun q12 => d0_5 b h q12) (fun q12 => d0_6 b h q12)))))))⟩
set_option maxHeartbeats 8000000 in
set_option maxRecDepth 100000 in
theorem szEngine_Y (a1 a2 a7 : Int) (v0 v3 v4 v5 v6 : Value) (x0 : List (List (Int × List Int × Int × Int))) (x3 : List Int) (x4 : List ((Int × Int × List (Int × Int × Int) × List Int) × Int × List Int × Int × Int × Int × List (Int × List Int))) (x5 : List ((Int × Int × List (Int × Int × Int) × List Int) × Int × Int × List (Int × List Int))) (x6 : List (Int × Int × List Int × List Int × List Int)) (k0 : Int) (w : World) (h0 : SlR tVersionS w v0 x0) (h3 : SlR tInt w v3 x3) (h4 : SlR tActive w v4 x4) (h5 : SlR tFinished w v5 x5) (h6 : SlR tCharge w v6 x6) (hs : ((zL tVersionS x0 + zL tInt x3 + zL tActive x4 + zL tFinished x5 + zL tCharge x6 : Nat) : Int) ≤ k0) (hk : k0 ≤ 1048576) :
    Calls Try.prog 21 #[.agg #[v0, .int .i64 a1, .int .i64 a2, v3, v4, v5, v6, .int .i64 a7], .int .i64 k0] w fun e w' => e = .returned (.int .i64 (k0 - ((zL tVersionS x0 + zL tInt x3 + zL tActive x4 + zL tFinished x5 + zL tCharge x6 : Nat) : Int))) ∧ Below w.heap.size w w' := by
  have H0 := Lib.hid h0
  have H3 := Lib.hid h3
  have H4 := Lib.hid h4
  have H5 := Lib.hid h5
  have H6 := Lib.hid h6
  clear h0 h3 h4 h5 h6
  have HZ0 : Hid (((zL tVersionS x0 : Nat) : Int) ≤ k0) := Lib.hid (by omega)
  have HK0 : Hid (k0 ≤ 1048576) := Lib.hid (by omega)
  have hn0 : ¬ k0 - ((zL tVersionS x0 : Nat) : Int) < 0 := by omega
  have HZ3 : Hid (((zL tInt x3 : Nat) : Int) ≤ k0 - ((zL tVersionS x0 : Nat) : Int)) := Lib.hid (by omega)
  have HK3 : Hid (k0 - ((zL tVersionS x0 : Nat) : Int) ≤ 1048576) := Lib.hid (by omega)
  have hn3 : ¬ k0 - ((zL tVersionS x0 : Nat) : Int) - ((zL tInt x3 : Nat) : Int) < 0 := by omega
  have HZ4 : Hid (((zL tActive x4 : Nat) : Int) ≤ k0 - ((zL tVersionS x0 : Nat) : Int) - ((zL tInt x3 : Nat) : Int)) := Lib.hid (by omega)
  have HK4 : Hid (k0 - ((zL tVersionS x0 : Nat) : Int) - ((zL tInt x3 : Nat) : Int) ≤ 1048576) := Lib.hid (by omega)
  have hn4 : ¬ k0 - ((zL tVersionS x0 : Nat) : Int) - ((zL tInt x3 : Nat) : Int) - ((zL tActive x4 : Nat) : Int) < 0 := by omega
  have HZ5 : Hid (((zL tFinished x5 : Nat) : Int) ≤ k0 - ((zL tVersionS x0 : Nat) : Int) - ((zL tInt x3 : Nat) : Int) - ((zL tActive x4 : Nat) : Int)) := Lib.hid (by omega)
  have HK5 : Hid (k0 - ((zL tVersionS x0 : Nat) : Int) - ((zL tInt x3 : Nat) : Int) - ((zL tActive x4 : Nat) : Int) ≤ 1048576) := Lib.hid (by omega)
  have hn5 : ¬ k0 - ((zL tVersionS x0 : Nat) : Int) - ((zL tInt x3 : Nat) : Int) - ((zL tActive x4 : Nat) : Int) - ((zL tFinished x5 : Nat) : Int) < 0 := by omega
  have HZ6 : Hid (((zL tCharge x6 : Nat) : Int) ≤ k0 - ((zL tVersionS x0 : Nat) : Int) - ((zL tInt x3 : Nat) : Int) - ((zL tActive x4 : Nat) : Int) - ((zL tFinished x5 : Nat) : Int)) := Lib.hid (by omega)
  have HK6 : Hid (k0 - ((zL tVersionS x0 : Nat) : Int) - ((zL tInt x3 : Nat) : Int) - ((zL tActive x4 : Nat) : Int) - ((zL tFinished x5 : Nat) : Int) ≤ 1048576) := Lib.hid (by omega)
  have hn6 : ¬ k0 - ((zL tVersionS x0 : Nat) : Int) - ((zL tInt x3 : Nat) : Int) - ((zL tActive x4 : Nat) : Int) - ((zL tFinished x5 : Nat) : Int) - ((zL tCharge x6 : Nat) : Int) < 0 := by omega
  have HE : Hid (k0 - ((zL tVersionS x0 : Nat) : Int) - ((zL tInt x3 : Nat) : Int) - ((zL tActive x4 : Nat) : Int) - ((zL tFinished x5 : Nat) : Int) - ((zL tCharge x6 : Nat) : Int) = k0 - ((zL tVersionS x0 + zL tInt x3 + zL tActive x4 + zL tFinished x5 + zL tCharge x6 : Nat) : Int)) := Lib.hid (by omega)
  clear hs hk
  have hb : Below w.heap.size w (w.alloc (.cells #[v0, .int .i64 a1, .int .i64 a2, v3, v4, v5, v6, .int .i64 a7] 52)) := (Below.refl _ w).alloc (Nat.le_refl _) _
  have g0 : (w.alloc (.cells #[v0, .int .i64 a1, .int .i64 a2, v3, v4, v5, v6, .int .i64 a7] 52)).heap[w.heap.size]? = some (.cells #[v0, .int .i64 a1, .int .i64 a2, v3, v4, v5, v6, .int .i64 a7] 52 (0, 0)) := heap_alloc_new w _
  have hz0 : w.heap.size < (w.alloc (.cells #[v0, .int .i64 a1, .int .i64 a2, v3, v4, v5, v6, .int .i64 a7] 52)).heap.size := by simp
  go_enter Try.func21, Try.ntmps21
  go_wp2_with fail
  generalize (w.alloc (.cells #[v0, .int .i64 a1, .int .i64 a2, v3, v4, v5, v6, .int .i64 a7] 52)) = W at *
  refine (szStore_Y a1 v0 x0 (k0) W (slR_below tVersionS_law H0.out hb) HZ0.out HK0.out).mono ?_
  rintro e W1 ⟨rfl, b1⟩
  replace g0 := (b1.block w.heap.size hz0).trans g0
  replace hz0 := Nat.lt_of_lt_of_le hz0 b1.size
  replace hb := hb.trans (b1.mono hb.size)
  clear b1
  have p3 := (cell_of_row W1 _ 3 _ _ _ g0).trans (show _ = some (v3) from rfl)
  go_wp2_with fail
  clear p3
  refine (szIntS_Y v3 x3 (k0 - ((zL tVersionS x0 : Nat) : Int)) W1 (slR_below tInt_law H3.out hb) HZ3.out HK3.out).mono ?_
  rintro e W2 ⟨rfl, b1⟩
  replace g0 := (b1.block w.heap.size hz0).trans g0
  replace hz0 := Nat.lt_of_lt_of_le hz0 b1.size
  replace hb := hb.trans (b1.mono hb.size)
  clear b1
  have p4 := (cell_of_row W2 _ 4 _ _ _ g0).trans (show _ = some (v4) from rfl)
  go_wp2_with fail
  clear p4
  refine (szActiveS_Y v4 x4 (k0 - ((zL tVersionS x0 : Nat) : Int) - ((zL tInt x3 : Nat) : Int)) W2 (slR_below tActive_law H4.out hb) HZ4.out HK4.out).mono ?_
  rintro e W3 ⟨rfl, b1⟩
  replace g0 := (b1.block w.heap.size hz0).trans g0
  replace hz0 := Nat.lt_of_lt_of_le hz0 b1.size
  replace hb := hb.trans (b1.mono hb.size)
  clear b1
  have p5 := (cell_of_row W3 _ 5 _ _ _ g0).trans (show _ = some (v5) from rfl)
  go_wp2_with fail
  clear p5
  refine (szFinishedS_Y v5 x5 (k0 - ((zL tVersionS x0 : Nat) : Int) - ((zL tInt x3 : Nat) : Int) - ((zL tActive x4 : Nat) : Int)) W3 (slR_below tFinished_law H5.out hb) HZ5.out HK5.out).mono ?_
  rintro e W4 ⟨rfl, b1⟩
  replace g0 := (b1.block w.heap.size hz0).trans g0
  replace hz0 := Nat.lt_of_lt_of_le hz0 b1.size
  replace hb := hb.trans (b1.mono hb.size)
  clear b1
  have p6 := (cell_of_row W4 _ 6 _ _ _ g0).trans (show _ = some (v6) from rfl)
  go_wp2_with fail
  clear p6
  refine (szChargeS_Y v6 x6 (k0 - ((zL tVersionS x0 : Nat) : Int) - ((zL tInt x3 : Nat) : Int) - ((zL tActive x4 : Nat) : Int) - ((zL tFinished x5 : Nat) : Int)) W4 (slR_below tCharge_law H6.out hb) HZ6.out HK6.out).mono ?_
  rintro e W5 ⟨rfl, b1⟩
  replace g0 := (b1.block w.heap.size hz0).trans g0
  replace hz0 := Nat.lt_of_lt_of_le hz0 b1.size
  replace hb := hb.trans (b1.mono hb.size)
  clear b1
  go_wp2
  go_ret
  exact ⟨ty_ret HE.out, hb⟩
set_option maxHeartbeats 8000000 in
set_option maxRecDepth 100000 in
theorem szEngine_N (a1 a2 a7 : Int) (v0 v3 v4 v5 v6 : Value) (x0 : List (List (Int × List Int × Int × Int))) (x3 : List Int) (x4 : List ((Int × Int × List (Int × Int × Int) × List Int) × Int × List Int × Int × Int × Int × List (Int × List Int))) (x5 : List ((Int × Int × List (Int × Int × Int) × List Int) × Int × Int × List (Int × List Int))) (x6 : List (Int × Int × List Int × List Int × List Int)) (k0 : Int) (w : World) (h0 : SlR tVersionS w v0 x0) (h3 : SlR tInt w v3 x3) (h4 : SlR tActive w v4 x4) (h5 : SlR tFinished w v5 x5) (h6 : SlR tCharge w v6 x6) (hs : k0 < ((zL tVersionS x0 + zL tInt x3 + zL tActive x4 + zL tFinished x5 + zL tCharge x6 : Nat) : Int)) (hk : k0 ≤ 1048576) (hp : 0 ≤ k0) (o0 : tVersionSS.ok x0) (o3 : tIntS.ok x3) (o4 : tActiveS.ok x4) (o5 : tFinishedS.ok x5) (o6 : tChargeS.ok x6) :
    Calls Try.prog 21 #[.agg #[v0, .int .i64 a1, .int .i64 a2, v3, v4, v5, v6, .int .i64 a7], .int .i64 k0] w fun e w' => e = .returned (.int .i64 (-1)) ∧ Below w.heap.size w w' := by
  have H0 := Lib.hid h0
  have H3 := Lib.hid h3
  have H4 := Lib.hid h4
  have H5 := Lib.hid h5
  have H6 := Lib.hid h6
  clear h0 h3 h4 h5 h6
  have HO0 := Lib.hid o0
  have HO3 := Lib.hid o3
  have HO4 := Lib.hid o4
  have HO5 := Lib.hid o5
  have HO6 := Lib.hid o6
  clear o0 o3 o4 o5 o6
  by_cases c0 : k0 < ((zL tVersionS x0 : Nat) : Int)
  · have HZ0 : Hid (k0 < ((zL tVersionS x0 : Nat) : Int)) := Lib.hid (by omega)
    have HP0 : Hid (0 ≤ k0) := Lib.hid (by omega)
    have HK0 : Hid (k0 ≤ 1048576) := Lib.hid (by omega)
    clear hs hk
    clear c0 hp
    have hb : Below w.heap.size w (w.alloc (.cells #[v0, .int .i64 a1, .int .i64 a2, v3, v4, v5, v6, .int .i64 a7] 52)) := (Below.refl _ w).alloc (Nat.le_refl _) _
    have g0 : (w.alloc (.cells #[v0, .int .i64 a1, .int .i64 a2, v3, v4, v5, v6, .int .i64 a7] 52)).heap[w.heap.size]? = some (.cells #[v0, .int .i64 a1, .int .i64 a2, v3, v4, v5, v6, .int .i64 a7] 52 (0, 0)) := heap_alloc_new w _
    have hz0 : w.heap.size < (w.alloc (.cells #[v0, .int .i64 a1, .int .i64 a2, v3, v4, v5, v6, .int .i64 a7] 52)).heap.size := by simp
    go_enter Try.func21, Try.ntmps21
    go_wp2_with fail
    generalize (w.alloc (.cells #[v0, .int .i64 a1, .int .i64 a2, v3, v4, v5, v6, .int .i64 a7] 52)) = W at *
    refine (szStore_N a1 v0 x0 (k0) W (slR_below tVersionS_law H0.out hb) HZ0.out HK0.out HP0.out HO0.out).mono ?_
    rintro e W1 ⟨rfl, b1⟩
    replace g0 := (b1.block w.heap.size hz0).trans g0
    replace hz0 := Nat.lt_of_lt_of_le hz0 b1.size
    replace hb := hb.trans (b1.mono hb.size)
    clear b1
    go_wp2
    go_ret
    exact ⟨rfl, hb⟩
  ·
    by_cases c1 : k0 - ((zL tVersionS x0 : Nat) : Int) < ((zL tInt x3 : Nat) : Int)
    · have HZ0 : Hid (((zL tVersionS x0 : Nat) : Int) ≤ k0) := Lib.hid (by omega)
      have hn0 : ¬ k0 - ((zL tVersionS x0 : Nat) : Int) < 0 := by omega
      have HK0 : Hid (k0 ≤ 1048576) := Lib.hid (by omega)
      have HZ3 : Hid (k0 - ((zL tVersionS x0 : Nat) : Int) < ((zL tInt x3 : Nat) : Int)) := Lib.hid (by omega)
      have HP3 : Hid (0 ≤ k0 - ((zL tVersionS x0 : Nat) : Int)) := Lib.hid (by omega)
      have HK3 : Hid (k0 - ((zL tVersionS x0 : Nat) : Int) ≤ 1048576) := Lib.hid (by omega)
      clear hs hk
      clear c1 hp c0
      have hb : Below w.heap.size w (w.alloc (.cells #[v0, .int .i64 a1, .int .i64 a2, v3, v4, v5, v6, .int .i64 a7] 52)) := (Below.refl _ w).alloc (Nat.le_refl _) _
      have g0 : (w.alloc (.cells #[v0, .int .i64 a1, .int .i64 a2, v3, v4, v5, v6, .int .i64 a7] 52)).heap[w.heap.size]? = some (.cells #[v0, .int .i64 a1, .int .i64 a2, v3, v4, v5, v6, .int .i64 a7] 52 (0, 0)) := heap_alloc_new w _
      have hz0 : w.heap.size < (w.alloc (.cells #[v0, .int .i64 a1, .int .i64 a2, v3, v4, v5, v6, .int .i64 a7] 52)).heap.size := by simp
      go_enter Try.func21, Try.ntmps21
      go_wp2_with fail
      generalize (w.alloc (.cells #[v0, .int .i64 a1, .int .i64 a2, v3, v4, v5, v6, .int .i64 a7] 52)) = W at *
      refine (szStore_Y a1 v0 x0 (k0) W (slR_below tVersionS_law H0.out hb) HZ0.out HK0.out).mono ?_
      rintro e W1 ⟨rfl, b1⟩
      replace g0 := (b1.block w.heap.size hz0).trans g0
      replace hz0 := Nat.lt_of_lt_of_le hz0 b1.size
      replace hb := hb.trans (b1.mono hb.size)
      clear b1
      have p3 := (cell_of_row W1 _ 3 _ _ _ g0).trans (show _ = some (v3) from rfl)
      go_wp2_with fail
      clear p3
      refine (szIntS_N v3 x3 (k0 - ((zL tVersionS x0 : Nat) : Int)) W1 (slR_below tInt_law H3.out hb) HZ3.out HK3.out HP3.out HO3.out).mono ?_
      rintro e W2 ⟨rfl, b1⟩
      replace g0 := (b1.block w.heap.size hz0).trans g0
      replace hz0 := Nat.lt_of_lt_of_le hz0 b1.size
      replace hb := hb.trans (b1.mono hb.size)
      clear b1
      go_wp2
      go_ret
      exact ⟨rfl, hb⟩
    ·
      by_cases c2 : k0 - ((zL tVersionS x0 : Nat) : Int) - ((zL tInt x3 : Nat) : Int) < ((zL tActive x4 : Nat) : Int)
      · have HZ0 : Hid (((zL tVersionS x0 : Nat) : Int) ≤ k0) := Lib.hid (by omega)
        have hn0 : ¬ k0 - ((zL tVersionS x0 : Nat) : Int) < 0 := by omega
        have HK0 : Hid (k0 ≤ 1048576) := Lib.hid (by omega)
        have HZ3 : Hid (((zL tInt x3 : Nat) : Int) ≤ k0 - ((zL tVersionS x0 : Nat) : Int)) := Lib.hid (by omega)
        have hn3 : ¬ k0 - ((zL tVersionS x0 : Nat) : Int) - ((zL tInt x3 : Nat) : Int) < 0 := by omega
        have HK3 : Hid (k0 - ((zL tVersionS x0 : Nat) : Int) ≤ 1048576) := Lib.hid (by omega)
        have HZ4 : Hid (k0 - ((zL tVersionS x0 : Nat) : Int) - ((zL tInt x3 : Nat) : Int) < ((zL tActive x4 : Nat) : Int)) := Lib.hid (by omega)
        have HP4 : Hid (0 ≤ k0 - ((zL tVersionS x0 : Nat) : Int) - ((zL tInt x3 : Nat) : Int)) := Lib.hid (by omega)
        have HK4 : Hid (k0 - ((zL tVersionS x0 : Nat) : Int) - ((zL tInt x3 : Nat) : Int) ≤ 1048576) := Lib.hid (by omega)
        clear hs hk
        clear c2 hp c0 c1
        have hb : Below w.heap.size w (w.alloc (.cells #[v0, .int .i64 a1, .int .i64 a2, v3, v4, v5, v6, .int .i64 a7] 52)) := (Below.refl _ w).alloc (Nat.le_refl _) _
        have g0 : (w.alloc (.cells #[v0, .int .i64 a1, .int .i64 a2, v3, v4, v5, v6, .int .i64 a7] 52)).heap[w.heap.size]? = some (.cells #[v0, .int .i64 a1, .int .i64 a2, v3, v4, v5, v6, .int .i64 a7] 52 (0, 0)) := heap_alloc_new w _
        have hz0 : w.heap.size < (w.alloc (.cells #[v0, .int .i64 a1, .int .i64 a2, v3, v4, v5, v6, .int .i64 a7] 52)).heap.size := by simp
        go_enter Try.func21, Try.ntmps21
        go_wp2_with fail
        generalize (w.alloc (.cells #[v0, .int .i64 a1, .int .i64 a2, v3, v4, v5, v6, .int .i64 a7] 52)) = W at *
        refine (szStore_Y a1 v0 x0 (k0) W (slR_below tVersionS_law H0.out hb) HZ0.out HK0.out).mono ?_
        rintro e W1 ⟨rfl, b1⟩
        replace g0 := (b1.block w.heap.size hz0).trans g0
        replace hz0 := Nat.lt_of_lt_of_le hz0 b1.size
        replace hb := hb.trans (b1.mono hb.size)
        clear b1
        have p3 := (cell_of_row W1 _ 3 _ _ _ g0).trans (show _ = some (v3) from rfl)
        go_wp2_with fail
        clear p3
        refine (szIntS_Y v3 x3 (k0 - ((zL tVersionS x0 : Nat) : Int)) W1 (slR_below tInt_law H3.out hb) HZ3.out HK3.out).mono ?_
        rintro e W2 ⟨rfl, b1⟩
        replace g0 := (b1.block w.heap.size hz0).trans g0
        replace hz0 := Nat.lt_of_lt_of_le hz0 b1.size
        replace hb := hb.trans (b1.mono hb.size)
        clear b1
        have p4 := (cell_of_row W2 _ 4 _ _ _ g0).trans (show _ = some (v4) from rfl)
        go_wp2_with fail
        clear p4
        refine (szActiveS_N v4 x4 (k0 - ((zL tVersionS x0 : Nat) : Int) - ((zL tInt x3 : Nat) : Int)) W2 (slR_below tActive_law H4.out hb) HZ4.out HK4.out HP4.out HO4.out).mono ?_
        rintro e W3 ⟨rfl, b1⟩
        replace g0 := (b1.block w.heap.size hz0).trans g0
        replace hz0 := Nat.lt_of_lt_of_le hz0 b1.size
        replace hb := hb.trans (b1.mono hb.size)
        clear b1
        go_wp2
        go_ret
        exact ⟨rfl, hb⟩
      ·
        by_cases c3 : k0 - ((zL tVersionS x0 : Nat) : Int) - ((zL tInt x3 : Nat) : Int) - ((zL tActive x4 : Nat) : Int) < ((zL tFinished x5 : Nat) : Int)
        · have HZ0 : Hid (((zL tVersionS x0 : Nat) : Int) ≤ k0) := Lib.hid (by omega)
          have hn0 : ¬ k0 - ((zL tVersionS x0 : Nat) : Int) < 0 := by omega
          have HK0 : Hid (k0 ≤ 1048576) := Lib.hid (by omega)
          have HZ3 : Hid (((zL tInt x3 : Nat) : Int) ≤ k0 - ((zL tVersionS x0 : Nat) : Int)) := Lib.hid (by omega)
          have hn3 : ¬ k0 - ((zL tVersionS x0 : Nat) : Int) - ((zL tInt x3 : Nat) : Int) < 0 := by omega
          have HK3 : Hid (k0 - ((zL tVersionS x0 : Nat) : Int) ≤ 1048576) := Lib.hid (by omega)
          have HZ4 : Hid (((zL tActive x4 : Nat) : Int) ≤ k0 - ((zL tVersionS x0 : Nat) : Int) - ((zL tInt x3 : Nat) : Int)) := Lib.hid (by omega)
          have hn4 : ¬ k0 - ((zL tVersionS x0 : Nat) : Int) - ((zL tInt x3 : Nat) : Int) - ((zL tActive x4 : Nat) : Int) < 0 := by omega
          have HK4 : Hid (k0 - ((zL tVersionS x0 : Nat) : Int) - ((zL tInt x3 : Nat) : Int) ≤ 1048576) := Lib.hid (by omega)
          have HZ5 : Hid (k0 - ((zL tVersionS x0 : Nat) : Int) - ((zL tInt x3 : Nat) : Int) - ((zL tActive x4 : Nat) : Int) < ((zL tFinished x5 : Nat) : Int)) := Lib.hid (by omega)
          have HP5 : Hid (0 ≤ k0 - ((zL tVersionS x0 : Nat) : Int) - ((zL tInt x3 : Nat) : Int) - ((zL tActive x4 : Nat) : Int)) := Lib.hid (by omega)
          have HK5 : Hid (k0 - ((zL tVersionS x0 : Nat) : Int) - ((zL tInt x3 : Nat) : Int) - ((zL tActive x4 : Nat) : Int) ≤ 1048576) := Lib.hid (by omega)
          clear hs hk
          clear c3 hp c0 c1 c2
          have hb : Below w.heap.size w (w.alloc (.cells #[v0, .int .i64 a1, .int .i64 a2, v3, v4, v5, v6, .int .i64 a7] 52)) := (Below.refl _ w).alloc (Nat.le_refl _) _
          have g0 : (w.alloc (.cells #[v0, .int .i64 a1, .int .i64 a2, v3, v4, v5, v6, .int .i64 a7] 52)).heap[w.heap.size]? = some (.cells #[v0, .int .i64 a1, .int .i64 a2, v3, v4, v5, v6, .int .i64 a7] 52 (0, 0)) := heap_alloc_new w _
          have hz0 : w.heap.size < (w.alloc (.cells #[v0, .int .i64 a1, .int .i64 a2, v3, v4, v5, v6, .int .i64 a7] 52)).heap.size := by simp
          go_enter Try.func21, Try.ntmps21
          go_wp2_with fail
          generalize (w.alloc (.cells #[v0, .int .i64 a1, .int .i64 a2, v3, v4, v5, v6, .int .i64 a7] 52)) = W at *
          refine (szStore_Y a1 v0 x0 (k0) W (slR_below tVersionS_law H0.out hb) HZ0.out HK0.out).mono ?_
          rintro e W1 ⟨rfl, b1⟩
          replace g0 := (b1.block w.heap.size hz0).trans g0
          replace hz0 := Nat.lt_of_lt_of_le hz0 b1.size
          replace hb := hb.trans (b1.mono hb.size)
          clear b1
          have p3 := (cell_of_row W1 _ 3 _ _ _ g0).trans (show _ = some (v3) from rfl)
          go_wp2_with fail
          clear p3
          refine (szIntS_Y v3 x3 (k0 - ((zL tVersionS x0 : Nat) : Int)) W1 (slR_below tInt_law H3.out hb) HZ3.out HK3.out).mono ?_
          rintro e W2 ⟨rfl, b1⟩
          replace g0 := (b1.block w.heap.size hz0).trans g0
          replace hz0 := Nat.lt_of_lt_of_le hz0 b1.size
          replace hb := hb.trans (b1.mono hb.size)
          clear b1
          have p4 := (cell_of_row W2 _ 4 _ _ _ g0).trans (show _ = some (v4) from rfl)
          go_wp2_with fail
          clear p4
          refine (szActiveS_Y v4 x4 (k0 - ((zL tVersionS x0 : Nat) : Int) - ((zL tInt x3 : Nat) : Int)) W2 (slR_below tActive_law H4.out hb) HZ4.out HK4.out).mono ?_
          rintro e W3 ⟨rfl, b1⟩
          replace g0 := (b1.block w.heap.size hz0).trans g0
          replace hz0 := Nat.lt_of_lt_of_le hz0 b1.size
          replace hb := hb.trans (b1.mono hb.size)
          clear b1
          have p5 := (cell_of_row W3 _ 5 _ _ _ g0).trans (show _ = some (v5) from rfl)
          go_wp2_with fail
          clear p5
          refine (szFinishedS_N v5 x5 (k0 - ((zL tVersionS x0 : Nat) : Int) - ((zL tInt x3 : Nat) : Int) - ((zL tActive x4 : Nat) : Int)) W3 (slR_below tFinished_law H5.out hb) HZ5.out HK5.out HP5.out HO5.out).mono ?_
          rintro e W4 ⟨rfl, b1⟩
          replace g0 := (b1.block w.heap.size hz0).trans g0
          replace hz0 := Nat.lt_of_lt_of_le hz0 b1.size
          replace hb := hb.trans (b1.mono hb.size)
          clear b1
          go_wp2
          go_ret
          exact ⟨rfl, hb⟩
        ·
          have HZ0 : Hid (((zL tVersionS x0 : Nat) : Int) ≤ k0) := Lib.hid (by omega)
          have hn0 : ¬ k0 - ((zL tVersionS x0 : Nat) : Int) < 0 := by omega
          have HK0 : Hid (k0 ≤ 1048576) := Lib.hid (by omega)
          have HZ3 : Hid (((zL tInt x3 : Nat) : Int) ≤ k0 - ((zL tVersionS x0 : Nat) : Int)) := Lib.hid (by omega)
          have hn3 : ¬ k0 - ((zL tVersionS x0 : Nat) : Int) - ((zL tInt x3 : Nat) : Int) < 0 := by omega
          have HK3 : Hid (k0 - ((zL tVersionS x0 : Nat) : Int) ≤ 1048576) := Lib.hid (by omega)
          have HZ4 : Hid (((zL tActive x4 : Nat) : Int) ≤ k0 - ((zL tVersionS x0 : Nat) : Int) - ((zL tInt x3 : Nat) : Int)) := Lib.hid (by omega)
          have hn4 : ¬ k0 - ((zL tVersionS x0 : Nat) : Int) - ((zL tInt x3 : Nat) : Int) - ((zL tActive x4 : Nat) : Int) < 0 := by omega
          have HK4 : Hid (k0 - ((zL tVersionS x0 : Nat) : Int) - ((zL tInt x3 : Nat) : Int) ≤ 1048576) := Lib.hid (by omega)
          have HZ5 : Hid (((zL tFinished x5 : Nat) : Int) ≤ k0 - ((zL tVersionS x0 : Nat) : Int) - ((zL tInt x3 : Nat) : Int) - ((zL tActive x4 : Nat) : Int)) := Lib.hid (by omega)
          have hn5 : ¬ k0 - ((zL tVersionS x0 : Nat) : Int) - ((zL tInt x3 : Nat) : Int) - ((zL tActive x4 : Nat) : Int) - ((zL tFinished x5 : Nat) : Int) < 0 := by omega
          have HK5 : Hid (k0 - ((zL tVersionS x0 : Nat) : Int) - ((zL tInt x3 : Nat) : Int) - ((zL tActive x4 : Nat) : Int) ≤ 1048576) := Lib.hid (by omega)
          have HZ6 : Hid (k0 - ((zL tVersionS x0 : Nat) : Int) - ((zL tInt x3 : Nat) : Int) - ((zL tActive x4 : Nat) : Int) - ((zL tFinished x5 : Nat) : Int) < ((zL tCharge x6 : Nat) : Int)) := Lib.hid (by omega)
          have HP6 : Hid (0 ≤ k0 - ((zL tVersionS x0 : Nat) : Int) - ((zL tInt x3 : Nat) : Int) - ((zL tActive x4 : Nat) : Int) - ((zL tFinished x5 : Nat) : Int)) := Lib.hid (by omega)
          have HK6 : Hid (k0 - ((zL tVersionS x0 : Nat) : Int) - ((zL tInt x3 : Nat) : Int) - ((zL tActive x4 : Nat) : Int) - ((zL tFinished x5 : Nat) : Int) ≤ 1048576) := Lib.hid (by omega)
          clear hs hk
          clear hp c0 c1 c2 c3
          have hb : Below w.heap.size w (w.alloc (.cells #[v0, .int .i64 a1, .int .i64 a2, v3, v4, v5, v6, .int .i64 a7] 52)) := (Below.refl _ w).alloc (Nat.le_refl _) _
          have g0 : (w.alloc (.cells #[v0, .int .i64 a1, .int .i64 a2, v3, v4, v5, v6, .int .i64 a7] 52)).heap[w.heap.size]? = some (.cells #[v0, .int .i64 a1, .int .i64 a2, v3, v4, v5, v6, .int .i64 a7] 52 (0, 0)) := heap_alloc_new w _
          have hz0 : w.heap.size < (w.alloc (.cells #[v0, .int .i64 a1, .int .i64 a2, v3, v4, v5, v6, .int .i64 a7] 52)).heap.size := by simp
          go_enter Try.func21, Try.ntmps21
          go_wp2_with fail
          generalize (w.alloc (.cells #[v0, .int .i64 a1, .int .i64 a2, v3, v4, v5, v6, .int .i64 a7] 52)) = W at *
          refine (szStore_Y a1 v0 x0 (k0) W (slR_below tVersionS_law H0.out hb) HZ0.out HK0.out).mono ?_
          rintro e W1 ⟨rfl, b1⟩
          replace g0 := (b1.block w.heap.size hz0).trans g0
          replace hz0 := Nat.lt_of_lt_of_le hz0 b1.size
          replace hb := hb.trans (b1.mono hb.size)
          clear b1
          have p3 := (cell_of_row W1 _ 3 _ _ _ g0).trans (show _ = some (v3) from rfl)
          go_wp2_with fail
          clear p3
          refine (szIntS_Y v3 x3 (k0 - ((zL tVersionS x0 : Nat) : Int)) W1 (slR_below tInt_law H3.out hb) HZ3.out HK3.out).mono ?_
          rintro e W2 ⟨rfl, b1⟩
          replace g0 := (b1.block w.heap.size hz0).trans g0
          replace hz0 := Nat.lt_of_lt_of_le hz0 b1.size
          replace hb := hb.trans (b1.mono hb.size)
          clear b1
          have p4 := (cell_of_row W2 _ 4 _ _ _ g0).trans (show _ = some (v4) from rfl)
          go_wp2_with fail
          clear p4
          refine (szActiveS_Y v4 x4 (k0 - ((zL tVersionS x0 : Nat) : Int) - ((zL tInt x3 : Nat) : Int)) W2 (slR_below tActive_law H4.out hb) HZ4.out HK4.out).mono ?_
          rintro e W3 ⟨rfl, b1⟩
          replace g0 := (b1.block w.heap.size hz0).trans g0
          replace hz0 := Nat.lt_of_lt_of_le hz0 b1.size
          replace hb := hb.trans (b1.mono hb.size)
          clear b1
          have p5 := (cell_of_row W3 _ 5 _ _ _ g0).trans (show _ = some (v5) from rfl)
          go_wp2_with fail
          clear p5
          refine (szFinishedS_Y v5 x5 (k0 - ((zL tVersionS x0 : Nat) : Int) - ((zL tInt x3 : Nat) : Int) - ((zL tActive x4 : Nat) : Int)) W3 (slR_below tFinished_law H5.out hb) HZ5.out HK5.out).mono ?_
          rintro e W4 ⟨rfl, b1⟩
          replace g0 := (b1.block w.heap.size hz0).trans g0
          replace hz0 := Nat.lt_of_lt_of_le hz0 b1.size
          replace hb := hb.trans (b1.mono hb.size)
          clear b1
          have p6 := (cell_of_row W4 _ 6 _ _ _ g0).trans (show _ = some (v6) from rfl)
          go_wp2_with fail
          clear p6
          refine (szChargeS_N v6 x6 (k0 - ((zL tVersionS x0 : Nat) : Int) - ((zL tInt x3 : Nat) : Int) - ((zL tActive x4 : Nat) : Int) - ((zL tFinished x5 : Nat) : Int)) W4 (slR_below tCharge_law H6.out hb) HZ6.out HK6.out HP6.out HO6.out).mono ?_
          rintro e W5 ⟨rfl, b1⟩
          replace g0 := (b1.block w.heap.size hz0).trans g0
          replace hz0 := Nat.lt_of_lt_of_le hz0 b1.size
          replace hb := hb.trans (b1.mono hb.size)
          clear b1
          go_wp2
          go_ret
          exact ⟨rfl, hb⟩
set_option maxHeartbeats 8000000 in
set_option maxRecDepth 100000 in
theorem toEngine_T (a1 a2 a7 : Int) (v0 v3 v4 v5 v6 : Value) (x0 : List (List (Int × List Int × Int × Int))) (x3 : List Int) (x4 : List ((Int × Int × List (Int × Int × Int) × List Int) × Int × List Int × Int × Int × Int × List (Int × List Int))) (x5 : List ((Int × Int × List (Int × Int × Int) × List Int) × Int × Int × List (Int × List Int))) (x6 : List (Int × Int × List Int × List Int × List Int)) (w : World) (h0 : SlR tVersionS w v0 x0) (h3 : SlR tInt w v3 x3) (h4 : SlR tActive w v4 x4) (h5 : SlR tFinished w v5 x5) (h6 : SlR tCharge w v6 x6) (s0 : zL tVersionS x0 ≤ 1048576) (s3 : zL tInt x3 ≤ 1048576) (s4 : zL tActive x4 ≤ 1048576) (s5 : zL tFinished x5 ≤ 1048576) (s6 : zL tCharge x6 ≤ 1048576) :
    Calls Try.prog 23 #[.agg #[v0, .int .i64 a1, .int .i64 a2, v3, v4, v5, v6, .int .i64 a7]] w (FreshT tEngine (fun cs => .agg cs.toArray) w ((x0, a1), a2, x3, x4, x5, x6, a7)) := by
  have H0 := Lib.hid h0
  have H3 := Lib.hid h3
  have H4 := Lib.hid h4
  have H5 := Lib.hid h5
  have H6 := Lib.hid h6
  clear h0 h3 h4 h5 h6
  have S0 := Lib.hid s0
  have S3 := Lib.hid s3
  have S4 := Lib.hid s4
  have S5 := Lib.hid s5
  have S6 := Lib.hid s6
  clear s0 s3 s4 s5 s6
  go_enter Try.func23, Try.ntmps23
  go_wp2_with fail
  have hb : Below w.heap.size w (((w.alloc (.cells #[v0, .int .i64 a1, .int .i64 a2, v3, v4, v5, v6, .int .i64 a7] 52)).alloc (.cells #[.slice none 0 0, .int .i64 0, .int .i64 0, .slice none 0 0, .slice none 0 0, .slice none 0 0, .slice none 0 0, .int .i64 0] 42)).alloc (.cells #[.slice none 0 0, .int .i64 0, .int .i64 0, .slice none 0 0, .slice none 0 0, .slice none 0 0, .slice none 0 0, .int .i64 0] 42)) := (((Below.refl _ w).alloc (Nat.le_refl _) _).alloc (by simp) _).alloc (by simp; omega) _
  have g2 : (((w.alloc (.cells #[v0, .int .i64 a1, .int .i64 a2, v3, v4, v5, v6, .int .i64 a7] 52)).alloc (.cells #[.slice none 0 0, .int .i64 0, .int .i64 0, .slice none 0 0, .slice none 0 0, .slice none 0 0, .slice none 0 0, .int .i64 0] 42)).alloc (.cells #[.slice none 0 0, .int .i64 0, .int .i64 0, .slice none 0 0, .slice none 0 0, .slice none 0 0, .slice none 0 0, .int .i64 0] 42)).heap[w.heap.size + 1 + 1]? = some (.cells #[.slice none 0 0, .int .i64 0, .int .i64 0, .slice none 0 0, .slice none 0 0, .slice none 0 0, .slice none 0 0, .int .i64 0] 42 (0, 0)) := by
    have := heap_alloc_new ((w.alloc (.cells #[v0, .int .i64 a1, .int .i64 a2, v3, v4, v5, v6, .int .i64 a7] 52)).alloc (.cells #[.slice none 0 0, .int .i64 0, .int .i64 0, .slice none 0 0, .slice none 0 0, .slice none 0 0, .slice none 0 0, .int .i64 0] 42)) (.cells #[.slice none 0 0, .int .i64 0, .int .i64 0, .slice none 0 0, .slice none 0 0, .slice none 0 0, .slice none 0 0, .int .i64 0] 42)
    simpa only [World.size_alloc] using this
  have g1 : (((w.alloc (.cells #[v0, .int .i64 a1, .int .i64 a2, v3, v4, v5, v6, .int .i64 a7] 52)).alloc (.cells #[.slice none 0 0, .int .i64 0, .int .i64 0, .slice none 0 0, .slice none 0 0, .slice none 0 0, .slice none 0 0, .int .i64 0] 42)).alloc (.cells #[.slice none 0 0, .int .i64 0, .int .i64 0, .slice none 0 0, .slice none 0 0, .slice none 0 0, .slice none 0 0, .int .i64 0] 42)).heap[w.heap.size + 1]? = some (.cells #[.slice none 0 0, .int .i64 0, .int .i64 0, .slice none 0 0, .slice none 0 0, .slice none 0 0, .slice none 0 0, .int .i64 0] 42 (0, 0)) := by
    have := heap_alloc_new (w.alloc (.cells #[v0, .int .i64 a1, .int .i64 a2, v3, v4, v5, v6, .int .i64 a7] 52)) (.cells #[.slice none 0 0, .int .i64 0, .int .i64 0, .slice none 0 0, .slice none 0 0, .slice none 0 0, .slice none 0 0, .int .i64 0] 42)
    rw [Below.heap_alloc _ _ _ (by simp)]
    simpa only [World.size_alloc] using this
  have g0 : (((w.alloc (.cells #[v0, .int .i64 a1, .int .i64 a2, v3, v4, v5, v6, .int .i64 a7] 52)).alloc (.cells #[.slice none 0 0, .int .i64 0, .int .i64 0, .slice none 0 0, .slice none 0 0, .slice none 0 0, .slice none 0 0, .int .i64 0] 42)).alloc (.cells #[.slice none 0 0, .int .i64 0, .int .i64 0, .slice none 0 0, .slice none 0 0, .slice none 0 0, .slice none 0 0, .int .i64 0] 42)).heap[w.heap.size]? = some (.cells #[v0, .int .i64 a1, .int .i64 a2, v3, v4, v5, v6, .int .i64 a7] 52 (0, 0)) := by
    rw [Below.heap_alloc _ _ _ (by simp; omega), Below.heap_alloc _ _ _ (by simp)]
    exact heap_alloc_new w _
  have hz : w.heap.size + 2 < (((w.alloc (.cells #[v0, .int .i64 a1, .int .i64 a2, v3, v4, v5, v6, .int .i64 a7] 52)).alloc (.cells #[.slice none 0 0, .int .i64 0, .int .i64 0, .slice none 0 0, .slice none 0 0, .slice none 0 0, .slice none 0 0, .int .i64 0] 42)).alloc (.cells #[.slice none 0 0, .int .i64 0, .int .i64 0, .slice none 0 0, .slice none 0 0, .slice none 0 0, .slice none 0 0, .int .i64 0] 42)).heap.size := by simp [World.size_alloc]
  generalize (((w.alloc (.cells #[v0, .int .i64 a1, .int .i64 a2, v3, v4, v5, v6, .int .i64 a7] 52)).alloc (.cells #[.slice none 0 0, .int .i64 0, .int .i64 0, .slice none 0 0, .slice none 0 0, .slice none 0 0, .slice none 0 0, .int .i64 0] 42)).alloc (.cells #[.slice none 0 0, .int .i64 0, .int .i64 0, .slice none 0 0, .slice none 0 0, .slice none 0 0, .slice none 0 0, .int .i64 0] 42)) = W at *
  refine (toStore_T a1 v0 x0 W (slR_below tVersionS_law H0.out hb) S0.out).mono ?_
  rintro e w1 ⟨cs, rfl, ow, b1⟩
  replace ow := tStore_law.mono (tStore_law.lt ow) (F' := fun b => W.heap.size ≤ b ∧ b < w1.heap.size) (fun b h => h)
  obtain ⟨u0, F0, rfl, o0, q0⟩ := tStore_O ow
  obtain ⟨ua0, uc0, rfl⟩ := slO_len o0
  replace g0 := (b1.block _ (by omega)).trans g0
  replace g1 := (b1.block _ (by omega)).trans g1
  replace g2 := (b1.block _ (by omega)).trans g2
  have zz1 := b1.size
  replace hb := hb.trans (b1.mono (by omega))
  clear b1
  have c2_0 := (cell_of_row w1 _ 0 _ _ _ g2).trans (show _ = some (Value.slice none 0 0) from rfl)
  have f2_0 := frozen_of_row w1 _ 0 _ _ g2
  have c2_1 := (cell_of_row w1 _ 1 _ _ _ g2).trans (show _ = some (Value.int .i64 0) from rfl)
  have f2_1 := frozen_of_row w1 _ 1 _ _ g2
  have c2_2 := (cell_of_row w1 _ 2 _ _ _ g2).trans (show _ = some (Value.int .i64 0) from rfl)
  have f2_2 := frozen_of_row w1 _ 2 _ _ g2
  have ne1 : ¬ w.heap.size = w.heap.size + 1 + 1 := by omega
  have ne2 : ¬ w.heap.size + 1 = w.heap.size + 1 + 1 := by omega
  have ne3 : ¬ w.heap.size + 1 + 1 = w.heap.size + 1 := by omega
  have c0_2 := (cell_of_row w1 _ 2 _ _ _ g0).trans (show _ = some (Value.int .i64 a2) from rfl)
  have c0_3 := (cell_of_row w1 _ 3 _ _ _ g0).trans (show _ = some (v3) from rfl)
  have l0_2 : ((w1.setCell ⟨w.heap.size + 1 + 1, 0, none⟩ (.slice ua0 x0.length uc0)).setCell ⟨w.heap.size + 1 + 1, 1, none⟩ (.int .i64 a1)).cell? ⟨w.heap.size, 2, none⟩ = some (Value.int .i64 a2) := by
    have m : ((w1.setCell ⟨w.heap.size + 1 + 1, 0, none⟩ (.slice ua0 x0.length uc0)).setCell ⟨w.heap.size + 1 + 1, 1, none⟩ (.int .i64 a1)).heap[w.heap.size]? = some (.cells #[v0, .int .i64 a1, .int .i64 a2, v3, v4, v5, v6, .int .i64 a7] 52 (0, 0)) := by
      repeat rw [heap_setCell_other _ _ _ _ (by simp <;> omega)]
      exact g0
    exact (cell_of_row _ _ 2 _ _ _ m).trans rfl
  have l0_3 : (((w1.setCell ⟨w.heap.size + 1 + 1, 0, none⟩ (.slice ua0 x0.length uc0)).setCell ⟨w.heap.size + 1 + 1, 1, none⟩ (.int .i64 a1)).setCell ⟨w.heap.size + 1 + 1, 2, none⟩ (.int .i64 a2)).cell? ⟨w.heap.size, 3, none⟩ = some (v3) := by
    have m : (((w1.setCell ⟨w.heap.size + 1 + 1, 0, none⟩ (.slice ua0 x0.length uc0)).setCell ⟨w.heap.size + 1 + 1, 1, none⟩ (.int .i64 a1)).setCell ⟨w.heap.size + 1 + 1, 2, none⟩ (.int .i64 a2)).heap[w.heap.size]? = some (.cells #[v0, .int .i64 a1, .int .i64 a2, v3, v4, v5, v6, .int .i64 a7] 52 (0, 0)) := by
      repeat rw [heap_setCell_other _ _ _ _ (by simp <;> omega)]
      exact g0
    exact (cell_of_row _ _ 3 _ _ _ m).trans rfl
  go_wp2_with fail
  clear c2_0 f2_0 c2_1 f2_1 c2_2 f2_2 ne1 ne2 ne3 c0_2 c0_3 l0_2 l0_3
  have hw : Turn (fun b => b = w.heap.size + 1 + 1) w1 (((w1.setCell ⟨w.heap.size + 1 + 1, 0, none⟩ (.slice ua0 x0.length uc0)).setCell ⟨w.heap.size + 1 + 1, 1, none⟩ (.int .i64 a1)).setCell ⟨w.heap.size + 1 + 1, 2, none⟩ (.int .i64 a2)) := by
    first | exact ((((Turn.refl (fun b => b = w.heap.size + 1 + 1) _).trans (turn_set (G := fun b => b = w.heap.size + 1 + 1) (g := w.heap.size + 1 + 1) (j := 0) (u := .slice ua0 x0.length uc0) rfl)).trans (turn_set (G := fun b => b = w.heap.size + 1 + 1) (g := w.heap.size + 1 + 1) (j := 1) (u := .int .i64 a1) rfl)).trans (turn_set (G := fun b => b = w.heap.size + 1 + 1) (g := w.heap.size + 1 + 1) (j := 2) (u := .int .i64 a2) rfl)) | skip
  replace g0 := (hw.block _ (by omega) (by omega)).trans g0
  replace g1 := (hw.block _ (by omega) (by omega)).trans g1
  have g2n := (heap_setCell_same _ (w.heap.size + 1 + 1) 2 _ _ (.int .i64 a2) (heap_setCell_same _ (w.heap.size + 1 + 1) 1 _ _ (.int .i64 a1) (heap_setCell_same _ (w.heap.size + 1 + 1) 0 _ _ (.slice ua0 x0.length uc0) g2)))
  replace g2 : (((w1.setCell ⟨w.heap.size + 1 + 1, 0, none⟩ (.slice ua0 x0.length uc0)).setCell ⟨w.heap.size + 1 + 1, 1, none⟩ (.int .i64 a1)).setCell ⟨w.heap.size + 1 + 1, 2, none⟩ (.int .i64 a2)).heap[w.heap.size + 1 + 1]? = some (.cells #[.slice ua0 x0.length uc0, .int .i64 a1, .int .i64 a2, .slice none 0 0, .slice none 0 0, .slice none 0 0, .slice none 0 0, .int .i64 0] 42 (0, 0)) := by simpa using g2n
  clear g2n
  replace o0 := slO_turn tVersionS_law o0 hw (fun b h1 h2 => by first | (have := h1.1; omega) | (have := q0 b h1; omega))
  replace hb := below_turn hb hw (fun b h => by omega) (by omega)
  have hz0 := hw.size
  clear hw
  generalize (((w1.setCell ⟨w.heap.size + 1 + 1, 0, none⟩ (.slice ua0 x0.length uc0)).setCell ⟨w.heap.size + 1 + 1, 1, none⟩ (.int .i64 a1)).setCell ⟨w.heap.size + 1 + 1, 2, none⟩ (.int .i64 a2)) = W1 at *
  refine (toIntS_S v3 x3 W1 (slR_below tInt_law H3.out hb) S3.out).mono ?_
  rintro e w2 ⟨u3, rfl, o3, b1⟩
  obtain ⟨ua3, uc3, rfl⟩ := slO_len o3
  replace o3 := slO_mono (slO_lt tInt_law o3) (F' := fun b => W1.heap.size ≤ b ∧ b < w2.heap.size) (fun b h => h)
  replace g0 := (b1.block _ (by omega)).trans g0
  replace g1 := (b1.block _ (by omega)).trans g1
  replace g2 := (b1.block _ (by omega)).trans g2
  replace o0 := slO_fresh tVersionS_law o0 b1
  have zz2 := b1.size
  replace hb := hb.trans (b1.mono (by omega))
  clear b1
  have c2_0 := (cell_of_row w2 _ 0 _ _ _ g2).trans (show _ = some (Value.slice ua0 x0.length uc0) from rfl)
  have f2_0 := frozen_of_row w2 _ 0 _ _ g2
  have c2_1 := (cell_of_row w2 _ 1 _ _ _ g2).trans (show _ = some (Value.int .i64 a1) from rfl)
  have f2_1 := frozen_of_row w2 _ 1 _ _ g2
  have c2_2 := (cell_of_row w2 _ 2 _ _ _ g2).trans (show _ = some (Value.int .i64 a2) from rfl)
  have f2_2 := frozen_of_row w2 _ 2 _ _ g2
  have c2_3 := (cell_of_row w2 _ 3 _ _ _ g2).trans (show _ = some (Value.slice none 0 0) from rfl)
  have f2_3 := frozen_of_row w2 _ 3 _ _ g2
  have ne1 : ¬ w.heap.size = w.heap.size + 1 + 1 := by omega
  have ne2 : ¬ w.heap.size + 1 = w.heap.size + 1 + 1 := by omega
  have ne3 : ¬ w.heap.size + 1 + 1 = w.heap.size + 1 := by omega
  have c0_4 := (cell_of_row w2 _ 4 _ _ _ g0).trans (show _ = some (v4) from rfl)
  have l0_4 : (w2.setCell ⟨w.heap.size + 1 + 1, 3, none⟩ (.slice ua3 x3.length uc3)).cell? ⟨w.heap.size, 4, none⟩ = some (v4) := by
    have m : (w2.setCell ⟨w.heap.size + 1 + 1, 3, none⟩ (.slice ua3 x3.length uc3)).heap[w.heap.size]? = some (.cells #[v0, .int .i64 a1, .int .i64 a2, v3, v4, v5, v6, .int .i64 a7] 52 (0, 0)) := by
      repeat rw [heap_setCell_other _ _ _ _ (by simp <;> omega)]
      exact g0
    exact (cell_of_row _ _ 4 _ _ _ m).trans rfl
  go_wp2_with fail
  clear c2_0 f2_0 c2_1 f2_1 c2_2 f2_2 c2_3 f2_3 ne1 ne2 ne3 c0_4 l0_4
  have hw : Turn (fun b => b = w.heap.size + 1 + 1) w2 (w2.setCell ⟨w.heap.size + 1 + 1, 3, none⟩ (.slice ua3 x3.length uc3)) := by
    first | exact ((Turn.refl (fun b => b = w.heap.size + 1 + 1) _).trans (turn_set (G := fun b => b = w.heap.size + 1 + 1) (g := w.heap.size + 1 + 1) (j := 3) (u := .slice ua3 x3.length uc3) rfl)) | skip
  replace g0 := (hw.block _ (by omega) (by omega)).trans g0
  replace g1 := (hw.block _ (by omega) (by omega)).trans g1
  have g2n := (heap_setCell_same _ (w.heap.size + 1 + 1) 3 _ _ (.slice ua3 x3.length uc3) g2)
  replace g2 : (w2.setCell ⟨w.heap.size + 1 + 1, 3, none⟩ (.slice ua3 x3.length uc3)).heap[w.heap.size + 1 + 1]? = some (.cells #[.slice ua0 x0.length uc0, .int .i64 a1, .int .i64 a2, .slice ua3 x3.length uc3, .slice none 0 0, .slice none 0 0, .slice none 0 0, .int .i64 0] 42 (0, 0)) := by simpa using g2n
  clear g2n
  replace o0 := slO_turn tVersionS_law o0 hw (fun b h1 h2 => by first | (have := h1.1; omega) | (have := q0 b h1; omega))
  replace o3 := slO_turn tInt_law o3 hw (fun b h1 h2 => by first | (have := h1.1; omega) | (have := q3 b h1; omega))
  replace hb := below_turn hb hw (fun b h => by omega) (by omega)
  have hz1 := hw.size
  clear hw
  generalize (w2.setCell ⟨w.heap.size + 1 + 1, 3, none⟩ (.slice ua3 x3.length uc3)) = W2 at *
  refine (toActiveS_S v4 x4 W2 (slR_below tActive_law H4.out hb) S4.out).mono ?_
  rintro e w3 ⟨u4, rfl, o4, b1⟩
  obtain ⟨ua4, uc4, rfl⟩ := slO_len o4
  replace o4 := slO_mono (slO_lt tActive_law o4) (F' := fun b => W2.heap.size ≤ b ∧ b < w3.heap.size) (fun b h => h)
  replace g0 := (b1.block _ (by omega)).trans g0
  replace g1 := (b1.block _ (by omega)).trans g1
  replace g2 := (b1.block _ (by omega)).trans g2
  replace o0 := slO_fresh tVersionS_law o0 b1
  replace o3 := slO_fresh tInt_law o3 b1
  have zz3 := b1.size
  replace hb := hb.trans (b1.mono (by omega))
  clear b1
  have c2_0 := (cell_of_row w3 _ 0 _ _ _ g2).trans (show _ = some (Value.slice ua0 x0.length uc0) from rfl)
  have f2_0 := frozen_of_row w3 _ 0 _ _ g2
  have c2_1 := (cell_of_row w3 _ 1 _ _ _ g2).trans (show _ = some (Value.int .i64 a1) from rfl)
  have f2_1 := frozen_of_row w3 _ 1 _ _ g2
  have c2_2 := (cell_of_row w3 _ 2 _ _ _ g2).trans (show _ = some (Value.int .i64 a2) from rfl)
  have f2_2 := frozen_of_row w3 _ 2 _ _ g2
  have c2_3 := (cell_of_row w3 _ 3 _ _ _ g2).trans (show _ = some (Value.slice ua3 x3.length uc3) from rfl)
  have f2_3 := frozen_of_row w3 _ 3 _ _ g2
  have c2_4 := (cell_of_row w3 _ 4 _ _ _ g2).trans (show _ = some (Value.slice none 0 0) from rfl)
  have f2_4 := frozen_of_row w3 _ 4 _ _ g2
  have ne1 : ¬ w.heap.size = w.heap.size + 1 + 1 := by omega
  have ne2 : ¬ w.heap.size + 1 = w.heap.size + 1 + 1 := by omega
  have ne3 : ¬ w.heap.size + 1 + 1 = w.heap.size + 1 := by omega
  have c0_5 := (cell_of_row w3 _ 5 _ _ _ g0).trans (show _ = some (v5) from rfl)
  have l0_5 : (w3.setCell ⟨w.heap.size + 1 + 1, 4, none⟩ (.slice ua4 x4.length uc4)).cell? ⟨w.heap.size, 5, none⟩ = some (v5) := by
    have m : (w3.setCell ⟨w.heap.size + 1 + 1, 4, none⟩ (.slice ua4 x4.length uc4)).heap[w.heap.size]? = some (.cells #[v0, .int .i64 a1, .int .i64 a2, v3, v4, v5, v6, .int .i64 a7] 52 (0, 0)) := by
      repeat rw [heap_setCell_other _ _ _ _ (by simp <;> omega)]
      exact g0
    exact (cell_of_row _ _ 5 _ _ _ m).trans rfl
  go_wp2_with fail
  clear c2_0 f2_0 c2_1 f2_1 c2_2 f2_2 c2_3 f2_3 c2_4 f2_4 ne1 ne2 ne3 c0_5 l0_5
  have hw : Turn (fun b => b = w.heap.size + 1 + 1) w3 (w3.setCell ⟨w.heap.size + 1 + 1, 4, none⟩ (.slice ua4 x4.length uc4)) := by
    first | exact ((Turn.refl (fun b => b = w.heap.size + 1 + 1) _).trans (turn_set (G := fun b => b = w.heap.size + 1 + 1) (g := w.heap.size + 1 + 1) (j := 4) (u := .slice ua4 x4.length uc4) rfl)) | skip
  replace g0 := (hw.block _ (by omega) (by omega)).trans g0
  replace g1 := (hw.block _ (by omega) (by omega)).trans g1
  have g2n := (heap_setCell_same _ (w.heap.size + 1 + 1) 4 _ _ (.slice ua4 x4.length uc4) g2)
  replace g2 : (w3.setCell ⟨w.heap.size + 1 + 1, 4, none⟩ (.slice ua4 x4.length uc4)).heap[w.heap.size + 1 + 1]? = some (.cells #[.slice ua0 x0.length uc0, .int .i64 a1, .int .i64 a2, .slice ua3 x3.length uc3, .slice ua4 x4.length uc4, .slice none 0 0, .slice none 0 0, .int .i64 0] 42 (0, 0)) := by simpa using g2n
  clear g2n
  replace o0 := slO_turn tVersionS_law o0 hw (fun b h1 h2 => by first | (have := h1.1; omega) | (have := q0 b h1; omega))
  replace o3 := slO_turn tInt_law o3 hw (fun b h1 h2 => by first | (have := h1.1; omega) | (have := q3 b h1; omega))
  replace o4 := slO_turn tActive_law o4 hw (fun b h1 h2 => by first | (have := h1.1; omega) | (have := q4 b h1; omega))
  replace hb := below_turn hb hw (fun b h => by omega) (by omega)
  have hz2 := hw.size
  clear hw
  generalize (w3.setCell ⟨w.heap.size + 1 + 1, 4, none⟩ (.slice ua4 x4.length uc4)) = W3 at *
  refine (toFinishedS_S v5 x5 W3 (slR_below tFinished_law H5.out hb) S5.out).mono ?_
  rintro e w4 ⟨u5, rfl, o5, b1⟩
  obtain ⟨ua5, uc5, rfl⟩ := slO_len o5
  replace o5 := slO_mono (slO_lt tFinished_law o5) (F' := fun b => W3.heap.size ≤ b ∧ b < w4.heap.size) (fun b h => h)
  replace g0 := (b1.block _ (by omega)).trans g0
  replace g1 := (b1.block _ (by omega)).trans g1
  replace g2 := (b1.block _ (by omega)).trans g2
  replace o0 := slO_fresh tVersionS_law o0 b1
  replace o3 := slO_fresh tInt_law o3 b1
  replace o4 := slO_fresh tActive_law o4 b1
  have zz4 := b1.size
  replace hb := hb.trans (b1.mono (by omega))
  clear b1
  have c2_0 := (cell_of_row w4 _ 0 _ _ _ g2).trans (show _ = some (Value.slice ua0 x0.length uc0) from rfl)
  have f2_0 := frozen_of_row w4 _ 0 _ _ g2
  have c2_1 := (cell_of_row w4 _ 1 _ _ _ g2).trans (show _ = some (Value.int .i64 a1) from rfl)
  have f2_1 := frozen_of_row w4 _ 1 _ _ g2
  have c2_2 := (cell_of_row w4 _ 2 _ _ _ g2).trans (show _ = some (Value.int .i64 a2) from rfl)
  have f2_2 := frozen_of_row w4 _ 2 _ _ g2
  have c2_3 := (cell_of_row w4 _ 3 _ _ _ g2).trans (show _ = some (Value.slice ua3 x3.length uc3) from rfl)
  have f2_3 := frozen_of_row w4 _ 3 _ _ g2
  have c2_4 := (cell_of_row w4 _ 4 _ _ _ g2).trans (show _ = some (Value.slice ua4 x4.length uc4) from rfl)
  have f2_4 := frozen_of_row w4 _ 4 _ _ g2
  have c2_5 := (cell_of_row w4 _ 5 _ _ _ g2).trans (show _ = some (Value.slice none 0 0) from rfl)
  have f2_5 := frozen_of_row w4 _ 5 _ _ g2
  have ne1 : ¬ w.heap.size = w.heap.size + 1 + 1 := by omega
  have ne2 : ¬ w.heap.size + 1 = w.heap.size + 1 + 1 := by omega
  have ne3 : ¬ w.heap.size + 1 + 1 = w.heap.size + 1 := by omega
  have c0_6 := (cell_of_row w4 _ 6 _ _ _ g0).trans (show _ = some (v6) from rfl)
  have l0_6 : (w4.setCell ⟨w.heap.size + 1 + 1, 5, none⟩ (.slice ua5 x5.length uc5)).cell? ⟨w.heap.size, 6, none⟩ = some (v6) := by
    have m : (w4.setCell ⟨w.heap.size + 1 + 1, 5, none⟩ (.slice ua5 x5.length uc5)).heap[w.heap.size]? = some (.cells #[v0, .int .i64 a1, .int .i64 a2, v3, v4, v5, v6, .int .i64 a7] 52 (0, 0)) := by
      repeat rw [heap_setCell_other _ _ _ _ (by simp <;> omega)]
      exact g0
    exact (cell_of_row _ _ 6 _ _ _ m).trans rfl
  go_wp2_with fail
  clear c2_0 f2_0 c2_1 f2_1 c2_2 f2_2 c2_3 f2_3 c2_4 f2_4 c2_5 f2_5 ne1 ne2 ne3 c0_6 l0_6
  have hw : Turn (fun b => b = w.heap.size + 1 + 1) w4 (w4.setCell ⟨w.heap.size + 1 + 1, 5, none⟩ (.slice ua5 x5.length uc5)) := by
    first | exact ((Turn.refl (fun b => b = w.heap.size + 1 + 1) _).trans (turn_set (G := fun b => b = w.heap.size + 1 + 1) (g := w.heap.size + 1 + 1) (j := 5) (u := .slice ua5 x5.length uc5) rfl)) | skip
  replace g0 := (hw.block _ (by omega) (by omega)).trans g0
  replace g1 := (hw.block _ (by omega) (by omega)).trans g1
  have g2n := (heap_setCell_same _ (w.heap.size + 1 + 1) 5 _ _ (.slice ua5 x5.length uc5) g2)
  replace g2 : (w4.setCell ⟨w.heap.size + 1 + 1, 5, none⟩ (.slice ua5 x5.length uc5)).heap[w.heap.size + 1 + 1]? = some (.cells #[.slice ua0 x0.length uc0, .int .i64 a1, .int .i64 a2, .slice ua3 x3.length uc3, .slice ua4 x4.length uc4, .slice ua5 x5.length uc5, .slice none 0 0, .int .i64 0] 42 (0, 0)) := by simpa using g2n
  clear g2n
  replace o0 := slO_turn tVersionS_law o0 hw (fun b h1 h2 => by first | (have := h1.1; omega) | (have := q0 b h1; omega))
  replace o3 := slO_turn tInt_law o3 hw (fun b h1 h2 => by first | (have := h1.1; omega) | (have := q3 b h1; omega))
  replace o4 := slO_turn tActive_law o4 hw (fun b h1 h2 => by first | (have := h1.1; omega) | (have := q4 b h1; omega))
  replace o5 := slO_turn tFinished_law o5 hw (fun b h1 h2 => by first | (have := h1.1; omega) | (have := q5 b h1; omega))
  replace hb := below_turn hb hw (fun b h => by omega) (by omega)
  have hz3 := hw.size
  clear hw
  generalize (w4.setCell ⟨w.heap.size + 1 + 1, 5, none⟩ (.slice ua5 x5.length uc5)) = W4 at *
  refine (toChargeS_S v6 x6 W4 (slR_below tCharge_law H6.out hb) S6.out).mono ?_
  rintro e w5 ⟨u6, rfl, o6, b1⟩
  obtain ⟨ua6, uc6, rfl⟩ := slO_len o6
  replace o6 := slO_mono (slO_lt tCharge_law o6) (F' := fun b => W4.heap.size ≤ b ∧ b < w5.heap.size) (fun b h => h)
  replace g0 := (b1.block _ (by omega)).trans g0
  replace g1 := (b1.block _ (by omega)).trans g1
  replace g2 := (b1.block _ (by omega)).trans g2
  replace o0 := slO_fresh tVersionS_law o0 b1
  replace o3 := slO_fresh tInt_law o3 b1
  replace o4 := slO_fresh tActive_law o4 b1
  replace o5 := slO_fresh tFinished_law o5 b1
  have zz5 := b1.size
  replace hb := hb.trans (b1.mono (by omega))
  clear b1
  have c2_0 := (cell_of_row w5 _ 0 _ _ _ g2).trans (show _ = some (Value.slice ua0 x0.length uc0) from rfl)
  have f2_0 := frozen_of_row w5 _ 0 _ _ g2
  have c2_1 := (cell_of_row w5 _ 1 _ _ _ g2).trans (show _ = some (Value.int .i64 a1) from rfl)
  have f2_1 := frozen_of_row w5 _ 1 _ _ g2
  have c2_2 := (cell_of_row w5 _ 2 _ _ _ g2).trans (show _ = some (Value.int .i64 a2) from rfl)
  have f2_2 := frozen_of_row w5 _ 2 _ _ g2
  have c2_3 := (cell_of_row w5 _ 3 _ _ _ g2).trans (show _ = some (Value.slice ua3 x3.length uc3) from rfl)
  have f2_3 := frozen_of_row w5 _ 3 _ _ g2
  have c2_4 := (cell_of_row w5 _ 4 _ _ _ g2).trans (show _ = some (Value.slice ua4 x4.length uc4) from rfl)
  have f2_4 := frozen_of_row w5 _ 4 _ _ g2
  have c2_5 := (cell_of_row w5 _ 5 _ _ _ g2).trans (show _ = some (Value.slice ua5 x5.length uc5) from rfl)
  have f2_5 := frozen_of_row w5 _ 5 _ _ g2
  have c2_6 := (cell_of_row w5 _ 6 _ _ _ g2).trans (show _ = some (Value.slice none 0 0) from rfl)
  have f2_6 := frozen_of_row w5 _ 6 _ _ g2
  have c2_7 := (cell_of_row w5 _ 7 _ _ _ g2).trans (show _ = some (Value.int .i64 0) from rfl)
  have f2_7 := frozen_of_row w5 _ 7 _ _ g2
  have ne1 : ¬ w.heap.size = w.heap.size + 1 + 1 := by omega
  have ne2 : ¬ w.heap.size + 1 = w.heap.size + 1 + 1 := by omega
  have ne3 : ¬ w.heap.size + 1 + 1 = w.heap.size + 1 := by omega
  have c0_7 := (cell_of_row w5 _ 7 _ _ _ g0).trans (show _ = some (Value.int .i64 a7) from rfl)
  have c1_0 := (cell_of_row w5 _ 0 _ _ _ g1).trans (show _ = some (Value.slice none 0 0) from rfl)
  have f1_0 := frozen_of_row w5 _ 0 _ _ g1
  have c1_1 := (cell_of_row w5 _ 1 _ _ _ g1).trans (show _ = some (Value.int .i64 0) from rfl)
  have f1_1 := frozen_of_row w5 _ 1 _ _ g1
  have c1_2 := (cell_of_row w5 _ 2 _ _ _ g1).trans (show _ = some (Value.int .i64 0) from rfl)
  have f1_2 := frozen_of_row w5 _ 2 _ _ g1
  have c1_3 := (cell_of_row w5 _ 3 _ _ _ g1).trans (show _ = some (Value.slice none 0 0) from rfl)
  have f1_3 := frozen_of_row w5 _ 3 _ _ g1
  have c1_4 := (cell_of_row w5 _ 4 _ _ _ g1).trans (show _ = some (Value.slice none 0 0) from rfl)
  have f1_4 := frozen_of_row w5 _ 4 _ _ g1
  have c1_5 := (cell_of_row w5 _ 5 _ _ _ g1).trans (show _ = some (Value.slice none 0 0) from rfl)
  have f1_5 := frozen_of_row w5 _ 5 _ _ g1
  have c1_6 := (cell_of_row w5 _ 6 _ _ _ g1).trans (show _ = some (Value.slice none 0 0) from rfl)
  have f1_6 := frozen_of_row w5 _ 6 _ _ g1
  have c1_7 := (cell_of_row w5 _ 7 _ _ _ g1).trans (show _ = some (Value.int .i64 0) from rfl)
  have f1_7 := frozen_of_row w5 _ 7 _ _ g1
  have l0_7 : (w5.setCell ⟨w.heap.size + 1 + 1, 6, none⟩ (.slice ua6 x6.length uc6)).cell? ⟨w.heap.size, 7, none⟩ = some (Value.int .i64 a7) := by
    have m : (w5.setCell ⟨w.heap.size + 1 + 1, 6, none⟩ (.slice ua6 x6.length uc6)).heap[w.heap.size]? = some (.cells #[v0, .int .i64 a1, .int .i64 a2, v3, v4, v5, v6, .int .i64 a7] 52 (0, 0)) := by
      repeat rw [heap_setCell_other _ _ _ _ (by simp <;> omega)]
      exact g0
    exact (cell_of_row _ _ 7 _ _ _ m).trans rfl
  go_wp2
  clear c2_0 f2_0 c2_1 f2_1 c2_2 f2_2 c2_3 f2_3 c2_4 f2_4 c2_5 f2_5 c2_6 f2_6 c2_7 f2_7 ne1 ne2 ne3 c0_7 c1_0 f1_0 c1_1 f1_1 c1_2 f1_2 c1_3 f1_3 c1_4 f1_4 c1_5 f1_5 c1_6 f1_6 c1_7 f1_7 l0_7
  have hw : Turn (fun b => b = w.heap.size + 1 ∨ b = w.heap.size + 1 + 1) w5 ((((((((((w5.setCell ⟨w.heap.size + 1 + 1, 6, none⟩ (.slice ua6 x6.length uc6)).setCell ⟨w.heap.size + 1 + 1, 7, none⟩ (.int .i64 a7)).setCell ⟨w.heap.size + 1, 0, none⟩ (.slice ua0 x0.length uc0)).setCell ⟨w.heap.size + 1, 1, none⟩ (.int .i64 a1)).setCell ⟨w.heap.size + 1, 2, none⟩ (.int .i64 a2)).setCell ⟨w.heap.size + 1, 3, none⟩ (.slice ua3 x3.length uc3)).setCell ⟨w.heap.size + 1, 4, none⟩ (.slice ua4 x4.length uc4)).setCell ⟨w.heap.size + 1, 5, none⟩ (.slice ua5 x5.length uc5)).setCell ⟨w.heap.size + 1, 6, none⟩ (.slice ua6 x6.length uc6)).setCell ⟨w.heap.size + 1, 7, none⟩ (.int .i64 a7)) := by
    first | exact (((((((((((Turn.refl _ _).trans (turn_set (g := w.heap.size + 1 + 1) (j := 6) (u := .slice ua6 x6.length uc6) (Or.inr rfl))).trans (turn_set (g := w.heap.size + 1 + 1) (j := 7) (u := .int .i64 a7) (Or.inr rfl))).trans (turn_set (g := w.heap.size + 1) (j := 0) (u := .slice ua0 x0.length uc0) (Or.inl rfl))).trans (turn_set (g := w.heap.size + 1) (j := 1) (u := .int .i64 a1) (Or.inl rfl))).trans (turn_set (g := w.heap.size + 1) (j := 2) (u := .int .i64 a2) (Or.inl rfl))).trans (turn_set (g := w.heap.size + 1) (j := 3) (u := .slice ua3 x3.length uc3) (Or.inl rfl))).trans (turn_set (g := w.heap.size + 1) (j := 4) (u := .slice ua4 x4.length uc4) (Or.inl rfl))).trans (turn_set (g := w.heap.size + 1) (j := 5) (u := .slice ua5 x5.length uc5) (Or.inl rfl))).trans (turn_set (g := w.heap.size + 1) (j := 6) (u := .slice ua6 x6.length uc6) (Or.inl rfl))).trans (turn_set (g := w.heap.size + 1) (j := 7) (u := .int .i64 a7) (Or.inl rfl))) | skip
  have r := (heap_setCell_same _ (w.heap.size + 1) 7 _ _ (.int .i64 a7) (heap_setCell_same _ (w.heap.size + 1) 6 _ _ (.slice ua6 x6.length uc6) (heap_setCell_same _ (w.heap.size + 1) 5 _ _ (.slice ua5 x5.length uc5) (heap_setCell_same _ (w.heap.size + 1) 4 _ _ (.slice ua4 x4.length uc4) (heap_setCell_same _ (w.heap.size + 1) 3 _ _ (.slice ua3 x3.length uc3) (heap_setCell_same _ (w.heap.size + 1) 2 _ _ (.int .i64 a2) (heap_setCell_same _ (w.heap.size + 1) 1 _ _ (.int .i64 a1) (heap_setCell_same _ (w.heap.size + 1) 0 _ _ (.slice ua0 x0.length uc0) ((heap_setCell_other _ ⟨w.heap.size + 1 + 1, 7, none⟩ (w.heap.size + 1) (.int .i64 a7) (by simp)).trans ((heap_setCell_other _ ⟨w.heap.size + 1 + 1, 6, none⟩ (w.heap.size + 1) (.slice ua6 x6.length uc6) (by simp)).trans g1))))))))))
  have e0 := cell_of_row _ _ 0 _ _ _ r
  have e1 := cell_of_row _ _ 1 _ _ _ r
  have e2 := cell_of_row _ _ 2 _ _ _ r
  have e3 := cell_of_row _ _ 3 _ _ _ r
  have e4 := cell_of_row _ _ 4 _ _ _ r
  have e5 := cell_of_row _ _ 5 _ _ _ r
  have e6 := cell_of_row _ _ 6 _ _ _ r
  have e7 := cell_of_row _ _ 7 _ _ _ r
  simp at e0 e1 e2 e3 e4 e5 e6 e7
  replace o0 := slO_turn tVersionS_law o0 hw (fun b h1 h2 => by first | (have := h1.1; omega) | (have := q0 b h1; omega))
  replace o3 := slO_turn tInt_law o3 hw (fun b h1 h2 => by first | (have := h1.1; omega) | (have := q3 b h1; omega))
  replace o4 := slO_turn tActive_law o4 hw (fun b h1 h2 => by first | (have := h1.1; omega) | (have := q4 b h1; omega))
  replace o5 := slO_turn tFinished_law o5 hw (fun b h1 h2 => by first | (have := h1.1; omega) | (have := q5 b h1; omega))
  replace o6 := slO_turn tCharge_law o6 hw (fun b h1 h2 => by first | (have := h1.1; omega) | (have := q6 b h1; omega))
  replace hb := below_turn hb hw (fun b h => by omega) (by omega)
  refine bodyPost_ret (v := .agg #[.slice ua0 x0.length uc0, .int .i64 a1, .int .i64 a2, .slice ua3 x3.length uc3, .slice ua4 x4.length uc4, .slice ua5 x5.length uc5, .slice ua6 x6.length uc6, .int .i64 a7]) ?_ rfl ?_
  · simp [results, Try.f23, go_sem, e0, e1, e2, e3, e4, e5, e6, e7]
  · exact ⟨[.slice ua0 x0.length uc0, .int .i64 a1, .int .i64 a2, .slice ua3 x3.length uc3, .slice ua4 x4.length uc4, .slice ua5 x5.length uc5, .slice ua6 x6.length uc6, .int .i64 a7], rfl, tEngine_mkO o0 o3 o4 o5 o6 (fun b h => by show w.heap.size ≤ b; first | (have := h.1; omega) | (have := q0 b h; omega)) (fun b h => by show w.heap.size ≤ b; first | (have := h.1; omega) | (have := q3 b h; omega)) (fun b h => by show w.heap.size ≤ b; first | (have := h.1; omega) | (have := q4 b h; omega)) (fun b h => by show w.heap.size ≤ b; first | (have := h.1; omega) | (have := q5 b h; omega)) (fun b h => by show w.heap.size ≤ b; first | (have := h.1; omega) | (have := q6 b h; omega)) (fun b h1 h2 => by first | exact d0_3 b h1 h2 | (have := h1.1; have := h1.2; have := h2.1; have := h2.2; omega) | (have := q0 b h1; have := h2.1; have := h2.2; omega) | (have := h1.1; have := h1.2; have := q3 b h2; omega) | (have := q0 b h1; have := q3 b h2; omega)) (fun b h1 h2 => by first | exact d0_4 b h1 h2 | (have := h1.1; have := h1.2; have := h2.1; have := h2.2; omega) | (have := q0 b h1; have := h2.1; have := h2.2; omega) | (have := h1.1; have := h1.2; have := q4 b h2; omega) | (have := q0 b h1; have := q4 b h2; omega)) (fun b h1 h2 => by first | exact d0_5 b h1 h2 | (have := h1.1; have := h1.2; have := h2.1; have := h2.2; omega) | (have := q0 b h1; have := h2.1; have := h2.2; omega) | (have := h1.1; have := h1.2; have := q5 b h2; omega) | (have := q0 b h1; have := q5 b h2; omega)) (fun b h1 h2 => by first | exact d0_6 b h1 h2 | (have := h1.1; have := h1.2; have := h2.1; have := h2.2; omega) | (have := q0 b h1; have := h2.1; have := h2.2; omega) | (have := h1.1; have := h1.2; have := q6 b h2; omega) | (have := q0 b h1; have := q6 b h2; omega)) (fun b h1 h2 => by first | exact d3_4 b h1 h2 | (have := h1.1; have := h1.2; have := h2.1; have := h2.2; omega) | (have := q3 b h1; have := h2.1; have := h2.2; omega) | (have := h1.1; have := h1.2; have := q4 b h2; omega) | (have := q3 b h1; have := q4 b h2; omega)) (fun b h1 h2 => by first | exact d3_5 b h1 h2 | (have := h1.1; have := h1.2; have := h2.1; have := h2.2; omega) | (have := q3 b h1; have := h2.1; have := h2.2; omega) | (have := h1.1; have := h1.2; have := q5 b h2; omega) | (have := q3 b h1; have := q5 b h2; omega)) (fun b h1 h2 => by first | exact d3_6 b h1 h2 | (have := h1.1; have := h1.2; have := h2.1; have := h2.2; omega) | (have := q3 b h1; have := h2.1; have := h2.2; omega) | (have := h1.1; have := h1.2; have := q6 b h2; omega) | (have := q3 b h1; have := q6 b h2; omega)) (fun b h1 h2 => by first | exact d4_5 b h1 h2 | (have := h1.1; have := h1.2; have := h2.1; have := h2.2; omega) | (have := q4 b h1; have := h2.1; have := h2.2; omega) | (have := h1.1; have := h1.2; have := q5 b h2; omega) | (have := q4 b h1; have := q5 b h2; omega)) (fun b h1 h2 => by first | exact d4_6 b h1 h2 | (have := h1.1; have := h1.2; have := h2.1; have := h2.2; omega) | (have := q4 b h1; have := h2.1; have := h2.2; omega) | (have := h1.1; have := h1.2; have := q6 b h2; omega) | (have := q4 b h1; have := q6 b h2; omega)) (fun b h1 h2 => by first | exact d5_6 b h1 h2 | (have := h1.1; have := h1.2; have := h2.1; have := h2.2; omega) | (have := q5 b h1; have := h2.1; have := h2.2; omega) | (have := h1.1; have := h1.2; have := q6 b h2; omega) | (have := q5 b h1; have := q6 b h2; omega)), hb⟩
set_option maxHeartbeats 8000000 in
set_option maxRecDepth 100000 in
theorem eqEngine_T (a1 a2 a7 : Int) (v0 v3 v4 v5 v6 : Value) (x0 : List (List (Int × List Int × Int × Int))) (x3 : List Int) (x4 : List ((Int × Int × List (Int × Int × Int) × List Int) × Int × List Int × Int × Int × Int × List (Int × List Int))) (x5 : List ((Int × Int × List (Int × Int × Int) × List Int) × Int × Int × List (Int × List Int))) (x6 : List (Int × Int × List Int × List Int × List Int)) (u0 u3 u4 u5 u6 : Value) (w : World) (h0 : SlR tVersionS w v0 x0) (h3 : SlR tInt w v3 x3) (h4 : SlR tActive w v4 x4) (h5 : SlR tFinished w v5 x5) (h6 : SlR tCharge w v6 x6) (g0 : SlR tVersionS w u0 x0) (g3 : SlR tInt w u3 x3) (g4 : SlR tActive w u4 x4) (g5 : SlR tFinished w u5 x5) (g6 : SlR tCharge w u6 x6) (s0 : zL tVersionS x0 ≤ 1048576) (s3 : zL tInt x3 ≤ 1048576) (s4 : zL tActive x4 ≤ 1048576) (s5 : zL tFinished x5 ≤ 1048576) (s6 : zL tCharge x6 ≤ 1048576) :
    Calls Try.prog 18 #[.agg #[v0, .int .i64 a1, .int .i64 a2, v3, v4, v5, v6, .int .i64 a7], .agg #[u0, .int .i64 a1, .int .i64 a2, u3, u4, u5, u6, .int .i64 a7]] w fun e w' => e = .returned (.bool true) ∧ Below w.heap.size w w' := by
  have H0 := Lib.hid h0; have G0 := Lib.hid g0; have S0 := Lib.hid s0
  have H3 := Lib.hid h3; have G3 := Lib.hid g3; have S3 := Lib.hid s3
  have H4 := Lib.hid h4; have G4 := Lib.hid g4; have S4 := Lib.hid s4
  have H5 := Lib.hid h5; have G5 := Lib.hid g5; have S5 := Lib.hid s5
  have H6 := Lib.hid h6; have G6 := Lib.hid g6; have S6 := Lib.hid s6
  clear h0 g0 s0 h3 g3 s3 h4 g4 s4 h5 g5 s5 h6 g6 s6
  have e1 : (a1 != a1) = false := by simp
  have e2 : (a2 != a2) = false := by simp
  have e7 : (a7 != a7) = false := by simp
  go_enter Try.func18, Try.ntmps18
  go_wp2_with fail
  have hb : Below w.heap.size w ((w.alloc (.cells #[v0, .int .i64 a1, .int .i64 a2, v3, v4, v5, v6, .int .i64 a7] 42)).alloc (.cells #[u0, .int .i64 a1, .int .i64 a2, u3, u4, u5, u6, .int .i64 a7] 42)) := ((Below.refl _ w).alloc (Nat.le_refl _) _).alloc (by simp) _
  have g1 : ((w.alloc (.cells #[v0, .int .i64 a1, .int .i64 a2, v3, v4, v5, v6, .int .i64 a7] 42)).alloc (.cells #[u0, .int .i64 a1, .int .i64 a2, u3, u4, u5, u6, .int .i64 a7] 42)).heap[w.heap.size + 1]? = some (.cells #[u0, .int .i64 a1, .int .i64 a2, u3, u4, u5, u6, .int .i64 a7] 42 (0, 0)) := by
    have := heap_alloc_new (w.alloc (.cells #[v0, .int .i64 a1, .int .i64 a2, v3, v4, v5, v6, .int .i64 a7] 42)) (.cells #[u0, .int .i64 a1, .int .i64 a2, u3, u4, u5, u6, .int .i64 a7] 42)
    simpa only [World.size_alloc] using this
  have g0 : ((w.alloc (.cells #[v0, .int .i64 a1, .int .i64 a2, v3, v4, v5, v6, .int .i64 a7] 42)).alloc (.cells #[u0, .int .i64 a1, .int .i64 a2, u3, u4, u5, u6, .int .i64 a7] 42)).heap[w.heap.size]? = some (.cells #[v0, .int .i64 a1, .int .i64 a2, v3, v4, v5, v6, .int .i64 a7] 42 (0, 0)) := by
    rw [Below.heap_alloc _ _ _ (by simp)]
    exact heap_alloc_new w _
  have hz : w.heap.size + 1 < ((w.alloc (.cells #[v0, .int .i64 a1, .int .i64 a2, v3, v4, v5, v6, .int .i64 a7] 42)).alloc (.cells #[u0, .int .i64 a1, .int .i64 a2, u3, u4, u5, u6, .int .i64 a7] 42)).heap.size := by simp [World.size_alloc]
  generalize ((w.alloc (.cells #[v0, .int .i64 a1, .int .i64 a2, v3, v4, v5, v6, .int .i64 a7] 42)).alloc (.cells #[u0, .int .i64 a1, .int .i64 a2, u3, u4, u5, u6, .int .i64 a7] 42)) = W at *
  refine (eqStore_T a1 v0 x0 u0 W (slR_below tVersionS_law H0.out hb) (slR_below tVersionS_law G0.out hb) S0.out).mono ?_
  rintro e w1 ⟨rfl, b1⟩
  replace g0 := (b1.block _ (by omega)).trans g0
  replace g1 := (b1.block _ (by omega)).trans g1
  have zz0 := b1.size
  replace hb := hb.trans (b1.mono (by omega))
  clear b1
  have p0_2 := (cell_of_row w1 _ 2 _ _ _ g0).trans (show _ = some (Value.int .i64 a2) from rfl)
  have p1_2 := (cell_of_row w1 _ 2 _ _ _ g1).trans (show _ = some (Value.int .i64 a2) from rfl)
  have p0_3 := (cell_of_row w1 _ 3 _ _ _ g0).trans (show _ = some (v3) from rfl)
  have p1_3 := (cell_of_row w1 _ 3 _ _ _ g1).trans (show _ = some (u3) from rfl)
  go_wp2_with fail
  clear p0_2 p1_2 p0_3 p1_3
  refine (eqIntS_S v3 u3 x3 w1 (slR_below tInt_law H3.out hb) (slR_below tInt_law G3.out hb) S3.out).mono ?_
  rintro e w2 ⟨rfl, b1⟩
  replace g0 := (b1.block _ (by omega)).trans g0
  replace g1 := (b1.block _ (by omega)).trans g1
  have zz1 := b1.size
  replace hb := hb.trans (b1.mono (by omega))
  clear b1
  have p0_4 := (cell_of_row w2 _ 4 _ _ _ g0).trans (show _ = some (v4) from rfl)
  have p1_4 := (cell_of_row w2 _ 4 _ _ _ g1).trans (show _ = some (u4) from rfl)
  go_wp2_with fail
  clear p0_4 p1_4
  refine (eqActiveS_S v4 u4 x4 w2 (slR_below tActive_law H4.out hb) (slR_below tActive_law G4.out hb) S4.out).mono ?_
  rintro e w3 ⟨rfl, b1⟩
  replace g0 := (b1.block _ (by omega)).trans g0
  replace g1 := (b1.block _ (by omega)).trans g1
  have zz2 := b1.size
  replace hb := hb.trans (b1.mono (by omega))
  clear b1
  have p0_5 := (cell_of_row w3 _ 5 _ _ _ g0).trans (show _ = some (v5) from rfl)
  have p1_5 := (cell_of_row w3 _ 5 _ _ _ g1).trans (show _ = some (u5) from rfl)
  go_wp2_with fail
  clear p0_5 p1_5
  refine (eqFinishedS_S v5 u5 x5 w3 (slR_below tFinished_law H5.out hb) (slR_below tFinished_law G5.out hb) S5.out).mono ?_
  rintro e w4 ⟨rfl, b1⟩
  replace g0 := (b1.block _ (by omega)).trans g0
  replace g1 := (b1.block _ (by omega)).trans g1
  have zz3 := b1.size
  replace hb := hb.trans (b1.mono (by omega))
  clear b1
  have p0_6 := (cell_of_row w4 _ 6 _ _ _ g0).trans (show _ = some (v6) from rfl)
  have p1_6 := (cell_of_row w4 _ 6 _ _ _ g1).trans (show _ = some (u6) from rfl)
  go_wp2_with fail
  clear p0_6 p1_6
  refine (eqChargeS_S v6 u6 x6 w4 (slR_below tCharge_law H6.out hb) (slR_below tCharge_law G6.out hb) S6.out).mono ?_
  rintro e w5 ⟨rfl, b1⟩
  replace g0 := (b1.block _ (by omega)).trans g0
  replace g1 := (b1.block _ (by omega)).trans g1
  have zz4 := b1.size
  replace hb := hb.trans (b1.mono (by omega))
  clear b1
  have p0_7 := (cell_of_row w5 _ 7 _ _ _ g0).trans (show _ = some (Value.int .i64 a7) from rfl)
  have p1_7 := (cell_of_row w5 _ 7 _ _ _ g1).trans (show _ = some (Value.int .i64 a7) from rfl)
  go_wp2
  clear p0_7 p1_7
  go_ret
  exact ⟨rfl, hb⟩
end Go.Proofs.Ytdhglmoanpkeoaa
namespace Go.Proofs.Ytdhglmoanpkeoaa
open Go.RowKit
set_option linter.unusedVariables false
set_option linter.unusedSimpArgs false
theorem act_at {w : World} {v : Value} {l : List ActD} (h : SlR tActive w v l) {k : Nat} (hk : k < l.length) :
    ∃ (b off cap : Nat) (p2 : Option Addr) (c2 : Nat) (p3 : Option Addr) (c3 : Nat) (p5 : Option Addr) (c5 : Nat) (p9 : Option Addr) (c9 : Nat), v = .slice (some ⟨b, off, none⟩) l.length cap ∧ b < w.heap.size ∧ w.cell? ⟨b, off + k * 10, none⟩ = some (.int .i64 (l.getD k a0D).1.1) ∧ w.cell? ⟨b, off + k * 10 + 1, none⟩ = some (.int .i64 (l.getD k a0D).1.2.1) ∧ w.cell? ⟨b, off + k * 10 + 2, none⟩ = some (.slice p2 (l.getD k a0D).1.2.2.1.length c2) ∧ w.cell? ⟨b, off + k * 10 + 3, none⟩ = some (.slice p3 (l.getD k a0D).1.2.2.2.length c3) ∧ w.cell? ⟨b, off + k * 10 + 4, none⟩ = some (.int .i64 (l.getD k a0D).2.1) ∧ w.cell? ⟨b, off + k * 10 + 5, none⟩ = some (.slice p5 (l.getD k a0D).2.2.1.length c5) ∧ w.cell? ⟨b, off + k * 10 + 6, none⟩ = some (.int .i64 (l.getD k a0D).2.2.2.1) ∧ w.cell? ⟨b, off + k * 10 + 7, none⟩ = some (.int .i64 (l.getD k a0D).2.2.2.2.1) ∧ w.cell? ⟨b, off + k * 10 + 8, none⟩ = some (.int .i64 (l.getD k a0D).2.2.2.2.2.1) ∧ w.cell? ⟨b, off + k * 10 + 9, none⟩ = some (.slice p9 (l.getD k a0D).2.2.2.2.2.2.length c9) ∧ SlR tCond w (.slice p2 (l.getD k a0D).1.2.2.1.length c2) (l.getD k a0D).1.2.2.1 ∧ SlR tInt w (.slice p3 (l.getD k a0D).1.2.2.2.length c3) (l.getD k a0D).1.2.2.2 ∧ SlR tInt w (.slice p5 (l.getD k a0D).2.2.1.length c5) (l.getD k a0D).2.2.1 ∧ SlR tRow w (.slice p9 (l.getD k a0D).2.2.2.2.2.2.length c9) (l.getD k a0D).2.2.2.2.2.2 := by
  obtain ⟨b, off, cap, cs, hv, hb, hc, hR⟩ := slR_at h hk
  change tActive.R w cs (l.getD k a0D) at hR
  generalize l.getD k a0D = r at *
  obtain ⟨⟨a0, a1, x2, x3⟩, a4, x5, a6, a7, a8, x9⟩ := r
  obtain ⟨v2, v3, v5, v9, rfl, h2, h3, h5, h9⟩ := tActive_R hR
  obtain ⟨p2, c2, rfl⟩ := slR_len h2
  obtain ⟨p3, c3, rfl⟩ := slR_len h3
  obtain ⟨p5, c5, rfl⟩ := slR_len h5
  obtain ⟨p9, c9, rfl⟩ := slR_len h9
  exact ⟨b, off, cap, p2, c2, p3, c3, p5, c5, p9, c9, hv, hb, hc 0 (by decide), hc 1 (by decide), hc 2 (by decide), hc 3 (by decide), hc 4 (by decide), hc 5 (by decide), hc 6 (by decide), hc 7 (by decide), hc 8 (by decide), hc 9 (by decide), h2, h3, h5, h9⟩
theorem ret_n {a b : Int} (h : a = b) : Ending.returned (.int .i64 a) = .returned (.int .i64 b) := by rw [h]
end Go.Proofs.Ytdhglmoanpkeoaa
namespace Go.Proofs.Ytdhglmoanpkeoaa
open Go.RowKit
set_option linter.unusedVariables false
set_option linter.unusedSimpArgs false
end Go.Proofs.Ytdhglmoanpkeoaa
namespace Go.Proofs.Ytdhglmoanpkeoaa
open Go.RowKit
set_option linter.unusedVariables false
set_option linter.unusedSimpArgs false
set_option maxHeartbeats 8000000 in
set_option maxRecDepth 100000 in
theorem specFindActive (now cu st id : Int) (sv ov av dv lv : Value) (l : List ActD) (w : World) (h : SlR tActive w av l) (hn : l.length ≤ 1048576) :
    Calls Try.prog 22 #[.agg #[sv, .int .i64 now, .int .i64 cu, ov, av, dv, lv, .int .i64 st], .int .i64 id] w (fun e w' => e = .returned (.int .i64 (findA l id)) ∧ Below w.heap.size w w') := by
  obtain ⟨a, cap, rfl⟩ := slR_len h
  have H := Lib.hid h
  clear h
  have d := Lib.hid (show Below w.heap.size w (w.alloc (.cells #[sv, .int .i64 now, .int .i64 cu, ov, .slice a l.length cap, dv, lv, .int .i64 st] 42)) from ((Below.refl _ w).alloc (Nat.le_refl _) _))
  have B0 : Hid ((w.alloc (.cells #[sv, .int .i64 now, .int .i64 cu, ov, .slice a l.length cap, dv, lv, .int .i64 st] 42)).heap[w.heap.size]? = some (.cells #[sv, .int .i64 now, .int .i64 cu, ov, .slice a l.length cap, dv, lv, .int .i64 st] 42 (0, 0))) := Lib.hid (by
    exact heap_alloc_new w _)
  have YW : Hid (w.heap.size + 1 ≤ (w.alloc (.cells #[sv, .int .i64 now, .int .i64 cu, ov, .slice a l.length cap, dv, lv, .int .i64 st] 42)).heap.size) := Lib.hid (by simp [World.size_alloc])
  go_enter Try.func22, Try.ntmps22
  go_wp2
  generalize (w.alloc (.cells #[sv, .int .i64 now, .int .i64 cu, ov, .slice a l.length cap, dv, lv, .int .i64 st] 42)) = W at *
  go_loopw [5] (fun i wr => ∃ k : Nat, k ≤ l.length ∧ i = .int .i64 k ∧ Hid (∀ i, i < k → ¬ (l.getD i a0D).1.1 = id) ∧ Below W.heap.size W wr) (fun i _ => l.length - (intOf i).toNat)
  case atStart => exact ⟨0, Nat.zero_le _, rfl, Lib.hid (fun j hj => absurd hj (Nat.not_lt_zero j)), Below.refl _ _⟩
  case round =>
    obtain ⟨k, hk, rfl, hno, c⟩ := hrel
    have cw := Lib.hid c
    replace B0 := Lib.hid ((c.block w.heap.size (Array.getElem?_eq_some_iff.1 B0.out).1).trans B0.out)
    replace d := Lib.hid (d.out.trans (c.mono d.out.size))
    clear c
    have p4 := (cell_of_row wr _ 4 _ _ _ B0.out).trans (show _ = some (Value.slice a l.length cap) from rfl)
    by_cases hlt : k < l.length
    · have i1 : (0 : Int) ≤ (k : Int) := by omega
      have i2 : (k : Int) < (l.length : Int) := by omega
      obtain ⟨b, off, cap', p2, c2, p3, c3, p5, c5, p9, c9, hv, hbl, e0, e1, e2, e3, e4, e5, e6, e7, e8, e9, s2, s3, s5, s9⟩ := act_at (slR_below tActive_law H.out d.out) hlt
      simp only [Value.slice.injEq] at hv
      obtain ⟨rfl, _, rfl⟩ := hv
      clear e1 e2 e3 e4 e5 e6 e7 e8 e9 s2 s3 s5 s9 hbl
      have HF : Hid ((l.getD k a0D).1.1 = id → findA l id = k) := Lib.hid (fun g => findA_at hlt hno.out g)
      have HS : Hid (¬ (l.getD k a0D).1.1 = id → ∀ i, i < k + 1 → ¬ (l.getD i a0D).1.1 = id) := Lib.hid (fun g i hi => by
        by_cases e : i = k
        · subst e; exact g
        · exact hno.out i (by omega))
      clear hno
      generalize (l.getD k a0D).1.1 = x at *
      by_cases hx : x = id
      · have HE := Lib.hid (HF.out hx)
        subst hx
        clear HF HS
        go_wp2
        go_ret
        exact ⟨ret_n HE.out.symm, d.out⟩
      · have HT := Lib.hid (HS.out hx)
        have hx2 : (x == id) = false := by simpa using hx
        clear HF HS hx
        go_wp2
        go_roundw
        case rel => exact ⟨k + 1, by omega, by go_num, HT, cw.out⟩
        case measure => simp [intOf]; omega
    · obtain rfl : k = l.length := by omega
      have HE : Hid (findA l id = -1) := Lib.hid (findA_none hno.out)
      clear hno
      go_wp2
      go_ret
      exact ⟨ret_n HE.out.symm, d.out⟩
end Go.Proofs.Ytdhglmoanpkeoaa
namespace Go.Proofs.Ytdhglmoanpkeoaa
open Go.RowKit
set_option linter.unusedVariables false
set_option linter.unusedSimpArgs false
set_option maxHeartbeats 8000000 in
set_option maxRecDepth 100000 in
theorem findClos (a0 a1 a4 a6 a7 a8 id : Int) (p2 p3 p5 p9 : Option Addr) (n2 c2 n3 c3 n5 c5 n9 c9 B : Nat) (w : World) (h : w.heap[B]? = some (.cells #[.int .i64 id] 3 (0, 0))) :
    Calls Try.prog 110 #[.agg #[.int .i64 a0, .int .i64 a1, .slice p2 n2 c2, .slice p3 n3 c3, .int .i64 a4, .slice p5 n5 c5, .int .i64 a6, .int .i64 a7, .int .i64 a8, .slice p9 n9 c9], .pointer (some ⟨B, 0, none⟩)] w fun e w' => e = .returned (.bool (decide (a0 = id))) ∧ Below w.heap.size w w' := by
  have hB := (((Below.refl w.heap.size w).alloc (Nat.le_refl _) (.cells #[.int .i64 a0, .int .i64 a1, .slice p2 n2 c2, .slice p3 n3 c3, .int .i64 a4, .slice p5 n5 c5, .int .i64 a6, .int .i64 a7, .int .i64 a8, .slice p9 n9 c9] 92)).block B (Array.getElem?_eq_some_iff.1 h).1).trans h
  have c0 := (cell_of_row _ _ 0 _ _ _ hB).trans (show _ = some (Value.int .i64 id) from rfl)
  have d := Lib.hid (show Below w.heap.size w (w.alloc (.cells #[.int .i64 a0, .int .i64 a1, .slice p2 n2 c2, .slice p3 n3 c3, .int .i64 a4, .slice p5 n5 c5, .int .i64 a6, .int .i64 a7, .int .i64 a8, .slice p9 n9 c9] 92)) from (Below.refl _ _).alloc (Nat.le_refl _) _)
  clear h hB
  by_cases e : a0 = id
  · have e2 : (a0 == id) = true := by simp [e]
    have e3 : Hid (decide (a0 = id) = true) := Lib.hid (decide_eq_true e)
    rw [e3.out]
    clear e
    go_enter Try.func110, Try.ntmps110
    go_wp2
    go_ret
    exact ⟨ret_b (by simp), d.out⟩
  · have e2 : (a0 == id) = false := by simp [e]
    have e3 : Hid (decide (a0 = id) = false) := Lib.hid (decide_eq_false e)
    rw [e3.out]
    clear e
    go_enter Try.func110, Try.ntmps110
    go_wp2
    go_ret
    exact ⟨ret_b (by simp), d.out⟩
set_option maxHeartbeats 8000000 in
set_option maxRecDepth 100000 in
theorem findIdx_any (v : Value) (l : List ActD) (id : Int) (B : Nat) (w : World) (h : SlR tActive w v l) (hs : l.length ≤ 1048576) (hB : w.heap[B]? = some (.cells #[.int .i64 id] 3 (0, 0))) :
    Calls Try.prog 109 #[v, .func (.func 110) #[] #[.pointer (some ⟨B, 0, none⟩)]] w fun e w' => e = .returned (.int .i64 (findA l id)) ∧ Below w.heap.size w w' := by
  have H := Lib.hid h
  obtain ⟨a, cap, rfl⟩ := slR_len h
  have BB := Lib.hid hB
  clear h hB
  go_enter Try.func109, Try.ntmps109
  go_wp2
  go_loopw [8] (fun i wr => ∃ k : Nat, k ≤ l.length ∧ i = .int .i64 k ∧ Hid (∀ j, j < k → ¬ (l.getD j a0D).1.1 = id) ∧ Below w.heap.size w wr) (fun i _ => l.length - (intOf i).toNat)
  case atStart => exact ⟨0, Nat.zero_le _, rfl, Lib.hid (fun j hj => absurd hj (Nat.not_lt_zero j)), Below.refl _ _⟩
  case round =>
    obtain ⟨k, hk, rfl, hno, c⟩ := hrel
    have cw := Lib.hid c
    by_cases hlt : k < l.length
    · have i1 : (0 : Int) ≤ (k : Int) := by omega
      have i2 : (k : Int) < (l.length : Int) := by omega
      obtain ⟨b, off, cap', p2, c2, p3, c3, p5, c5, p9, c9, hv, hbl, e0, e1, e2, e3, e4, e5, e6, e7, e8, e9, s2, s3, s5, s9⟩ := act_at (slR_below tActive_law H.out c) hlt
      simp only [Value.slice.injEq] at hv
      obtain ⟨rfl, _, rfl⟩ := hv
      have HF : Hid ((l.getD k a0D).1.1 = id → findA l id = k) := Lib.hid (fun g => findA_at hlt hno.out g)
      have HS : Hid (¬ (l.getD k a0D).1.1 = id → ∀ i, i < k + 1 → ¬ (l.getD i a0D).1.1 = id) := Lib.hid (fun g i hi => by
        by_cases e : i = k
        · subst e; exact g
        · exact hno.out i (by omega))
      have HC := Lib.hid (findClos (l.getD k a0D).1.1 (l.getD k a0D).1.2.1 (l.getD k a0D).2.1 (l.getD k a0D).2.2.2.1 (l.getD k a0D).2.2.2.2.1 (l.getD k a0D).2.2.2.2.2.1 id p2 p3 p5 p9 (l.getD k a0D).1.2.2.1.length c2 (l.getD k a0D).1.2.2.2.length c3 (l.getD k a0D).2.2.1.length c5 (l.getD k a0D).2.2.2.2.2.2.length c9 B wr ((cw.out.block B (Array.getElem?_eq_some_iff.1 BB.out).1).trans BB.out))
      clear hno s2 s3 s5 s9 hbl c
      generalize l.getD k a0D = x at *
      obtain ⟨⟨x0, x1, x2, x3⟩, x4, x5, x6, x7, x8, x9⟩ := x
      dsimp only at *
      generalize x2.length = n2 at *
      generalize x3.length = n3 at *
      generalize x5.length = n5 at *
      generalize x9.length = n9 at *
      by_cases hx : x0 = id
      · have HE := Lib.hid (HF.out hx)
        rw [decide_eq_true hx] at HC
        clear HF HS hx
        go_wp2_with fail
        refine HC.out.mono ?_
        rintro e w2 ⟨rfl, c⟩
        have d2 := Lib.hid (cw.out.trans (c.mono cw.out.size))
        clear c e0 e1 e2 e3 e4 e5 e6 e7 e8 e9 HC
        go_wp2
        go_ret
        exact ⟨ret_n HE.out.symm, d2.out⟩
      · have HT := Lib.hid (HS.out hx)
        rw [decide_eq_false hx] at HC
        clear HF HS hx
        go_wp2_with fail
        refine HC.out.mono ?_
        rintro e w2 ⟨rfl, c⟩
        have d2 := Lib.hid (cw.out.trans (c.mono cw.out.size))
        clear c e0 e1 e2 e3 e4 e5 e6 e7 e8 e9 HC
        go_wp2
        go_roundw
        case rel => exact ⟨k + 1, by omega, by go_num, HT, d2.out⟩
        case measure => simp [intOf]; omega
    · obtain rfl : k = l.length := by omega
      have HE : Hid (findA l id = -1) := Lib.hid (findA_none hno.out)
      clear hno c
      go_wp2
      go_ret
      exact ⟨ret_n HE.out.symm, cw.out⟩
set_option maxHeartbeats 8000000 in
set_option maxRecDepth 100000 in
theorem find_any (v : Value) (l : List ActD) (id : Int) (w : World) (h : SlR tActive w v l) (hs : l.length ≤ 1048576) :
    Calls Try.prog 63 #[v, .int .i64 id] w fun e w' => e = .returned (.int .i64 (findA l id)) ∧ Below w.heap.size w w' := by
  have hal : Below w.heap.size w (w.alloc (.cells #[.int .i64 id] 3)) := (Below.refl _ _).alloc (Nat.le_refl _) _
  have d := Lib.hid hal
  have HC := Lib.hid (findIdx_any v l id w.heap.size _ (slR_below tActive_law h hal) hs (heap_alloc_new w (.cells #[.int .i64 id] 3)))
  have hmf : ∀ (fn : Fn) (first cap : Array Value) (w : World), (Instr.makeFunc fn first cap).run Try.prog w = .ok (.func fn first cap) w := fun _ _ _ _ => rfl
  obtain ⟨a, cap, rfl⟩ := slR_len h
  clear hal h
  go_enter Try.func63, Try.ntmps63
  go_wp2_with fail
  refine HC.out.mono ?_
  rintro e w1 ⟨rfl, c⟩
  have d2 := Lib.hid (d.out.trans (c.mono d.out.size))
  clear c HC
  go_wp2
  go_ret
  exact ⟨rfl, d2.out⟩
set_option maxHeartbeats 8000000 in
set_option maxRecDepth 100000 in
theorem implFindActive (now cu st id : Int) (sv ov av dv lv : Value) (l : List ActD) (w : World) (h : SlR tActive w av l) (hn : l.length ≤ 1048576) :
    Calls Try.prog 24 #[.agg #[sv, .int .i64 now, .int .i64 cu, ov, av, dv, lv, .int .i64 st], .int .i64 id] w (fun e w' => e = .returned (.int .i64 (findA l id)) ∧ Below w.heap.size w w') := by
  obtain ⟨a, cap, rfl⟩ := slR_len h
  have H := Lib.hid h
  clear h
  have d := Lib.hid (show Below w.heap.size w (w.alloc (.cells #[sv, .int .i64 now, .int .i64 cu, ov, .slice a l.length cap, dv, lv, .int .i64 st] 42)) from ((Below.refl _ w).alloc (Nat.le_refl _) _))
  have B0 : Hid ((w.alloc (.cells #[sv, .int .i64 now, .int .i64 cu, ov, .slice a l.length cap, dv, lv, .int .i64 st] 42)).heap[w.heap.size]? = some (.cells #[sv, .int .i64 now, .int .i64 cu, ov, .slice a l.length cap, dv, lv, .int .i64 st] 42 (0, 0))) := Lib.hid (by
    exact heap_alloc_new w _)
  have YW : Hid (w.heap.size + 1 ≤ (w.alloc (.cells #[sv, .int .i64 now, .int .i64 cu, ov, .slice a l.length cap, dv, lv, .int .i64 st] 42)).heap.size) := Lib.hid (by simp [World.size_alloc])
  go_enter Try.func24, Try.ntmps24
  skip
  have p4 := (cell_of_row _ _ 4 _ _ _ B0.out).trans (show _ = some (Value.slice a l.length cap) from rfl)
  go_wp2_with fail
  refine (find_any _ l id _ (slR_below tActive_law H.out d.out) hn).mono ?_
  rintro e w1 ⟨rfl, c⟩
  have d2 := Lib.hid (d.out.trans (c.mono d.out.size))
  clear c p4
  go_wp2
  go_ret
  exact ⟨rfl, d2.out⟩
end Go.Proofs.Ytdhglmoanpkeoaa
namespace Go.Proofs.Ytdhglmoanpkeoaa
open Go.RowKit
set_option linter.unusedVariables false
set_option linter.unusedSimpArgs false
set_option maxHeartbeats 32000000 in
set_option maxRecDepth 100000 in
theorem law_fnExactFindActive (a0_1 a0_2 a0_7 : Int) (v0_0 v0_3 v0_4 v0_5 v0_6 : Value) (x0_0 : List (List (Int × List Int × Int × Int))) (x0_3 : List Int) (x0_4 : List ((Int × Int × List (Int × Int × Int) × List Int) × Int × List Int × Int × Int × Int × List (Int × List Int))) (x0_5 : List ((Int × Int × List (Int × Int × Int) × List Int) × Int × Int × List (Int × List Int))) (x0_6 : List (Int × Int × List Int × List Int × List Int)) (n1 : Int) (w1 : (Lit.int .i64 n1).wf = true) (r0 : Int) (w : World) (h0_0 : SlR tVersionS w v0_0 x0_0) (h0_3 : SlR tInt w v0_3 x0_3) (h0_4 : SlR tActive w v0_4 x0_4) (h0_5 : SlR tFinished w v0_5 x0_5) (h0_6 : SlR tCharge w v0_6 x0_6) (o0_0 : tVersionSS.ok x0_0) (o0_3 : tIntS.ok x0_3) (o0_4 : tActiveS.ok x0_4) (o0_5 : tFinishedS.ok x0_5) (o0_6 : tChargeS.ok x0_6) 
    (hspec : ∀ (v0_0 v0_3 v0_4 v0_5 v0_6 : Value) (w : World), SlR tVersionS w v0_0 x0_0 → SlR tInt w v0_3 x0_3 → SlR tActive w v0_4 x0_4 → SlR tFinished w v0_5 x0_5 → SlR tCharge w v0_6 x0_6 → zL tVersionS x0_0 + zL tInt x0_3 + zL tActive x0_4 + zL tFinished x0_5 + zL tCharge x0_6 ≤ 1048576 → Calls Try.prog 22 #[.agg #[v0_0, .int .i64 a0_1, .int .i64 a0_2, v0_3, v0_4, v0_5, v0_6, .int .i64 a0_7], .int .i64 n1] w (fun e w' => e = .returned (.int .i64 r0) ∧ Below w.heap.size w w'))
    (himpl : ∀ (v0_0 v0_3 v0_4 v0_5 v0_6 : Value) (w : World), SlR tVersionS w v0_0 x0_0 → SlR tInt w v0_3 x0_3 → SlR tActive w v0_4 x0_4 → SlR tFinished w v0_5 x0_5 → SlR tCharge w v0_6 x0_6 → zL tVersionS x0_0 + zL tInt x0_3 + zL tActive x0_4 + zL tFinished x0_5 + zL tCharge x0_6 ≤ 1048576 → Calls Try.prog 24 #[.agg #[v0_0, .int .i64 a0_1, .int .i64 a0_2, v0_3, v0_4, v0_5, v0_6, .int .i64 a0_7], .int .i64 n1] w (fun e w' => e = .returned (.int .i64 r0) ∧ Below w.heap.size w w')) :
    Calls Try.prog 5 #[.agg #[v0_0, .int .i64 a0_1, .int .i64 a0_2, v0_3, v0_4, v0_5, v0_6, .int .i64 a0_7], .int .i64 n1] w fun e w' => e = .returned (.bool true) ∧ Below w.heap.size w w' := by
  obtain ⟨c0_0, k0_0, rfl⟩ := slR_len h0_0
  obtain ⟨c0_3, k0_3, rfl⟩ := slR_len h0_3
  obtain ⟨c0_4, k0_4, rfl⟩ := slR_len h0_4
  obtain ⟨c0_5, k0_5, rfl⟩ := slR_len h0_5
  obtain ⟨c0_6, k0_6, rfl⟩ := slR_len h0_6
  have HB0 : Hid (Below w.heap.size w (w.alloc (.cells #[.slice c0_0 x0_0.length k0_0, .int .i64 a0_1, .int .i64 a0_2, .slice c0_3 x0_3.length k0_3, .slice c0_4 x0_4.length k0_4, .slice c0_5 x0_5.length k0_5, .slice c0_6 x0_6.length k0_6, .int .i64 a0_7] 52))) := Lib.hid ((Below.refl _ w).alloc (Nat.le_refl _) _)
  have B0 : Hid ((w.alloc (.cells #[.slice c0_0 x0_0.length k0_0, .int .i64 a0_1, .int .i64 a0_2, .slice c0_3 x0_3.length k0_3, .slice c0_4 x0_4.length k0_4, .slice c0_5 x0_5.length k0_5, .slice c0_6 x0_6.length k0_6, .int .i64 a0_7] 52)).heap[w.heap.size]? = some (.cells #[.slice c0_0 x0_0.length k0_0, .int .i64 a0_1, .int .i64 a0_2, .slice c0_3 x0_3.length k0_3, .slice c0_4 x0_4.length k0_4, .slice c0_5 x0_5.length k0_5, .slice c0_6 x0_6.length k0_6, .int .i64 a0_7] 52 (0, 0))) := Lib.hid (by have := heap_alloc_new w (.cells #[.slice c0_0 x0_0.length k0_0, .int .i64 a0_1, .int .i64 a0_2, .slice c0_3 x0_3.length k0_3, .slice c0_4 x0_4.length k0_4, .slice c0_5 x0_5.length k0_5, .slice c0_6 x0_6.length k0_6, .int .i64 a0_7] 52); simpa only [World.size_alloc] using this)
  have A0_0 : Hid (SlR tVersionS (w.alloc (.cells #[.slice c0_0 x0_0.length k0_0, .int .i64 a0_1, .int .i64 a0_2, .slice c0_3 x0_3.length k0_3, .slice c0_4 x0_4.length k0_4, .slice c0_5 x0_5.length k0_5, .slice c0_6 x0_6.length k0_6, .int .i64 a0_7] 52)) (.slice c0_0 x0_0.length k0_0) x0_0) := Lib.hid (slR_below tVersionS_law h0_0 HB0.out)
  have A0_3 : Hid (SlR tInt (w.alloc (.cells #[.slice c0_0 x0_0.length k0_0, .int .i64 a0_1, .int .i64 a0_2, .slice c0_3 x0_3.length k0_3, .slice c0_4 x0_4.length k0_4, .slice c0_5 x0_5.length k0_5, .slice c0_6 x0_6.length k0_6, .int .i64 a0_7] 52)) (.slice c0_3 x0_3.length k0_3) x0_3) := Lib.hid (slR_below tInt_law h0_3 HB0.out)
  have A0_4 : Hid (SlR tActive (w.alloc (.cells #[.slice c0_0 x0_0.length k0_0, .int .i64 a0_1, .int .i64 a0_2, .slice c0_3 x0_3.length k0_3, .slice c0_4 x0_4.length k0_4, .slice c0_5 x0_5.length k0_5, .slice c0_6 x0_6.length k0_6, .int .i64 a0_7] 52)) (.slice c0_4 x0_4.length k0_4) x0_4) := Lib.hid (slR_below tActive_law h0_4 HB0.out)
  have A0_5 : Hid (SlR tFinished (w.alloc (.cells #[.slice c0_0 x0_0.length k0_0, .int .i64 a0_1, .int .i64 a0_2, .slice c0_3 x0_3.length k0_3, .slice c0_4 x0_4.length k0_4, .slice c0_5 x0_5.length k0_5, .slice c0_6 x0_6.length k0_6, .int .i64 a0_7] 52)) (.slice c0_5 x0_5.length k0_5) x0_5) := Lib.hid (slR_below tFinished_law h0_5 HB0.out)
  have A0_6 : Hid (SlR tCharge (w.alloc (.cells #[.slice c0_0 x0_0.length k0_0, .int .i64 a0_1, .int .i64 a0_2, .slice c0_3 x0_3.length k0_3, .slice c0_4 x0_4.length k0_4, .slice c0_5 x0_5.length k0_5, .slice c0_6 x0_6.length k0_6, .int .i64 a0_7] 52)) (.slice c0_6 x0_6.length k0_6) x0_6) := Lib.hid (slR_below tCharge_law h0_6 HB0.out)
  have O0_0 := Lib.hid o0_0
  have O0_3 := Lib.hid o0_3
  have O0_4 := Lib.hid o0_4
  have O0_5 := Lib.hid o0_5
  have O0_6 := Lib.hid o0_6
  clear h0_0 o0_0 h0_3 o0_3 h0_4 o0_4 h0_5 o0_5 h0_6 o0_6
  have HSP := Lib.hid hspec
  have HIM := Lib.hid himpl
  clear hspec himpl
  by_cases c0 : ((zL tVersionS x0_0 + zL tInt x0_3 + zL tActive x0_4 + zL tFinished x0_5 + zL tCharge x0_6 : Nat) : Int) ≤ (1048576 : Int)
  ·
    have HZ0 : Hid (((zL tVersionS x0_0 + zL tInt x0_3 + zL tActive x0_4 + zL tFinished x0_5 + zL tCharge x0_6 : Nat) : Int) ≤ (1048576 : Int)) := Lib.hid c0
    have HK0 : Hid ((1048576 : Int) ≤ 1048576) := Lib.hid (by omega)
    have hn0 : ¬ (1048576 : Int) - ((zL tVersionS x0_0 + zL tInt x0_3 + zL tActive x0_4 + zL tFinished x0_5 + zL tCharge x0_6 : Nat) : Int) < 0 := by omega
    have HT : Hid (zL tVersionS x0_0 + zL tInt x0_3 + zL tActive x0_4 + zL tFinished x0_5 + zL tCharge x0_6 ≤ 1048576) := Lib.hid (by omega)
    have S0_0 : Hid (zL tVersionS x0_0 ≤ 1048576) := Lib.hid (by omega)
    have S0_3 : Hid (zL tInt x0_3 ≤ 1048576) := Lib.hid (by omega)
    have S0_4 : Hid (zL tActive x0_4 ≤ 1048576) := Lib.hid (by omega)
    have S0_5 : Hid (zL tFinished x0_5 ≤ 1048576) := Lib.hid (by omega)
    have S0_6 : Hid (zL tCharge x0_6 ≤ 1048576) := Lib.hid (by omega)
    have N0_0 := ndL_le tVersionS_law (by decide) x0_0
    have N0_3 := ndL_le tInt_law (by decide) x0_3
    have N0_4 := ndL_le tActive_law (by decide) x0_4
    have N0_5 := ndL_le tFinished_law (by decide) x0_5
    have N0_6 := ndL_le tCharge_law (by decide) x0_6
    clear N0_0 N0_3 N0_4 N0_5 N0_6
    have e0 : (r0 != r0) = false := by simp
    clear c0
    go_enter Try.func5, Try.ntmps5
    go_wp2_with fail
    have Y_W : Hid (w.heap.size + 1 ≤ (w.alloc (.cells #[.slice c0_0 x0_0.length k0_0, .int .i64 a0_1, .int .i64 a0_2, .slice c0_3 x0_3.length k0_3, .slice c0_4 x0_4.length k0_4, .slice c0_5 x0_5.length k0_5, .slice c0_6 x0_6.length k0_6, .int .i64 a0_7] 52)).heap.size) := Lib.hid (by simp [World.size_alloc])
    generalize (w.alloc (.cells #[.slice c0_0 x0_0.length k0_0, .int .i64 a0_1, .int .i64 a0_2, .slice c0_3 x0_3.length k0_3, .slice c0_4 x0_4.length k0_4, .slice c0_5 x0_5.length k0_5, .slice c0_6 x0_6.length k0_6, .int .i64 a0_7] 52)) = W at *
    have d := Lib.hid (Below.refl W.heap.size W)
    refine (szEngine_Y a0_1 a0_2 a0_7 (.slice c0_0 x0_0.length k0_0) (.slice c0_3 x0_3.length k0_3) (.slice c0_4 x0_4.length k0_4) (.slice c0_5 x0_5.length k0_5) (.slice c0_6 x0_6.length k0_6) x0_0 x0_3 x0_4 x0_5 x0_6 ((1048576 : Int)) W (slR_below tVersionS_law A0_0.out d.out) (slR_below tInt_law A0_3.out d.out) (slR_below tActive_law A0_4.out d.out) (slR_below tFinished_law A0_5.out d.out) (slR_below tCharge_law A0_6.out d.out) HZ0.out HK0.out).mono ?_
    rintro e v1 ⟨rfl, c1⟩
    replace B0 := Lib.hid ((c1.block w.heap.size (Array.getElem?_eq_some_iff.1 B0.out).1).trans B0.out)
    replace d := Lib.hid (d.out.trans (c1.mono d.out.size))
    have Z_v1 := Lib.hid (show W.heap.size ≤ v1.heap.size from c1.size)
    clear c1
    have p_B0_0 := (cell_of_row v1 _ 0 _ _ _ B0.out).trans (show _ = some (Value.slice c0_0 x0_0.length k0_0) from rfl)
    have p_B0_1 := (cell_of_row v1 _ 1 _ _ _ B0.out).trans (show _ = some (Value.int .i64 a0_1) from rfl)
    have p_B0_2 := (cell_of_row v1 _ 2 _ _ _ B0.out).trans (show _ = some (Value.int .i64 a0_2) from rfl)
    have p_B0_3 := (cell_of_row v1 _ 3 _ _ _ B0.out).trans (show _ = some (Value.slice c0_3 x0_3.length k0_3) from rfl)
    have p_B0_4 := (cell_of_row v1 _ 4 _ _ _ B0.out).trans (show _ = some (Value.slice c0_4 x0_4.length k0_4) from rfl)
    have p_B0_5 := (cell_of_row v1 _ 5 _ _ _ B0.out).trans (show _ = some (Value.slice c0_5 x0_5.length k0_5) from rfl)
    have p_B0_6 := (cell_of_row v1 _ 6 _ _ _ B0.out).trans (show _ = some (Value.slice c0_6 x0_6.length k0_6) from rfl)
    have p_B0_7 := (cell_of_row v1 _ 7 _ _ _ B0.out).trans (show _ = some (Value.int .i64 a0_7) from rfl)
    go_wp2_with fail
    clear p_B0_0 p_B0_1 p_B0_2 p_B0_3 p_B0_4 p_B0_5 p_B0_6 p_B0_7
    refine (toEngine_T a0_1 a0_2 a0_7 (.slice c0_0 x0_0.length k0_0) (.slice c0_3 x0_3.length k0_3) (.slice c0_4 x0_4.length k0_4) (.slice c0_5 x0_5.length k0_5) (.slice c0_6 x0_6.length k0_6) x0_0 x0_3 x0_4 x0_5 x0_6 v1 (slR_below tVersionS_law A0_0.out d.out) (slR_below tInt_law A0_3.out d.out) (slR_below tActive_law A0_4.out d.out) (slR_below tFinished_law A0_5.out d.out) (slR_below tCharge_law A0_6.out d.out) S0_0.out S0_3.out S0_4.out S0_5.out S0_6.out).mono ?_
    rintro e v2 ⟨cs, rfl, ow, c2⟩
    replace B0 := Lib.hid ((c2.block w.heap.size (Array.getElem?_eq_some_iff.1 B0.out).1).trans B0.out)
    replace d := Lib.hid (d.out.trans (c2.mono d.out.size))
    have Z_v2 := Lib.hid (show v1.heap.size ≤ v2.heap.size from c2.size)
    clear c2
    replace ow := tEngine_law.lt ow
    obtain ⟨y2_0, y2_3, y2_4, y2_5, y2_6, K2_0, K2_3, K2_4, K2_5, K2_6, rfl, p2_0, p2_3, p2_4, p2_5, p2_6, w2_0, w2_3, w2_4, w2_5, w2_6, d2_0_3, d2_0_4, d2_0_5, d2_0_6, d2_3_4, d2_3_5, d2_3_6, d2_4_5, d2_4_6, d2_5_6⟩ := tEngine_O ow
    obtain ⟨ya2_0, yc2_0, rfl⟩ := slO_len p2_0
    have P2_0 := Lib.hid p2_0
    have Q2_0 := Lib.hid (fun b h => (show v1.heap.size ≤ b ∧ b < v2.heap.size from w2_0 b h))
    obtain ⟨ya2_3, yc2_3, rfl⟩ := slO_len p2_3
    have P2_3 := Lib.hid p2_3
    have Q2_3 := Lib.hid (fun b h => (show v1.heap.size ≤ b ∧ b < v2.heap.size from w2_3 b h))
    obtain ⟨ya2_4, yc2_4, rfl⟩ := slO_len p2_4
    have P2_4 := Lib.hid p2_4
    have Q2_4 := Lib.hid (fun b h => (show v1.heap.size ≤ b ∧ b < v2.heap.size from w2_4 b h))
    obtain ⟨ya2_5, yc2_5, rfl⟩ := slO_len p2_5
    have P2_5 := Lib.hid p2_5
    have Q2_5 := Lib.hid (fun b h => (show v1.heap.size ≤ b ∧ b < v2.heap.size from w2_5 b h))
    obtain ⟨ya2_6, yc2_6, rfl⟩ := slO_len p2_6
    have P2_6 := Lib.hid p2_6
    have Q2_6 := Lib.hid (fun b h => (show v1.heap.size ≤ b ∧ b < v2.heap.size from w2_6 b h))
    have D2_0_3 := Lib.hid d2_0_3
    clear d2_0_3
    have D2_0_4 := Lib.hid d2_0_4
    clear d2_0_4
    have D2_0_5 := Lib.hid d2_0_5
    clear d2_0_5
    have D2_0_6 := Lib.hid d2_0_6
    clear d2_0_6
    have D2_3_4 := Lib.hid d2_3_4
    clear d2_3_4
    have D2_3_5 := Lib.hid d2_3_5
    clear d2_3_5
    have D2_3_6 := Lib.hid d2_3_6
    clear d2_3_6
    have D2_4_5 := Lib.hid d2_4_5
    clear d2_4_5
    have D2_4_6 := Lib.hid d2_4_6
    clear d2_4_6
    have D2_5_6 := Lib.hid d2_5_6
    clear d2_5_6
    clear p2_0 w2_0 p2_3 w2_3 p2_4 w2_4 p2_5 w2_5 p2_6 w2_6 ow
    go_wp2_with fail
    refine (HSP.out (.slice ya2_0 x0_0.length yc2_0) (.slice ya2_3 x0_3.length yc2_3) (.slice ya2_4 x0_4.length yc2_4) (.slice ya2_5 x0_5.length yc2_5) (.slice ya2_6 x0_6.length yc2_6) v2 (slO_reads tVersionS_law P2_0.out) (slO_reads tInt_law P2_3.out) (slO_reads tActive_law P2_4.out) (slO_reads tFinished_law P2_5.out) (slO_reads tCharge_law P2_6.out) HT.out ).mono ?_
    rintro e v3 ⟨rfl, c3⟩
    replace B0 := Lib.hid ((c3.block w.heap.size (Array.getElem?_eq_some_iff.1 B0.out).1).trans B0.out)
    replace P2_0 := Lib.hid (slO_fresh tVersionS_law P2_0.out c3)
    replace P2_3 := Lib.hid (slO_fresh tInt_law P2_3.out c3)
    replace P2_4 := Lib.hid (slO_fresh tActive_law P2_4.out c3)
    replace P2_5 := Lib.hid (slO_fresh tFinished_law P2_5.out c3)
    replace P2_6 := Lib.hid (slO_fresh tCharge_law P2_6.out c3)
    replace d := Lib.hid (d.out.trans (c3.mono d.out.size))
    have Z_v3 := Lib.hid (show v2.heap.size ≤ v3.heap.size from c3.size)
    clear c3
    have p_B0_0 := (cell_of_row v3 _ 0 _ _ _ B0.out).trans (show _ = some (Value.slice c0_0 x0_0.length k0_0) from rfl)
    have p_B0_1 := (cell_of_row v3 _ 1 _ _ _ B0.out).trans (show _ = some (Value.int .i64 a0_1) from rfl)
    have p_B0_2 := (cell_of_row v3 _ 2 _ _ _ B0.out).trans (show _ = some (Value.int .i64 a0_2) from rfl)
    have p_B0_3 := (cell_of_row v3 _ 3 _ _ _ B0.out).trans (show _ = some (Value.slice c0_3 x0_3.length k0_3) from rfl)
    have p_B0_4 := (cell_of_row v3 _ 4 _ _ _ B0.out).trans (show _ = some (Value.slice c0_4 x0_4.length k0_4) from rfl)
    have p_B0_5 := (cell_of_row v3 _ 5 _ _ _ B0.out).trans (show _ = some (Value.slice c0_5 x0_5.length k0_5) from rfl)
    have p_B0_6 := (cell_of_row v3 _ 6 _ _ _ B0.out).trans (show _ = some (Value.slice c0_6 x0_6.length k0_6) from rfl)
    have p_B0_7 := (cell_of_row v3 _ 7 _ _ _ B0.out).trans (show _ = some (Value.int .i64 a0_7) from rfl)
    go_wp2_with fail
    clear p_B0_0 p_B0_1 p_B0_2 p_B0_3 p_B0_4 p_B0_5 p_B0_6 p_B0_7
    refine (toEngine_T a0_1 a0_2 a0_7 (.slice c0_0 x0_0.length k0_0) (.slice c0_3 x0_3.length k0_3) (.slice c0_4 x0_4.length k0_4) (.slice c0_5 x0_5.length k0_5) (.slice c0_6 x0_6.length k0_6) x0_0 x0_3 x0_4 x0_5 x0_6 v3 (slR_below tVersionS_law A0_0.out d.out) (slR_below tInt_law A0_3.out d.out) (slR_below tActive_law A0_4.out d.out) (slR_below tFinished_law A0_5.out d.out) (slR_below tCharge_law A0_6.out d.out) S0_0.out S0_3.out S0_4.out S0_5.out S0_6.out).mono ?_
    rintro e v4 ⟨cs, rfl, ow, c4⟩
    replace B0 := Lib.hid ((c4.block w.heap.size (Array.getElem?_eq_some_iff.1 B0.out).1).trans B0.out)
    replace P2_0 := Lib.hid (slO_fresh tVersionS_law P2_0.out c4)
    replace P2_3 := Lib.hid (slO_fresh tInt_law P2_3.out c4)
    replace P2_4 := Lib.hid (slO_fresh tActive_law P2_4.out c4)
    replace P2_5 := Lib.hid (slO_fresh tFinished_law P2_5.out c4)
    replace P2_6 := Lib.hid (slO_fresh tCharge_law P2_6.out c4)
    replace d := Lib.hid (d.out.trans (c4.mono d.out.size))
    have Z_v4 := Lib.hid (show v3.heap.size ≤ v4.heap.size from c4.size)
    clear c4
    replace ow := tEngine_law.lt ow
    obtain ⟨y4_0, y4_3, y4_4, y4_5, y4_6, K4_0, K4_3, K4_4, K4_5, K4_6, rfl, p4_0, p4_3, p4_4, p4_5, p4_6, w4_0, w4_3, w4_4, w4_5, w4_6, d4_0_3, d4_0_4, d4_0_5, d4_0_6, d4_3_4, d4_3_5, d4_3_6, d4_4_5, d4_4_6, d4_5_6⟩ := tEngine_O ow
    obtain ⟨ya4_0, yc4_0, rfl⟩ := slO_len p4_0
    have P4_0 := Lib.hid p4_0
    have Q4_0 := Lib.hid (fun b h => (show v3.heap.size ≤ b ∧ b < v4.heap.size from w4_0 b h))
    obtain ⟨ya4_3, yc4_3, rfl⟩ := slO_len p4_3
    have P4_3 := Lib.hid p4_3
    have Q4_3 := Lib.hid (fun b h => (show v3.heap.size ≤ b ∧ b < v4.heap.size from w4_3 b h))
    obtain ⟨ya4_4, yc4_4, rfl⟩ := slO_len p4_4
    have P4_4 := Lib.hid p4_4
    have Q4_4 := Lib.hid (fun b h => (show v3.heap.size ≤ b ∧ b < v4.heap.size from w4_4 b h))
    obtain ⟨ya4_5, yc4_5, rfl⟩ := slO_len p4_5
    have P4_5 := Lib.hid p4_5
    have Q4_5 := Lib.hid (fun b h => (show v3.heap.size ≤ b ∧ b < v4.heap.size from w4_5 b h))
    obtain ⟨ya4_6, yc4_6, rfl⟩ := slO_len p4_6
    have P4_6 := Lib.hid p4_6
    have Q4_6 := Lib.hid (fun b h => (show v3.heap.size ≤ b ∧ b < v4.heap.size from w4_6 b h))
    have D4_0_3 := Lib.hid d4_0_3
    clear d4_0_3
    have D4_0_4 := Lib.hid d4_0_4
    clear d4_0_4
    have D4_0_5 := Lib.hid d4_0_5
    clear d4_0_5
    have D4_0_6 := Lib.hid d4_0_6
    clear d4_0_6
    have D4_3_4 := Lib.hid d4_3_4
    clear d4_3_4
    have D4_3_5 := Lib.hid d4_3_5
    clear d4_3_5
    have D4_3_6 := Lib.hid d4_3_6
    clear d4_3_6
    have D4_4_5 := Lib.hid d4_4_5
    clear d4_4_5
    have D4_4_6 := Lib.hid d4_4_6
    clear d4_4_6
    have D4_5_6 := Lib.hid d4_5_6
    clear d4_5_6
    clear p4_0 w4_0 p4_3 w4_3 p4_4 w4_4 p4_5 w4_5 p4_6 w4_6 ow
    have hal : Below v4.heap.size v4 (v4.alloc (.cells #[.slice ya4_0 x0_0.length yc4_0, .int .i64 a0_1, .int .i64 a0_2, .slice ya4_3 x0_3.length yc4_3, .slice ya4_4 x0_4.length yc4_4, .slice ya4_5 x0_5.length yc4_5, .slice ya4_6 x0_6.length yc4_6, .int .i64 a0_7] 42)) := (Below.refl _ _).alloc (Nat.le_refl _) _
    have X1 := Lib.hid (heap_alloc_new v4 (.cells #[.slice ya4_0 x0_0.length yc4_0, .int .i64 a0_1, .int .i64 a0_2, .slice ya4_3 x0_3.length yc4_3, .slice ya4_4 x0_4.length yc4_4, .slice ya4_5 x0_5.length yc4_5, .slice ya4_6 x0_6.length yc4_6, .int .i64 a0_7] 42))
    have Y_X1 := Lib.hid (show v4.heap.size < (v4.alloc (.cells #[.slice ya4_0 x0_0.length yc4_0, .int .i64 a0_1, .int .i64 a0_2, .slice ya4_3 x0_3.length yc4_3, .slice ya4_4 x0_4.length yc4_4, .slice ya4_5 x0_5.length yc4_5, .slice ya4_6 x0_6.length yc4_6, .int .i64 a0_7] 42)).heap.size by simp [World.size_alloc])
    replace B0 := Lib.hid ((hal.block w.heap.size (Array.getElem?_eq_some_iff.1 B0.out).1).trans B0.out)
    replace P2_0 := Lib.hid (slO_fresh tVersionS_law P2_0.out hal)
    replace P2_3 := Lib.hid (slO_fresh tInt_law P2_3.out hal)
    replace P2_4 := Lib.hid (slO_fresh tActive_law P2_4.out hal)
    replace P2_5 := Lib.hid (slO_fresh tFinished_law P2_5.out hal)
    replace P2_6 := Lib.hid (slO_fresh tCharge_law P2_6.out hal)
    replace P4_0 := Lib.hid (slO_fresh tVersionS_law P4_0.out hal)
    replace P4_3 := Lib.hid (slO_fresh tInt_law P4_3.out hal)
    replace P4_4 := Lib.hid (slO_fresh tActive_law P4_4.out hal)
    replace P4_5 := Lib.hid (slO_fresh tFinished_law P4_5.out hal)
    replace P4_6 := Lib.hid (slO_fresh tCharge_law P4_6.out hal)
    replace d := Lib.hid (d.out.trans (hal.mono d.out.size))
    clear hal
    have p_X1_0 := (cell_of_row (v4.alloc (.cells #[.slice ya4_0 x0_0.length yc4_0, .int .i64 a0_1, .int .i64 a0_2, .slice ya4_3 x0_3.length yc4_3, .slice ya4_4 x0_4.length yc4_4, .slice ya4_5 x0_5.length yc4_5, .slice ya4_6 x0_6.length yc4_6, .int .i64 a0_7] 42)) _ 0 _ _ _ X1.out).trans (show _ = some (Value.slice ya4_0 x0_0.length yc4_0) from rfl)
    have p_X1_1 := (cell_of_row (v4.alloc (.cells #[.slice ya4_0 x0_0.length yc4_0, .int .i64 a0_1, .int .i64 a0_2, .slice ya4_3 x0_3.length yc4_3, .slice ya4_4 x0_4.length yc4_4, .slice ya4_5 x0_5.length yc4_5, .slice ya4_6 x0_6.length yc4_6, .int .i64 a0_7] 42)) _ 1 _ _ _ X1.out).trans (show _ = some (Value.int .i64 a0_1) from rfl)
    have p_X1_2 := (cell_of_row (v4.alloc (.cells #[.slice ya4_0 x0_0.length yc4_0, .int .i64 a0_1, .int .i64 a0_2, .slice ya4_3 x0_3.length yc4_3, .slice ya4_4 x0_4.length yc4_4, .slice ya4_5 x0_5.length yc4_5, .slice ya4_6 x0_6.length yc4_6, .int .i64 a0_7] 42)) _ 2 _ _ _ X1.out).trans (show _ = some (Value.int .i64 a0_2) from rfl)
    have p_X1_3 := (cell_of_row (v4.alloc (.cells #[.slice ya4_0 x0_0.length yc4_0, .int .i64 a0_1, .int .i64 a0_2, .slice ya4_3 x0_3.length yc4_3, .slice ya4_4 x0_4.length yc4_4, .slice ya4_5 x0_5.length yc4_5, .slice ya4_6 x0_6.length yc4_6, .int .i64 a0_7] 42)) _ 3 _ _ _ X1.out).trans (show _ = some (Value.slice ya4_3 x0_3.length yc4_3) from rfl)
    have p_X1_4 := (cell_of_row (v4.alloc (.cells #[.slice ya4_0 x0_0.length yc4_0, .int .i64 a0_1, .int .i64 a0_2, .slice ya4_3 x0_3.length yc4_3, .slice ya4_4 x0_4.length yc4_4, .slice ya4_5 x0_5.length yc4_5, .slice ya4_6 x0_6.length yc4_6, .int .i64 a0_7] 42)) _ 4 _ _ _ X1.out).trans (show _ = some (Value.slice ya4_4 x0_4.length yc4_4) from rfl)
    have p_X1_5 := (cell_of_row (v4.alloc (.cells #[.slice ya4_0 x0_0.length yc4_0, .int .i64 a0_1, .int .i64 a0_2, .slice ya4_3 x0_3.length yc4_3, .slice ya4_4 x0_4.length yc4_4, .slice ya4_5 x0_5.length yc4_5, .slice ya4_6 x0_6.length yc4_6, .int .i64 a0_7] 42)) _ 5 _ _ _ X1.out).trans (show _ = some (Value.slice ya4_5 x0_5.length yc4_5) from rfl)
    have p_X1_6 := (cell_of_row (v4.alloc (.cells #[.slice ya4_0 x0_0.length yc4_0, .int .i64 a0_1, .int .i64 a0_2, .slice ya4_3 x0_3.length yc4_3, .slice ya4_4 x0_4.length yc4_4, .slice ya4_5 x0_5.length yc4_5, .slice ya4_6 x0_6.length yc4_6, .int .i64 a0_7] 42)) _ 6 _ _ _ X1.out).trans (show _ = some (Value.slice ya4_6 x0_6.length yc4_6) from rfl)
    have p_X1_7 := (cell_of_row (v4.alloc (.cells #[.slice ya4_0 x0_0.length yc4_0, .int .i64 a0_1, .int .i64 a0_2, .slice ya4_3 x0_3.length yc4_3, .slice ya4_4 x0_4.length yc4_4, .slice ya4_5 x0_5.length yc4_5, .slice ya4_6 x0_6.length yc4_6, .int .i64 a0_7] 42)) _ 7 _ _ _ X1.out).trans (show _ = some (Value.int .i64 a0_7) from rfl)
    go_wp2_with fail
    clear p_X1_0 p_X1_1 p_X1_2 p_X1_3 p_X1_4 p_X1_5 p_X1_6 p_X1_7
    generalize (v4.alloc (.cells #[.slice ya4_0 x0_0.length yc4_0, .int .i64 a0_1, .int .i64 a0_2, .slice ya4_3 x0_3.length yc4_3, .slice ya4_4 x0_4.length yc4_4, .slice ya4_5 x0_5.length yc4_5, .slice ya4_6 x0_6.length yc4_6, .int .i64 a0_7] 42)) = u5 at *
    refine (HIM.out (.slice ya4_0 x0_0.length yc4_0) (.slice ya4_3 x0_3.length yc4_3) (.slice ya4_4 x0_4.length yc4_4) (.slice ya4_5 x0_5.length yc4_5) (.slice ya4_6 x0_6.length yc4_6) u5 (slO_reads tVersionS_law P4_0.out) (slO_reads tInt_law P4_3.out) (slO_reads tActive_law P4_4.out) (slO_reads tFinished_law P4_5.out) (slO_reads tCharge_law P4_6.out) HT.out ).mono ?_
    rintro e v6 ⟨rfl, c6⟩
    replace B0 := Lib.hid ((c6.block w.heap.size (Array.getElem?_eq_some_iff.1 B0.out).1).trans B0.out)
    replace X1 := Lib.hid ((c6.block v4.heap.size (Array.getElem?_eq_some_iff.1 X1.out).1).trans X1.out)
    replace P2_0 := Lib.hid (slO_fresh tVersionS_law P2_0.out c6)
    replace P2_3 := Lib.hid (slO_fresh tInt_law P2_3.out c6)
    replace P2_4 := Lib.hid (slO_fresh tActive_law P2_4.out c6)
    replace P2_5 := Lib.hid (slO_fresh tFinished_law P2_5.out c6)
    replace P2_6 := Lib.hid (slO_fresh tCharge_law P2_6.out c6)
    replace P4_0 := Lib.hid (slO_fresh tVersionS_law P4_0.out c6)
    replace P4_3 := Lib.hid (slO_fresh tInt_law P4_3.out c6)
    replace P4_4 := Lib.hid (slO_fresh tActive_law P4_4.out c6)
    replace P4_5 := Lib.hid (slO_fresh tFinished_law P4_5.out c6)
    replace P4_6 := Lib.hid (slO_fresh tCharge_law P4_6.out c6)
    replace d := Lib.hid (d.out.trans (c6.mono d.out.size))
    have Z_v6 := Lib.hid (show u5.heap.size ≤ v6.heap.size from c6.size)
    clear c6
    go_wp2
    have p_B0_0 := (cell_of_row v6 _ 0 _ _ _ B0.out).trans (show _ = some (Value.slice c0_0 x0_0.length k0_0) from rfl)
    have p_B0_1 := (cell_of_row v6 _ 1 _ _ _ B0.out).trans (show _ = some (Value.int .i64 a0_1) from rfl)
    have p_B0_2 := (cell_of_row v6 _ 2 _ _ _ B0.out).trans (show _ = some (Value.int .i64 a0_2) from rfl)
    have p_B0_3 := (cell_of_row v6 _ 3 _ _ _ B0.out).trans (show _ = some (Value.slice c0_3 x0_3.length k0_3) from rfl)
    have p_B0_4 := (cell_of_row v6 _ 4 _ _ _ B0.out).trans (show _ = some (Value.slice c0_4 x0_4.length k0_4) from rfl)
    have p_B0_5 := (cell_of_row v6 _ 5 _ _ _ B0.out).trans (show _ = some (Value.slice c0_5 x0_5.length k0_5) from rfl)
    have p_B0_6 := (cell_of_row v6 _ 6 _ _ _ B0.out).trans (show _ = some (Value.slice c0_6 x0_6.length k0_6) from rfl)
    have p_B0_7 := (cell_of_row v6 _ 7 _ _ _ B0.out).trans (show _ = some (Value.int .i64 a0_7) from rfl)
    have p_X1_0 := (cell_of_row v6 _ 0 _ _ _ X1.out).trans (show _ = some (Value.slice ya4_0 x0_0.length yc4_0) from rfl)
    have p_X1_1 := (cell_of_row v6 _ 1 _ _ _ X1.out).trans (show _ = some (Value.int .i64 a0_1) from rfl)
    have p_X1_2 := (cell_of_row v6 _ 2 _ _ _ X1.out).trans (show _ = some (Value.int .i64 a0_2) from rfl)
    have p_X1_3 := (cell_of_row v6 _ 3 _ _ _ X1.out).trans (show _ = some (Value.slice ya4_3 x0_3.length yc4_3) from rfl)
    have p_X1_4 := (cell_of_row v6 _ 4 _ _ _ X1.out).trans (show _ = some (Value.slice ya4_4 x0_4.length yc4_4) from rfl)
    have p_X1_5 := (cell_of_row v6 _ 5 _ _ _ X1.out).trans (show _ = some (Value.slice ya4_5 x0_5.length yc4_5) from rfl)
    have p_X1_6 := (cell_of_row v6 _ 6 _ _ _ X1.out).trans (show _ = some (Value.slice ya4_6 x0_6.length yc4_6) from rfl)
    have p_X1_7 := (cell_of_row v6 _ 7 _ _ _ X1.out).trans (show _ = some (Value.int .i64 a0_7) from rfl)
    refine wp_region_held_drew (S := fun w' => w'.cell? ⟨w.heap.size, 0, none⟩ = some (Value.slice c0_0 x0_0.length k0_0) ∧ w'.cell? ⟨w.heap.size, 1, none⟩ = some (Value.int .i64 a0_1) ∧ w'.cell? ⟨w.heap.size, 2, none⟩ = some (Value.int .i64 a0_2) ∧ w'.cell? ⟨w.heap.size, 3, none⟩ = some (Value.slice c0_3 x0_3.length k0_3) ∧ w'.cell? ⟨w.heap.size, 4, none⟩ = some (Value.slice c0_4 x0_4.length k0_4) ∧ w'.cell? ⟨w.heap.size, 5, none⟩ = some (Value.slice c0_5 x0_5.length k0_5) ∧ w'.cell? ⟨w.heap.size, 6, none⟩ = some (Value.slice c0_6 x0_6.length k0_6) ∧ w'.cell? ⟨w.heap.size, 7, none⟩ = some (Value.int .i64 a0_7) ∧ w'.cell? ⟨v4.heap.size, 0, none⟩ = some (Value.slice ya4_0 x0_0.length yc4_0) ∧ w'.cell? ⟨v4.heap.size, 1, none⟩ = some (Value.int .i64 a0_1) ∧ w'.cell? ⟨v4.heap.size, 2, none⟩ = some (Value.int .i64 a0_2) ∧ w'.cell? ⟨v4.heap.size, 3, none⟩ = some (Value.slice ya4_3 x0_3.length yc4_3) ∧ w'.cell? ⟨v4.heap.size, 4, none⟩ = some (Value.slice ya4_4 x0_4.length yc4_4) ∧ w'.cell? ⟨v4.heap.size, 5, none⟩ = some (Value.slice ya4_5 x0_5.length yc4_5) ∧ w'.cell? ⟨v4.heap.size, 6, none⟩ = some (Value.slice ya4_6 x0_6.length yc4_6) ∧ w'.cell? ⟨v4.heap.size, 7, none⟩ = some (Value.int .i64 a0_7)) (by kernel_rfl) ⟨p_B0_0, p_B0_1, p_B0_2, p_B0_3, p_B0_4, p_B0_5, p_B0_6, p_B0_7, p_X1_0, p_X1_1, p_X1_2, p_X1_3, p_X1_4, p_X1_5, p_X1_6, p_X1_7⟩ (fun hHeld => ?_)
    clear p_B0_0 p_B0_1 p_B0_2 p_B0_3 p_B0_4 p_B0_5 p_B0_6 p_B0_7 p_X1_0 p_X1_1 p_X1_2 p_X1_3 p_X1_4 p_X1_5 p_X1_6 p_X1_7
    have cd7 : Below v6.heap.size v6 v6.drew := below_drew (Below.refl _ _)
    replace B0 := Lib.hid ((cd7.block w.heap.size (Array.getElem?_eq_some_iff.1 B0.out).1).trans B0.out)
    replace X1 := Lib.hid ((cd7.block v4.heap.size (Array.getElem?_eq_some_iff.1 X1.out).1).trans X1.out)
    replace P2_0 := Lib.hid (slO_fresh tVersionS_law P2_0.out cd7)
    replace P2_3 := Lib.hid (slO_fresh tInt_law P2_3.out cd7)
    replace P2_4 := Lib.hid (slO_fresh tActive_law P2_4.out cd7)
    replace P2_5 := Lib.hid (slO_fresh tFinished_law P2_5.out cd7)
    replace P2_6 := Lib.hid (slO_fresh tCharge_law P2_6.out cd7)
    replace P4_0 := Lib.hid (slO_fresh tVersionS_law P4_0.out cd7)
    replace P4_3 := Lib.hid (slO_fresh tInt_law P4_3.out cd7)
    replace P4_4 := Lib.hid (slO_fresh tActive_law P4_4.out cd7)
    replace P4_5 := Lib.hid (slO_fresh tFinished_law P4_5.out cd7)
    replace P4_6 := Lib.hid (slO_fresh tCharge_law P4_6.out cd7)
    replace d := Lib.hid (d.out.trans (cd7.mono d.out.size))
    clear cd7
    refine take_runs (i := 0) (v := ?_) (by simp only [List.getElem?_toArray, List.getElem?_cons_succ, List.getElem?_cons_zero]; rfl) (by kernel_rfl) (by kernel_rfl) (by kernel_rfl) rfl (by exact fun _ _ _ h => h) (by rfl) ?_ (by assumption) ?_
    rotate_left
    · intro w hSw; (try dsimp only at hSw); go_simp; try (with_reducible rfl)
    try simp only [Act.put, List.setIfInBounds_toArray, List.set_cons_zero, List.set_cons_succ]
    refine take_runs (i := 1) (v := ?_) (by simp only [List.getElem?_toArray, List.getElem?_cons_succ, List.getElem?_cons_zero]; rfl) (by kernel_rfl) (by kernel_rfl) (by kernel_rfl) rfl (by exact fun _ _ _ h => h) (by rfl) ?_ (by assumption) ?_
    rotate_left
    · intro w hSw; (try dsimp only at hSw); go_simp; try (with_reducible rfl)
    try simp only [Act.put, List.setIfInBounds_toArray, List.set_cons_zero, List.set_cons_succ]
    refine wpAnyH_ready (rs := [2]) (by kernel_rfl) (by simp) ?_
    refine AllReadyH.cons (o := _) (by simp only [List.getElem?_toArray, List.getElem?_cons_succ, List.getElem?_cons_zero]; rfl) (fun K hK => ?_) AllReadyH.nil
    go_simp
    refine (toEngine_T a0_1 a0_2 a0_7 (.slice c0_0 x0_0.length k0_0) (.slice c0_3 x0_3.length k0_3) (.slice c0_4 x0_4.length k0_4) (.slice c0_5 x0_5.length k0_5) (.slice c0_6 x0_6.length k0_6) x0_0 x0_3 x0_4 x0_5 x0_6 (v6.drew) (slR_below tVersionS_law A0_0.out d.out) (slR_below tInt_law A0_3.out d.out) (slR_below tActive_law A0_4.out d.out) (slR_below tFinished_law A0_5.out d.out) (slR_below tCharge_law A0_6.out d.out) S0_0.out S0_3.out S0_4.out S0_5.out S0_6.out).mono ?_
    rintro e v8 ⟨cs, rfl, ow, c8⟩
    replace B0 := Lib.hid ((c8.block w.heap.size (Array.getElem?_eq_some_iff.1 B0.out).1).trans B0.out)
    replace X1 := Lib.hid ((c8.block v4.heap.size (Array.getElem?_eq_some_iff.1 X1.out).1).trans X1.out)
    replace P2_0 := Lib.hid (slO_fresh tVersionS_law P2_0.out c8)
    replace P2_3 := Lib.hid (slO_fresh tInt_law P2_3.out c8)
    replace P2_4 := Lib.hid (slO_fresh tActive_law P2_4.out c8)
    replace P2_5 := Lib.hid (slO_fresh tFinished_law P2_5.out c8)
    replace P2_6 := Lib.hid (slO_fresh tCharge_law P2_6.out c8)
    replace P4_0 := Lib.hid (slO_fresh tVersionS_law P4_0.out c8)
    replace P4_3 := Lib.hid (slO_fresh tInt_law P4_3.out c8)
    replace P4_4 := Lib.hid (slO_fresh tActive_law P4_4.out c8)
    replace P4_5 := Lib.hid (slO_fresh tFinished_law P4_5.out c8)
    replace P4_6 := Lib.hid (slO_fresh tCharge_law P4_6.out c8)
    replace d := Lib.hid (d.out.trans (c8.mono d.out.size))
    have Z_v8 := Lib.hid (show v6.heap.size ≤ v8.heap.size from c8.size)
    clear c8
    replace ow := tEngine_law.lt ow
    obtain ⟨y8_0, y8_3, y8_4, y8_5, y8_6, K8_0, K8_3, K8_4, K8_5, K8_6, rfl, p8_0, p8_3, p8_4, p8_5, p8_6, w8_0, w8_3, w8_4, w8_5, w8_6, d8_0_3, d8_0_4, d8_0_5, d8_0_6, d8_3_4, d8_3_5, d8_3_6, d8_4_5, d8_4_6, d8_5_6⟩ := tEngine_O ow
    obtain ⟨ya8_0, yc8_0, rfl⟩ := slO_len p8_0
    have P8_0 := Lib.hid p8_0
    have Q8_0 := Lib.hid (fun b h => (show (v6.drew).heap.size ≤ b ∧ b < v8.heap.size from w8_0 b h))
    obtain ⟨ya8_3, yc8_3, rfl⟩ := slO_len p8_3
    have P8_3 := Lib.hid p8_3
    have Q8_3 := Lib.hid (fun b h => (show (v6.drew).heap.size ≤ b ∧ b < v8.heap.size from w8_3 b h))
    obtain ⟨ya8_4, yc8_4, rfl⟩ := slO_len p8_4
    have P8_4 := Lib.hid p8_4
    have Q8_4 := Lib.hid (fun b h => (show (v6.drew).heap.size ≤ b ∧ b < v8.heap.size from w8_4 b h))
    obtain ⟨ya8_5, yc8_5, rfl⟩ := slO_len p8_5
    have P8_5 := Lib.hid p8_5
    have Q8_5 := Lib.hid (fun b h => (show (v6.drew).heap.size ≤ b ∧ b < v8.heap.size from w8_5 b h))
    obtain ⟨ya8_6, yc8_6, rfl⟩ := slO_len p8_6
    have P8_6 := Lib.hid p8_6
    have Q8_6 := Lib.hid (fun b h => (show (v6.drew).heap.size ≤ b ∧ b < v8.heap.size from w8_6 b h))
    have D8_0_3 := Lib.hid d8_0_3
    clear d8_0_3
    have D8_0_4 := Lib.hid d8_0_4
    clear d8_0_4
    have D8_0_5 := Lib.hid d8_0_5
    clear d8_0_5
    have D8_0_6 := Lib.hid d8_0_6
    clear d8_0_6
    have D8_3_4 := Lib.hid d8_3_4
    clear d8_3_4
    have D8_3_5 := Lib.hid d8_3_5
    clear d8_3_5
    have D8_3_6 := Lib.hid d8_3_6
    clear d8_3_6
    have D8_4_5 := Lib.hid d8_4_5
    clear d8_4_5
    have D8_4_6 := Lib.hid d8_4_6
    clear d8_4_6
    have D8_5_6 := Lib.hid d8_5_6
    clear d8_5_6
    clear p8_0 w8_0 p8_3 w8_3 p8_4 w8_4 p8_5 w8_5 p8_6 w8_6 ow
    have p_B0_0 := (cell_of_row v8 _ 0 _ _ _ B0.out).trans (show _ = some (Value.slice c0_0 x0_0.length k0_0) from rfl)
    have p_B0_1 := (cell_of_row v8 _ 1 _ _ _ B0.out).trans (show _ = some (Value.int .i64 a0_1) from rfl)
    have p_B0_2 := (cell_of_row v8 _ 2 _ _ _ B0.out).trans (show _ = some (Value.int .i64 a0_2) from rfl)
    have p_B0_3 := (cell_of_row v8 _ 3 _ _ _ B0.out).trans (show _ = some (Value.slice c0_3 x0_3.length k0_3) from rfl)
    have p_B0_4 := (cell_of_row v8 _ 4 _ _ _ B0.out).trans (show _ = some (Value.slice c0_4 x0_4.length k0_4) from rfl)
    have p_B0_5 := (cell_of_row v8 _ 5 _ _ _ B0.out).trans (show _ = some (Value.slice c0_5 x0_5.length k0_5) from rfl)
    have p_B0_6 := (cell_of_row v8 _ 6 _ _ _ B0.out).trans (show _ = some (Value.slice c0_6 x0_6.length k0_6) from rfl)
    have p_B0_7 := (cell_of_row v8 _ 7 _ _ _ B0.out).trans (show _ = some (Value.int .i64 a0_7) from rfl)
    have p_X1_0 := (cell_of_row v8 _ 0 _ _ _ X1.out).trans (show _ = some (Value.slice ya4_0 x0_0.length yc4_0) from rfl)
    have p_X1_1 := (cell_of_row v8 _ 1 _ _ _ X1.out).trans (show _ = some (Value.int .i64 a0_1) from rfl)
    have p_X1_2 := (cell_of_row v8 _ 2 _ _ _ X1.out).trans (show _ = some (Value.int .i64 a0_2) from rfl)
    have p_X1_3 := (cell_of_row v8 _ 3 _ _ _ X1.out).trans (show _ = some (Value.slice ya4_3 x0_3.length yc4_3) from rfl)
    have p_X1_4 := (cell_of_row v8 _ 4 _ _ _ X1.out).trans (show _ = some (Value.slice ya4_4 x0_4.length yc4_4) from rfl)
    have p_X1_5 := (cell_of_row v8 _ 5 _ _ _ X1.out).trans (show _ = some (Value.slice ya4_5 x0_5.length yc4_5) from rfl)
    have p_X1_6 := (cell_of_row v8 _ 6 _ _ _ X1.out).trans (show _ = some (Value.slice ya4_6 x0_6.length yc4_6) from rfl)
    have p_X1_7 := (cell_of_row v8 _ 7 _ _ _ X1.out).trans (show _ = some (Value.int .i64 a0_7) from rfl)
    refine hK.out _ _ ⟨p_B0_0, p_B0_1, p_B0_2, p_B0_3, p_B0_4, p_B0_5, p_B0_6, p_B0_7, p_X1_0, p_X1_1, p_X1_2, p_X1_3, p_X1_4, p_X1_5, p_X1_6, p_X1_7⟩ (fun hHeld => ?_)
    clear p_B0_0 p_B0_1 p_B0_2 p_B0_3 p_B0_4 p_B0_5 p_B0_6 p_B0_7 p_X1_0 p_X1_1 p_X1_2 p_X1_3 p_X1_4 p_X1_5 p_X1_6 p_X1_7
    clear hK K
    try simp only [Act.put, List.setIfInBounds_toArray, List.set_cons_zero, List.set_cons_succ]
    refine wpAnyH_ready (rs := [3]) (by kernel_rfl) (by simp) ?_
    refine AllReadyH.cons (o := _) (by simp only [List.getElem?_toArray, List.getElem?_cons_succ, List.getElem?_cons_zero]; rfl) (fun K hK => ?_) AllReadyH.nil
    go_simp
    refine (eqEngine_T a0_1 a0_2 a0_7 (.slice ya4_0 x0_0.length yc4_0) (.slice ya4_3 x0_3.length yc4_3) (.slice ya4_4 x0_4.length yc4_4) (.slice ya4_5 x0_5.length yc4_5) (.slice ya4_6 x0_6.length yc4_6) x0_0 x0_3 x0_4 x0_5 x0_6 (.slice ya8_0 x0_0.length yc8_0) (.slice ya8_3 x0_3.length yc8_3) (.slice ya8_4 x0_4.length yc8_4) (.slice ya8_5 x0_5.length yc8_5) (.slice ya8_6 x0_6.length yc8_6) v8 (slO_reads tVersionS_law P4_0.out) (slO_reads tInt_law P4_3.out) (slO_reads tActive_law P4_4.out) (slO_reads tFinished_law P4_5.out) (slO_reads tCharge_law P4_6.out) (slO_reads tVersionS_law P8_0.out) (slO_reads tInt_law P8_3.out) (slO_reads tActive_law P8_4.out) (slO_reads tFinished_law P8_5.out) (slO_reads tCharge_law P8_6.out) S0_0.out S0_3.out S0_4.out S0_5.out S0_6.out).mono ?_
    rintro e v9 ⟨rfl, c9⟩
    replace B0 := Lib.hid ((c9.block w.heap.size (Array.getElem?_eq_some_iff.1 B0.out).1).trans B0.out)
    replace X1 := Lib.hid ((c9.block v4.heap.size (Array.getElem?_eq_some_iff.1 X1.out).1).trans X1.out)
    replace P2_0 := Lib.hid (slO_fresh tVersionS_law P2_0.out c9)
    replace P2_3 := Lib.hid (slO_fresh tInt_law P2_3.out c9)
    replace P2_4 := Lib.hid (slO_fresh tActive_law P2_4.out c9)
    replace P2_5 := Lib.hid (slO_fresh tFinished_law P2_5.out c9)
    replace P2_6 := Lib.hid (slO_fresh tCharge_law P2_6.out c9)
    replace P4_0 := Lib.hid (slO_fresh tVersionS_law P4_0.out c9)
    replace P4_3 := Lib.hid (slO_fresh tInt_law P4_3.out c9)
    replace P4_4 := Lib.hid (slO_fresh tActive_law P4_4.out c9)
    replace P4_5 := Lib.hid (slO_fresh tFinished_law P4_5.out c9)
    replace P4_6 := Lib.hid (slO_fresh tCharge_law P4_6.out c9)
    replace P8_0 := Lib.hid (slO_fresh tVersionS_law P8_0.out c9)
    replace P8_3 := Lib.hid (slO_fresh tInt_law P8_3.out c9)
    replace P8_4 := Lib.hid (slO_fresh tActive_law P8_4.out c9)
    replace P8_5 := Lib.hid (slO_fresh tFinished_law P8_5.out c9)
    replace P8_6 := Lib.hid (slO_fresh tCharge_law P8_6.out c9)
    replace d := Lib.hid (d.out.trans (c9.mono d.out.size))
    have Z_v9 := Lib.hid (show v8.heap.size ≤ v9.heap.size from c9.size)
    clear c9
    clear P8_0 P8_3 P8_4 P8_5 P8_6
    have p_B0_0 := (cell_of_row v9 _ 0 _ _ _ B0.out).trans (show _ = some (Value.slice c0_0 x0_0.length k0_0) from rfl)
    have p_B0_1 := (cell_of_row v9 _ 1 _ _ _ B0.out).trans (show _ = some (Value.int .i64 a0_1) from rfl)
    have p_B0_2 := (cell_of_row v9 _ 2 _ _ _ B0.out).trans (show _ = some (Value.int .i64 a0_2) from rfl)
    have p_B0_3 := (cell_of_row v9 _ 3 _ _ _ B0.out).trans (show _ = some (Value.slice c0_3 x0_3.length k0_3) from rfl)
    have p_B0_4 := (cell_of_row v9 _ 4 _ _ _ B0.out).trans (show _ = some (Value.slice c0_4 x0_4.length k0_4) from rfl)
    have p_B0_5 := (cell_of_row v9 _ 5 _ _ _ B0.out).trans (show _ = some (Value.slice c0_5 x0_5.length k0_5) from rfl)
    have p_B0_6 := (cell_of_row v9 _ 6 _ _ _ B0.out).trans (show _ = some (Value.slice c0_6 x0_6.length k0_6) from rfl)
    have p_B0_7 := (cell_of_row v9 _ 7 _ _ _ B0.out).trans (show _ = some (Value.int .i64 a0_7) from rfl)
    have p_X1_0 := (cell_of_row v9 _ 0 _ _ _ X1.out).trans (show _ = some (Value.slice ya4_0 x0_0.length yc4_0) from rfl)
    have p_X1_1 := (cell_of_row v9 _ 1 _ _ _ X1.out).trans (show _ = some (Value.int .i64 a0_1) from rfl)
    have p_X1_2 := (cell_of_row v9 _ 2 _ _ _ X1.out).trans (show _ = some (Value.int .i64 a0_2) from rfl)
    have p_X1_3 := (cell_of_row v9 _ 3 _ _ _ X1.out).trans (show _ = some (Value.slice ya4_3 x0_3.length yc4_3) from rfl)
    have p_X1_4 := (cell_of_row v9 _ 4 _ _ _ X1.out).trans (show _ = some (Value.slice ya4_4 x0_4.length yc4_4) from rfl)
    have p_X1_5 := (cell_of_row v9 _ 5 _ _ _ X1.out).trans (show _ = some (Value.slice ya4_5 x0_5.length yc4_5) from rfl)
    have p_X1_6 := (cell_of_row v9 _ 6 _ _ _ X1.out).trans (show _ = some (Value.slice ya4_6 x0_6.length yc4_6) from rfl)
    have p_X1_7 := (cell_of_row v9 _ 7 _ _ _ X1.out).trans (show _ = some (Value.int .i64 a0_7) from rfl)
    refine hK.out _ _ ⟨p_B0_0, p_B0_1, p_B0_2, p_B0_3, p_B0_4, p_B0_5, p_B0_6, p_B0_7, p_X1_0, p_X1_1, p_X1_2, p_X1_3, p_X1_4, p_X1_5, p_X1_6, p_X1_7⟩ (fun hHeld => ?_)
    clear p_B0_0 p_B0_1 p_B0_2 p_B0_3 p_B0_4 p_B0_5 p_B0_6 p_B0_7 p_X1_0 p_X1_1 p_X1_2 p_X1_3 p_X1_4 p_X1_5 p_X1_6 p_X1_7
    clear hK K
    try simp only [Act.put, List.setIfInBounds_toArray, List.set_cons_zero, List.set_cons_succ]
    refine take_runs (i := 4) (v := ?_) (by simp only [List.getElem?_toArray, List.getElem?_cons_succ, List.getElem?_cons_zero]; rfl) (by kernel_rfl) (by kernel_rfl) (by kernel_rfl) rfl (by exact fun _ _ _ h => h) (by rfl) ?_ (by assumption) ?_
    rotate_left
    · intro w hSw; (try dsimp only at hSw); go_simp; try (with_reducible rfl)
    try simp only [Act.put, List.setIfInBounds_toArray, List.set_cons_zero, List.set_cons_succ]
    refine wpAnyH_done (by kernel_rfl) ?_ _
    clear hHeld
    go_wp2
    go_ret
    exact ⟨rfl, HB0.out.trans (d.out.mono HB0.out.size)⟩
  ·
    have HZ0 : Hid ((1048576 : Int) < ((zL tVersionS x0_0 + zL tInt x0_3 + zL tActive x0_4 + zL tFinished x0_5 + zL tCharge x0_6 : Nat) : Int)) := Lib.hid (by omega)
    have HP0 : Hid (0 ≤ (1048576 : Int)) := Lib.hid (by omega)
    have HK0 : Hid ((1048576 : Int) ≤ 1048576) := Lib.hid (by omega)
    clear c0
    go_enter Try.func5, Try.ntmps5
    go_wp2_with fail
    have Y_W : Hid (w.heap.size + 1 ≤ (w.alloc (.cells #[.slice c0_0 x0_0.length k0_0, .int .i64 a0_1, .int .i64 a0_2, .slice c0_3 x0_3.length k0_3, .slice c0_4 x0_4.length k0_4, .slice c0_5 x0_5.length k0_5, .slice c0_6 x0_6.length k0_6, .int .i64 a0_7] 52)).heap.size) := Lib.hid (by simp [World.size_alloc])
    generalize (w.alloc (.cells #[.slice c0_0 x0_0.length k0_0, .int .i64 a0_1, .int .i64 a0_2, .slice c0_3 x0_3.length k0_3, .slice c0_4 x0_4.length k0_4, .slice c0_5 x0_5.length k0_5, .slice c0_6 x0_6.length k0_6, .int .i64 a0_7] 52)) = W at *
    have d := Lib.hid (Below.refl W.heap.size W)
    refine (szEngine_N a0_1 a0_2 a0_7 (.slice c0_0 x0_0.length k0_0) (.slice c0_3 x0_3.length k0_3) (.slice c0_4 x0_4.length k0_4) (.slice c0_5 x0_5.length k0_5) (.slice c0_6 x0_6.length k0_6) x0_0 x0_3 x0_4 x0_5 x0_6 ((1048576 : Int)) W (slR_below tVersionS_law A0_0.out d.out) (slR_below tInt_law A0_3.out d.out) (slR_below tActive_law A0_4.out d.out) (slR_below tFinished_law A0_5.out d.out) (slR_below tCharge_law A0_6.out d.out) HZ0.out HK0.out HP0.out O0_0.out O0_3.out O0_4.out O0_5.out O0_6.out).mono ?_
    rintro e v1 ⟨rfl, c1⟩
    replace B0 := Lib.hid ((c1.block w.heap.size (Array.getElem?_eq_some_iff.1 B0.out).1).trans B0.out)
    replace d := Lib.hid (d.out.trans (c1.mono d.out.size))
    have Z_v1 := Lib.hid (show W.heap.size ≤ v1.heap.size from c1.size)
    clear c1
    go_wp2
    go_ret
    exact ⟨rfl, HB0.out.trans (d.out.mono HB0.out.size)⟩
end Go.Proofs.Ytdhglmoanpkeoaa
namespace Go.Proofs.Ytdhglmoanpkeoaa
open Go.ChangeShapes Go.WideShapes Go.ChangeAt Go.WideMaps Go.WideElems Go.RowKit
set_option linter.unusedVariables false
theorem laidOutP : laidOutB Try.prog = true := by kernel_rfl
end Go.Proofs.Ytdhglmoanpkeoaa
namespace Go.Proofs.Ytdhglmoanpkeoaa
open Go.ChangeShapes Go.WideShapes Go.ChangeAt Go.WideMaps Go.WideElems Go.RowKit
set_option linter.unusedVariables false
/-- Cells that the statement reads as a value of the type t are a datum of the kind T. -/
def Opn {α : Type} (T : Ty α) (t : TypeId) : Prop := ∀ {H : Type} {enc : TypeId × Value → H} {W : World} {held : Bool} {fuel : Nat} {cs : List Value} {x : DataW H × List MemPlace}, DataW.trod enc Try.prog W 0 (fun _ => true) held fuel t cs = some x → ∃ d, T.R W cs d ∧ T.ok d
theorem opn_int : Opn tInt 3 := by
  intro H enc W held fuel cs x h
  obtain ⟨a, e, _, _⟩ := DataW.trod_int Try.underlying3 h
  exact ⟨a, e, trivial⟩
theorem opn_cast {α : Type} {T : Ty α} {t : TypeId} (O : Opn T t) {H : Type} {enc : TypeId × Value → H} {W : World} {held : Bool} {fuel : Nat} {cs : List Value} {o k : Nat} {x : Option (DataW H × List MemPlace)} (hx : x.isSome) (h : DataW.trod enc Try.prog W 0 (fun _ => true) held fuel t ((cs.drop o).take k) = x) :
    ∃ d, T.R W ((cs.drop o).take k) d ∧ T.ok d := by
  cases x with
  | none => cases hx
  | some y => exact O h
set_option maxRecDepth 100000 in
theorem opn_slice {α : Type} {T : Ty α} (A : T.Law) {e t : TypeId} (e' : TypeId) (O : Opn T e) (hu : Try.prog.underlying t = some (.slice e)) (hC : Try.prog.cellsOf e = T.n) : Opn (tSl e' T) t := by
  intro H enc W held fuel cs x hf
  rcases Go.Deep.open_slice hu hf with ⟨rfl, _⟩ | ⟨a', len', cap', m, n, D, Pl, rfl, _, hl, hm, hmm, _, hx⟩
  · exact ⟨[], ⟨_, rfl, Or.inl ⟨rfl, none, 0, rfl⟩⟩, by simp, fun j hj => by simp at hj⟩
  · rw [if_pos rfl] at hmm
    subst hmm
    unfold maxLen at hm
    rw [hC] at hx
    have hpos := A.pos
    haveI : Inhabited α := ⟨T.d⟩
    obtain ⟨f, hf'⟩ := Go.Deep.choose_lt (α := α × List Value) (n := len') (p := fun i q => (∀ j, j < T.n → W.cell? ((a'.add (i * T.n)).add j) = q.2[j]?) ∧ T.R W q.2 q.1 ∧ T.ok q.1) (fun i hi => by
      obtain ⟨cs', h1, h2⟩ := hx i (by omega)
      obtain ⟨_, hlen, hc⟩ := World.cells?_some h1
      obtain ⟨d, hd, ho⟩ := O h2
      exact ⟨(d, cs'), hc, hd, ho⟩)
    have hat : ∀ j, j < len' → ((List.range len').map fun i => (f i).1).getD j T.d = (f j).1 := fun j hj => by simp [List.getD, hj]
    have hlen : ((List.range len').map fun i => (f i).1).length = len' := by simp
    refine ⟨(List.range len').map fun i => (f i).1, ⟨_, rfl, ?_⟩, by rw [hlen]; omega, fun j hj => by rw [hlen] at hj; rw [hat j hj]; exact (hf' j hj).2.2⟩
    by_cases h0 : len' = 0
    · subst h0
      exact Or.inl ⟨rfl, some a', _, rfl⟩
    · have h1 := (hf' 0 (by omega)).1 0 hpos
      have hcl : 0 < (f 0).2.length := by rw [A.len (hf' 0 (by omega)).2.1]; exact hpos
      rw [List.getElem?_eq_getElem hcl] at h1
      obtain ⟨b, off, spot⟩ := a'
      have hspot : spot = none := by simpa [Addr.add] using World.cell?_spot h1
      subst hspot
      refine Or.inr ⟨b, off, _, fun i => (f i).2, by rw [hlen], by rw [hlen]; exact hl, ?_, ?_⟩
      · have := World.block_lt_of_cell? W _ h1
        simpa [Addr.add] using this
      · intro j hj
        rw [hlen] at hj
        obtain ⟨g1, g2, _⟩ := hf' j hj
        rw [hat j hj]
        refine ⟨fun i hi => ?_, g2⟩
        have := g1 i hi
        rw [Go.WideShapes.add_plain, Go.WideShapes.add_plain] at this
        exact this
theorem opn_ints (e' : TypeId) : Opn (tSl e' tInt) 37 := opn_slice tInt_law e' opn_int Try.underlying37 (by kernel_rfl)
set_option maxRecDepth 100000 in
/-- A struct as an argument. -/
theorem stA_open {α : Type} {T : Ty α} {t : TypeId} {fs : Array Field} (O : Opn T t) (hu : Try.prog.underlying t = some (.struct fs)) {H : Type} {enc : TypeId × Value → H} {W : World} {r : Reach} {b0 : Nat} {v : Value} {d : DataW H} {p : List MemPlace}
    (hval : Value.okWide Try.prog W r b0 t v) (h : DataW.Trod enc Try.prog W 0 (fun _ => true) true t v d p) : ∃ cs x, v = .agg cs.toArray ∧ T.R W cs x ∧ T.ok x := by
  obtain ⟨⟨cs⟩, rfl, hsz⟩ := okWide_struct hu hval
  obtain ⟨fuel, hf⟩ := h
  obtain ⟨x, h, ho⟩ := O hf
  exact ⟨cs, x, rfl, h, ho⟩
end Go.Proofs.Ytdhglmoanpkeoaa
namespace Go.Proofs.Ytdhglmoanpkeoaa
open Go.ChangeShapes Go.WideShapes Go.ChangeAt Go.WideMaps Go.WideElems Go.RowKit
set_option linter.unusedVariables false
set_option maxRecDepth 100000 in
theorem opn_Version : Opn tVersion 150 := by
  intro H enc W held fuel cs x h
  obtain ⟨xs, n, _, _, hl, hlen, hf⟩ := DataW.trod_struct Try.underlying150 h
  have hl2 : cs.length = 4 := hl.trans (by kernel_rfl)
  have hn : xs.length = 4 := hlen
  have f0 : DataW.trod enc Try.prog W 0 (fun _ => true) held n 3 ((cs.drop 0).take (Try.prog.cellsOf 3)) = xs[0]? := hf 0 _ rfl
  rw [show Try.prog.cellsOf 3 = 1 from by kernel_rfl] at f0
  obtain ⟨d0, r0, o0⟩ := opn_cast (opn_int) (by rw [List.getElem?_eq_getElem (by omega)]; rfl) f0
  have f1 : DataW.trod enc Try.prog W 0 (fun _ => true) held n 37 ((cs.drop 1).take (Try.prog.cellsOf 37)) = xs[1]? := hf 1 _ rfl
  rw [show Try.prog.cellsOf 37 = 1 from by kernel_rfl] at f1
  obtain ⟨d1, r1, o1⟩ := opn_cast (opn_ints 3) (by rw [List.getElem?_eq_getElem (by omega)]; rfl) f1
  have f2 : DataW.trod enc Try.prog W 0 (fun _ => true) held n 3 ((cs.drop 2).take (Try.prog.cellsOf 3)) = xs[2]? := hf 2 _ rfl
  rw [show Try.prog.cellsOf 3 = 1 from by kernel_rfl] at f2
  obtain ⟨d2, r2, o2⟩ := opn_cast (opn_int) (by rw [List.getElem?_eq_getElem (by omega)]; rfl) f2
  have f3 : DataW.trod enc Try.prog W 0 (fun _ => true) held n 3 ((cs.drop 3).take (Try.prog.cellsOf 3)) = xs[3]? := hf 3 _ rfl
  rw [show Try.prog.cellsOf 3 = 1 from by kernel_rfl] at f3
  obtain ⟨d3, r3, o3⟩ := opn_cast (opn_int) (by rw [List.getElem?_eq_getElem (by omega)]; rfl) f3
  exact ⟨(d0, d1, d2, d3), ⟨(cs.drop 0).take 1, cs.drop 1, (List.take_append_drop 1 cs).symm, r0, ⟨(cs.drop 1).take 1, cs.drop 2, (List.take_append_drop 1 (cs.drop 1)).symm.trans (by simp), r1, ⟨(cs.drop 2).take 1, cs.drop 3, (List.take_append_drop 1 (cs.drop 2)).symm.trans (by simp), r2, (by have e := List.take_of_length_le (l := cs.drop 3) (i := 1) (by rw [List.length_drop]; omega); rw [e] at r3; exact r3)⟩⟩⟩, ⟨o0, ⟨o1, ⟨o2, o3⟩⟩⟩⟩
end Go.Proofs.Ytdhglmoanpkeoaa
namespace Go.Proofs.Ytdhglmoanpkeoaa
open Go.ChangeShapes Go.WideShapes Go.ChangeAt Go.WideMaps Go.WideElems Go.RowKit
set_option linter.unusedVariables false
theorem opn_VersionS : Opn tVersionS 111 := opn_slice tVersion_law _ opn_Version Try.underlying111 (by kernel_rfl)
end Go.Proofs.Ytdhglmoanpkeoaa
namespace Go.Proofs.Ytdhglmoanpkeoaa
open Go.ChangeShapes Go.WideShapes Go.ChangeAt Go.WideMaps Go.WideElems Go.RowKit
set_option linter.unusedVariables false
theorem opn_VersionSS : Opn tVersionSS 22 := opn_slice tVersionS_law _ opn_VersionS Try.underlying22 (by kernel_rfl)
end Go.Proofs.Ytdhglmoanpkeoaa
namespace Go.Proofs.Ytdhglmoanpkeoaa
open Go.ChangeShapes Go.WideShapes Go.ChangeAt Go.WideMaps Go.WideElems Go.RowKit
set_option linter.unusedVariables false
set_option maxRecDepth 100000 in
theorem opn_Store : Opn tStore 24 := by
  intro H enc W held fuel cs x h
  obtain ⟨xs, n, _, _, hl, hlen, hf⟩ := DataW.trod_struct Try.underlying24 h
  have hl2 : cs.length = 2 := hl.trans (by kernel_rfl)
  have hn : xs.length = 2 := hlen
  have f0 : DataW.trod enc Try.prog W 0 (fun _ => true) held n 22 ((cs.drop 0).take (Try.prog.cellsOf 22)) = xs[0]? := hf 0 _ rfl
  rw [show Try.prog.cellsOf 22 = 1 from by kernel_rfl] at f0
  obtain ⟨d0, r0, o0⟩ := opn_cast (opn_VersionSS) (by rw [List.getElem?_eq_getElem (by omega)]; rfl) f0
  have f1 : DataW.trod enc Try.prog W 0 (fun _ => true) held n 3 ((cs.drop 1).take (Try.prog.cellsOf 3)) = xs[1]? := hf 1 _ rfl
  rw [show Try.prog.cellsOf 3 = 1 from by kernel_rfl] at f1
  obtain ⟨d1, r1, o1⟩ := opn_cast (opn_int) (by rw [List.getElem?_eq_getElem (by omega)]; rfl) f1
  exact ⟨(d0, d1), ⟨(cs.drop 0).take 1, cs.drop 1, (List.take_append_drop 1 cs).symm, r0, (by have e := List.take_of_length_le (l := cs.drop 1) (i := 1) (by rw [List.length_drop]; omega); rw [e] at r1; exact r1)⟩, ⟨o0, o1⟩⟩
end Go.Proofs.Ytdhglmoanpkeoaa
namespace Go.Proofs.Ytdhglmoanpkeoaa
open Go.ChangeShapes Go.WideShapes Go.ChangeAt Go.WideMaps Go.WideElems Go.RowKit
set_option linter.unusedVariables false
set_option maxRecDepth 100000 in
theorem opn_Cond : Opn tCond 180 := by
  intro H enc W held fuel cs x h
  obtain ⟨xs, n, _, _, hl, hlen, hf⟩ := DataW.trod_struct Try.underlying180 h
  have hl2 : cs.length = 3 := hl.trans (by kernel_rfl)
  have hn : xs.length = 3 := hlen
  have f0 : DataW.trod enc Try.prog W 0 (fun _ => true) held n 3 ((cs.drop 0).take (Try.prog.cellsOf 3)) = xs[0]? := hf 0 _ rfl
  rw [show Try.prog.cellsOf 3 = 1 from by kernel_rfl] at f0
  obtain ⟨d0, r0, o0⟩ := opn_cast (opn_int) (by rw [List.getElem?_eq_getElem (by omega)]; rfl) f0
  have f1 : DataW.trod enc Try.prog W 0 (fun _ => true) held n 3 ((cs.drop 1).take (Try.prog.cellsOf 3)) = xs[1]? := hf 1 _ rfl
  rw [show Try.prog.cellsOf 3 = 1 from by kernel_rfl] at f1
  obtain ⟨d1, r1, o1⟩ := opn_cast (opn_int) (by rw [List.getElem?_eq_getElem (by omega)]; rfl) f1
  have f2 : DataW.trod enc Try.prog W 0 (fun _ => true) held n 3 ((cs.drop 2).take (Try.prog.cellsOf 3)) = xs[2]? := hf 2 _ rfl
  rw [show Try.prog.cellsOf 3 = 1 from by kernel_rfl] at f2
  obtain ⟨d2, r2, o2⟩ := opn_cast (opn_int) (by rw [List.getElem?_eq_getElem (by omega)]; rfl) f2
  exact ⟨(d0, d1, d2), ⟨(cs.drop 0).take 1, cs.drop 1, (List.take_append_drop 1 cs).symm, r0, ⟨(cs.drop 1).take 1, cs.drop 2, (List.take_append_drop 1 (cs.drop 1)).symm.trans (by simp), r1, (by have e := List.take_of_length_le (l := cs.drop 2) (i := 1) (by rw [List.length_drop]; omega); rw [e] at r2; exact r2)⟩⟩, ⟨o0, ⟨o1, o2⟩⟩⟩
end Go.Proofs.Ytdhglmoanpkeoaa
namespace Go.Proofs.Ytdhglmoanpkeoaa
open Go.ChangeShapes Go.WideShapes Go.ChangeAt Go.WideMaps Go.WideElems Go.RowKit
set_option linter.unusedVariables false
theorem opn_CondS : Opn tCondS 130 := opn_slice tCond_law _ opn_Cond Try.underlying130 (by kernel_rfl)
end Go.Proofs.Ytdhglmoanpkeoaa
namespace Go.Proofs.Ytdhglmoanpkeoaa
open Go.ChangeShapes Go.WideShapes Go.ChangeAt Go.WideMaps Go.WideElems Go.RowKit
set_option linter.unusedVariables false
set_option maxRecDepth 100000 in
theorem opn_Query : Opn tQuery 132 := by
  intro H enc W held fuel cs x h
  obtain ⟨xs, n, _, _, hl, hlen, hf⟩ := DataW.trod_struct Try.underlying132 h
  have hl2 : cs.length = 4 := hl.trans (by kernel_rfl)
  have hn : xs.length = 4 := hlen
  have f0 : DataW.trod enc Try.prog W 0 (fun _ => true) held n 3 ((cs.drop 0).take (Try.prog.cellsOf 3)) = xs[0]? := hf 0 _ rfl
  rw [show Try.prog.cellsOf 3 = 1 from by kernel_rfl] at f0
  obtain ⟨d0, r0, o0⟩ := opn_cast (opn_int) (by rw [List.getElem?_eq_getElem (by omega)]; rfl) f0
  have f1 : DataW.trod enc Try.prog W 0 (fun _ => true) held n 3 ((cs.drop 1).take (Try.prog.cellsOf 3)) = xs[1]? := hf 1 _ rfl
  rw [show Try.prog.cellsOf 3 = 1 from by kernel_rfl] at f1
  obtain ⟨d1, r1, o1⟩ := opn_cast (opn_int) (by rw [List.getElem?_eq_getElem (by omega)]; rfl) f1
  have f2 : DataW.trod enc Try.prog W 0 (fun _ => true) held n 130 ((cs.drop 2).take (Try.prog.cellsOf 130)) = xs[2]? := hf 2 _ rfl
  rw [show Try.prog.cellsOf 130 = 1 from by kernel_rfl] at f2
  obtain ⟨d2, r2, o2⟩ := opn_cast (opn_CondS) (by rw [List.getElem?_eq_getElem (by omega)]; rfl) f2
  have f3 : DataW.trod enc Try.prog W 0 (fun _ => true) held n 37 ((cs.drop 3).take (Try.prog.cellsOf 37)) = xs[3]? := hf 3 _ rfl
  rw [show Try.prog.cellsOf 37 = 1 from by kernel_rfl] at f3
  obtain ⟨d3, r3, o3⟩ := opn_cast (opn_ints 3) (by rw [List.getElem?_eq_getElem (by omega)]; rfl) f3
  exact ⟨(d0, d1, d2, d3), ⟨(cs.drop 0).take 1, cs.drop 1, (List.take_append_drop 1 cs).symm, r0, ⟨(cs.drop 1).take 1, cs.drop 2, (List.take_append_drop 1 (cs.drop 1)).symm.trans (by simp), r1, ⟨(cs.drop 2).take 1, cs.drop 3, (List.take_append_drop 1 (cs.drop 2)).symm.trans (by simp), r2, (by have e := List.take_of_length_le (l := cs.drop 3) (i := 1) (by rw [List.length_drop]; omega); rw [e] at r3; exact r3)⟩⟩⟩, ⟨o0, ⟨o1, ⟨o2, o3⟩⟩⟩⟩
end Go.Proofs.Ytdhglmoanpkeoaa
namespace Go.Proofs.Ytdhglmoanpkeoaa
open Go.ChangeShapes Go.WideShapes Go.ChangeAt Go.WideMaps Go.WideElems Go.RowKit
set_option linter.unusedVariables false
set_option maxRecDepth 100000 in
theorem opn_Row : Opn tRow 168 := by
  intro H enc W held fuel cs x h
  obtain ⟨xs, n, _, _, hl, hlen, hf⟩ := DataW.trod_struct Try.underlying168 h
  have hl2 : cs.length = 2 := hl.trans (by kernel_rfl)
  have hn : xs.length = 2 := hlen
  have f0 : DataW.trod enc Try.prog W 0 (fun _ => true) held n 3 ((cs.drop 0).take (Try.prog.cellsOf 3)) = xs[0]? := hf 0 _ rfl
  rw [show Try.prog.cellsOf 3 = 1 from by kernel_rfl] at f0
  obtain ⟨d0, r0, o0⟩ := opn_cast (opn_int) (by rw [List.getElem?_eq_getElem (by omega)]; rfl) f0
  have f1 : DataW.trod enc Try.prog W 0 (fun _ => true) held n 37 ((cs.drop 1).take (Try.prog.cellsOf 37)) = xs[1]? := hf 1 _ rfl
  rw [show Try.prog.cellsOf 37 = 1 from by kernel_rfl] at f1
  obtain ⟨d1, r1, o1⟩ := opn_cast (opn_ints 3) (by rw [List.getElem?_eq_getElem (by omega)]; rfl) f1
  exact ⟨(d0, d1), ⟨(cs.drop 0).take 1, cs.drop 1, (List.take_append_drop 1 cs).symm, r0, (by have e := List.take_of_length_le (l := cs.drop 1) (i := 1) (by rw [List.length_drop]; omega); rw [e] at r1; exact r1)⟩, ⟨o0, o1⟩⟩
end Go.Proofs.Ytdhglmoanpkeoaa
namespace Go.Proofs.Ytdhglmoanpkeoaa
open Go.ChangeShapes Go.WideShapes Go.ChangeAt Go.WideMaps Go.WideElems Go.RowKit
set_option linter.unusedVariables false
theorem opn_RowS : Opn tRowS 133 := opn_slice tRow_law _ opn_Row Try.underlying133 (by kernel_rfl)
end Go.Proofs.Ytdhglmoanpkeoaa
namespace Go.Proofs.Ytdhglmoanpkeoaa
open Go.ChangeShapes Go.WideShapes Go.ChangeAt Go.WideMaps Go.WideElems Go.RowKit
set_option linter.unusedVariables false
set_option maxRecDepth 100000 in
theorem opn_Active : Opn tActive 135 := by
  intro H enc W held fuel cs x h
  obtain ⟨xs, n, _, _, hl, hlen, hf⟩ := DataW.trod_struct Try.underlying135 h
  have hl2 : cs.length = 10 := hl.trans (by kernel_rfl)
  have hn : xs.length = 7 := hlen
  have f0 : DataW.trod enc Try.prog W 0 (fun _ => true) held n 132 ((cs.drop 0).take (Try.prog.cellsOf 132)) = xs[0]? := hf 0 _ rfl
  rw [show Try.prog.cellsOf 132 = 4 from by kernel_rfl] at f0
  obtain ⟨d0, r0, o0⟩ := opn_cast (opn_Query) (by rw [List.getElem?_eq_getElem (by omega)]; rfl) f0
  have f1 : DataW.trod enc Try.prog W 0 (fun _ => true) held n 3 ((cs.drop 4).take (Try.prog.cellsOf 3)) = xs[1]? := hf 1 _ rfl
  rw [show Try.prog.cellsOf 3 = 1 from by kernel_rfl] at f1
  obtain ⟨d1, r1, o1⟩ := opn_cast (opn_int) (by rw [List.getElem?_eq_getElem (by omega)]; rfl) f1
  have f2 : DataW.trod enc Try.prog W 0 (fun _ => true) held n 37 ((cs.drop 5).take (Try.prog.cellsOf 37)) = xs[2]? := hf 2 _ rfl
  rw [show Try.prog.cellsOf 37 = 1 from by kernel_rfl] at f2
  obtain ⟨d2, r2, o2⟩ := opn_cast (opn_ints 3) (by rw [List.getElem?_eq_getElem (by omega)]; rfl) f2
  have f3 : DataW.trod enc Try.prog W 0 (fun _ => true) held n 3 ((cs.drop 6).take (Try.prog.cellsOf 3)) = xs[3]? := hf 3 _ rfl
  rw [show Try.prog.cellsOf 3 = 1 from by kernel_rfl] at f3
  obtain ⟨d3, r3, o3⟩ := opn_cast (opn_int) (by rw [List.getElem?_eq_getElem (by omega)]; rfl) f3
  have f4 : DataW.trod enc Try.prog W 0 (fun _ => true) held n 3 ((cs.drop 7).take (Try.prog.cellsOf 3)) = xs[4]? := hf 4 _ rfl
  rw [show Try.prog.cellsOf 3 = 1 from by kernel_rfl] at f4
  obtain ⟨d4, r4, o4⟩ := opn_cast (opn_int) (by rw [List.getElem?_eq_getElem (by omega)]; rfl) f4
  have f5 : DataW.trod enc Try.prog W 0 (fun _ => true) held n 3 ((cs.drop 8).take (Try.prog.cellsOf 3)) = xs[5]? := hf 5 _ rfl
  rw [show Try.prog.cellsOf 3 = 1 from by kernel_rfl] at f5
  obtain ⟨d5, r5, o5⟩ := opn_cast (opn_int) (by rw [List.getElem?_eq_getElem (by omega)]; rfl) f5
  have f6 : DataW.trod enc Try.prog W 0 (fun _ => true) held n 133 ((cs.drop 9).take (Try.prog.cellsOf 133)) = xs[6]? := hf 6 _ rfl
  rw [show Try.prog.cellsOf 133 = 1 from by kernel_rfl] at f6
  obtain ⟨d6, r6, o6⟩ := opn_cast (opn_RowS) (by rw [List.getElem?_eq_getElem (by omega)]; rfl) f6
  exact ⟨(d0, d1, d2, d3, d4, d5, d6), ⟨(cs.drop 0).take 4, cs.drop 4, (List.take_append_drop 4 cs).symm, r0, ⟨(cs.drop 4).take 1, cs.drop 5, (List.take_append_drop 1 (cs.drop 4)).symm.trans (by simp), r1, ⟨(cs.drop 5).take 1, cs.drop 6, (List.take_append_drop 1 (cs.drop 5)).symm.trans (by simp), r2, ⟨(cs.drop 6).take 1, cs.drop 7, (List.take_append_drop 1 (cs.drop 6)).symm.trans (by simp), r3, ⟨(cs.drop 7).take 1, cs.drop 8, (List.take_append_drop 1 (cs.drop 7)).symm.trans (by simp), r4, ⟨(cs.drop 8).take 1, cs.drop 9, (List.take_append_drop 1 (cs.drop 8)).symm.trans (by simp), r5, (by have e := List.take_of_length_le (l := cs.drop 9) (i := 1) (by rw [List.length_drop]; omega); rw [e] at r6; exact r6)⟩⟩⟩⟩⟩⟩, ⟨o0, ⟨o1, ⟨o2, ⟨o3, ⟨o4, ⟨o5, o6⟩⟩⟩⟩⟩⟩⟩
end Go.Proofs.Ytdhglmoanpkeoaa
namespace Go.Proofs.Ytdhglmoanpkeoaa
open Go.ChangeShapes Go.WideShapes Go.ChangeAt Go.WideMaps Go.WideElems Go.RowKit
set_option linter.unusedVariables false
theorem opn_ActiveS : Opn tActiveS 48 := opn_slice tActive_law _ opn_Active Try.underlying48 (by kernel_rfl)
end Go.Proofs.Ytdhglmoanpkeoaa
namespace Go.Proofs.Ytdhglmoanpkeoaa
open Go.ChangeShapes Go.WideShapes Go.ChangeAt Go.WideMaps Go.WideElems Go.RowKit
set_option linter.unusedVariables false
set_option maxRecDepth 100000 in
theorem opn_Finished : Opn tFinished 138 := by
  intro H enc W held fuel cs x h
  obtain ⟨xs, n, _, _, hl, hlen, hf⟩ := DataW.trod_struct Try.underlying138 h
  have hl2 : cs.length = 7 := hl.trans (by kernel_rfl)
  have hn : xs.length = 4 := hlen
  have f0 : DataW.trod enc Try.prog W 0 (fun _ => true) held n 132 ((cs.drop 0).take (Try.prog.cellsOf 132)) = xs[0]? := hf 0 _ rfl
  rw [show Try.prog.cellsOf 132 = 4 from by kernel_rfl] at f0
  obtain ⟨d0, r0, o0⟩ := opn_cast (opn_Query) (by rw [List.getElem?_eq_getElem (by omega)]; rfl) f0
  have f1 : DataW.trod enc Try.prog W 0 (fun _ => true) held n 3 ((cs.drop 4).take (Try.prog.cellsOf 3)) = xs[1]? := hf 1 _ rfl
  rw [show Try.prog.cellsOf 3 = 1 from by kernel_rfl] at f1
  obtain ⟨d1, r1, o1⟩ := opn_cast (opn_int) (by rw [List.getElem?_eq_getElem (by omega)]; rfl) f1
  have f2 : DataW.trod enc Try.prog W 0 (fun _ => true) held n 3 ((cs.drop 5).take (Try.prog.cellsOf 3)) = xs[2]? := hf 2 _ rfl
  rw [show Try.prog.cellsOf 3 = 1 from by kernel_rfl] at f2
  obtain ⟨d2, r2, o2⟩ := opn_cast (opn_int) (by rw [List.getElem?_eq_getElem (by omega)]; rfl) f2
  have f3 : DataW.trod enc Try.prog W 0 (fun _ => true) held n 133 ((cs.drop 6).take (Try.prog.cellsOf 133)) = xs[3]? := hf 3 _ rfl
  rw [show Try.prog.cellsOf 133 = 1 from by kernel_rfl] at f3
  obtain ⟨d3, r3, o3⟩ := opn_cast (opn_RowS) (by rw [List.getElem?_eq_getElem (by omega)]; rfl) f3
  exact ⟨(d0, d1, d2, d3), ⟨(cs.drop 0).take 4, cs.drop 4, (List.take_append_drop 4 cs).symm, r0, ⟨(cs.drop 4).take 1, cs.drop 5, (List.take_append_drop 1 (cs.drop 4)).symm.trans (by simp), r1, ⟨(cs.drop 5).take 1, cs.drop 6, (List.take_append_drop 1 (cs.drop 5)).symm.trans (by simp), r2, (by have e := List.take_of_length_le (l := cs.drop 6) (i := 1) (by rw [List.length_drop]; omega); rw [e] at r3; exact r3)⟩⟩⟩, ⟨o0, ⟨o1, ⟨o2, o3⟩⟩⟩⟩
end Go.Proofs.Ytdhglmoanpkeoaa
namespace Go.Proofs.Ytdhglmoanpkeoaa
open Go.ChangeShapes Go.WideShapes Go.ChangeAt Go.WideMaps Go.WideElems Go.RowKit
set_option linter.unusedVariables false
theorem opn_FinishedS : Opn tFinishedS 49 := opn_slice tFinished_law _ opn_Finished Try.underlying49 (by kernel_rfl)
end Go.Proofs.Ytdhglmoanpkeoaa
namespace Go.Proofs.Ytdhglmoanpkeoaa
open Go.ChangeShapes Go.WideShapes Go.ChangeAt Go.WideMaps Go.WideElems Go.RowKit
set_option linter.unusedVariables false
set_option maxRecDepth 100000 in
theorem opn_Charge : Opn tCharge 140 := by
  intro H enc W held fuel cs x h
  obtain ⟨xs, n, _, _, hl, hlen, hf⟩ := DataW.trod_struct Try.underlying140 h
  have hl2 : cs.length = 5 := hl.trans (by kernel_rfl)
  have hn : xs.length = 5 := hlen
  have f0 : DataW.trod enc Try.prog W 0 (fun _ => true) held n 3 ((cs.drop 0).take (Try.prog.cellsOf 3)) = xs[0]? := hf 0 _ rfl
  rw [show Try.prog.cellsOf 3 = 1 from by kernel_rfl] at f0
  obtain ⟨d0, r0, o0⟩ := opn_cast (opn_int) (by rw [List.getElem?_eq_getElem (by omega)]; rfl) f0
  have f1 : DataW.trod enc Try.prog W 0 (fun _ => true) held n 3 ((cs.drop 1).take (Try.prog.cellsOf 3)) = xs[1]? := hf 1 _ rfl
  rw [show Try.prog.cellsOf 3 = 1 from by kernel_rfl] at f1
  obtain ⟨d1, r1, o1⟩ := opn_cast (opn_int) (by rw [List.getElem?_eq_getElem (by omega)]; rfl) f1
  have f2 : DataW.trod enc Try.prog W 0 (fun _ => true) held n 37 ((cs.drop 2).take (Try.prog.cellsOf 37)) = xs[2]? := hf 2 _ rfl
  rw [show Try.prog.cellsOf 37 = 1 from by kernel_rfl] at f2
  obtain ⟨d2, r2, o2⟩ := opn_cast (opn_ints 3) (by rw [List.getElem?_eq_getElem (by omega)]; rfl) f2
  have f3 : DataW.trod enc Try.prog W 0 (fun _ => true) held n 37 ((cs.drop 3).take (Try.prog.cellsOf 37)) = xs[3]? := hf 3 _ rfl
  rw [show Try.prog.cellsOf 37 = 1 from by kernel_rfl] at f3
  obtain ⟨d3, r3, o3⟩ := opn_cast (opn_ints 3) (by rw [List.getElem?_eq_getElem (by omega)]; rfl) f3
  have f4 : DataW.trod enc Try.prog W 0 (fun _ => true) held n 37 ((cs.drop 4).take (Try.prog.cellsOf 37)) = xs[4]? := hf 4 _ rfl
  rw [show Try.prog.cellsOf 37 = 1 from by kernel_rfl] at f4
  obtain ⟨d4, r4, o4⟩ := opn_cast (opn_ints 3) (by rw [List.getElem?_eq_getElem (by omega)]; rfl) f4
  exact ⟨(d0, d1, d2, d3, d4), ⟨(cs.drop 0).take 1, cs.drop 1, (List.take_append_drop 1 cs).symm, r0, ⟨(cs.drop 1).take 1, cs.drop 2, (List.take_append_drop 1 (cs.drop 1)).symm.trans (by simp), r1, ⟨(cs.drop 2).take 1, cs.drop 3, (List.take_append_drop 1 (cs.drop 2)).symm.trans (by simp), r2, ⟨(cs.drop 3).take 1, cs.drop 4, (List.take_append_drop 1 (cs.drop 3)).symm.trans (by simp), r3, (by have e := List.take_of_length_le (l := cs.drop 4) (i := 1) (by rw [List.length_drop]; omega); rw [e] at r4; exact r4)⟩⟩⟩⟩, ⟨o0, ⟨o1, ⟨o2, ⟨o3, o4⟩⟩⟩⟩⟩
end Go.Proofs.Ytdhglmoanpkeoaa
namespace Go.Proofs.Ytdhglmoanpkeoaa
open Go.ChangeShapes Go.WideShapes Go.ChangeAt Go.WideMaps Go.WideElems Go.RowKit
set_option linter.unusedVariables false
theorem opn_ChargeS : Opn tChargeS 50 := opn_slice tCharge_law _ opn_Charge Try.underlying50 (by kernel_rfl)
end Go.Proofs.Ytdhglmoanpkeoaa
namespace Go.Proofs.Ytdhglmoanpkeoaa
open Go.ChangeShapes Go.WideShapes Go.ChangeAt Go.WideMaps Go.WideElems Go.RowKit
set_option linter.unusedVariables false
theorem recT_Engine : Try.prog.readableRec 52 = true := by kernel_rfl
theorem rowT_Engine : 52 < Try.prog.types.size := of_decide_eq_true (by kernel_rfl)
set_option maxRecDepth 100000 in
theorem opn_Engine : Opn tEngine 52 := by
  intro H enc W held fuel cs x h
  obtain ⟨xs, n, _, _, hl, hlen, hf⟩ := DataW.trod_struct Try.underlying52 h
  have hl2 : cs.length = 8 := hl.trans (by kernel_rfl)
  have hn : xs.length = 7 := hlen
  have f0 : DataW.trod enc Try.prog W 0 (fun _ => true) held n 24 ((cs.drop 0).take (Try.prog.cellsOf 24)) = xs[0]? := hf 0 _ rfl
  rw [show Try.prog.cellsOf 24 = 2 from by kernel_rfl] at f0
  obtain ⟨d0, r0, o0⟩ := opn_cast (opn_Store) (by rw [List.getElem?_eq_getElem (by omega)]; rfl) f0
  have f1 : DataW.trod enc Try.prog W 0 (fun _ => true) held n 3 ((cs.drop 2).take (Try.prog.cellsOf 3)) = xs[1]? := hf 1 _ rfl
  rw [show Try.prog.cellsOf 3 = 1 from by kernel_rfl] at f1
  obtain ⟨d1, r1, o1⟩ := opn_cast (opn_int) (by rw [List.getElem?_eq_getElem (by omega)]; rfl) f1
  have f2 : DataW.trod enc Try.prog W 0 (fun _ => true) held n 37 ((cs.drop 3).take (Try.prog.cellsOf 37)) = xs[2]? := hf 2 _ rfl
  rw [show Try.prog.cellsOf 37 = 1 from by kernel_rfl] at f2
  obtain ⟨d2, r2, o2⟩ := opn_cast (opn_ints 3) (by rw [List.getElem?_eq_getElem (by omega)]; rfl) f2
  have f3 : DataW.trod enc Try.prog W 0 (fun _ => true) held n 48 ((cs.drop 4).take (Try.prog.cellsOf 48)) = xs[3]? := hf 3 _ rfl
  rw [show Try.prog.cellsOf 48 = 1 from by kernel_rfl] at f3
  obtain ⟨d3, r3, o3⟩ := opn_cast (opn_ActiveS) (by rw [List.getElem?_eq_getElem (by omega)]; rfl) f3
  have f4 : DataW.trod enc Try.prog W 0 (fun _ => true) held n 49 ((cs.drop 5).take (Try.prog.cellsOf 49)) = xs[4]? := hf 4 _ rfl
  rw [show Try.prog.cellsOf 49 = 1 from by kernel_rfl] at f4
  obtain ⟨d4, r4, o4⟩ := opn_cast (opn_FinishedS) (by rw [List.getElem?_eq_getElem (by omega)]; rfl) f4
  have f5 : DataW.trod enc Try.prog W 0 (fun _ => true) held n 50 ((cs.drop 6).take (Try.prog.cellsOf 50)) = xs[5]? := hf 5 _ rfl
  rw [show Try.prog.cellsOf 50 = 1 from by kernel_rfl] at f5
  obtain ⟨d5, r5, o5⟩ := opn_cast (opn_ChargeS) (by rw [List.getElem?_eq_getElem (by omega)]; rfl) f5
  have f6 : DataW.trod enc Try.prog W 0 (fun _ => true) held n 3 ((cs.drop 7).take (Try.prog.cellsOf 3)) = xs[6]? := hf 6 _ rfl
  rw [show Try.prog.cellsOf 3 = 1 from by kernel_rfl] at f6
  obtain ⟨d6, r6, o6⟩ := opn_cast (opn_int) (by rw [List.getElem?_eq_getElem (by omega)]; rfl) f6
  exact ⟨(d0, d1, d2, d3, d4, d5, d6), ⟨(cs.drop 0).take 2, cs.drop 2, (List.take_append_drop 2 cs).symm, r0, ⟨(cs.drop 2).take 1, cs.drop 3, (List.take_append_drop 1 (cs.drop 2)).symm.trans (by simp), r1, ⟨(cs.drop 3).take 1, cs.drop 4, (List.take_append_drop 1 (cs.drop 3)).symm.trans (by simp), r2, ⟨(cs.drop 4).take 1, cs.drop 5, (List.take_append_drop 1 (cs.drop 4)).symm.trans (by simp), r3, ⟨(cs.drop 5).take 1, cs.drop 6, (List.take_append_drop 1 (cs.drop 5)).symm.trans (by simp), r4, ⟨(cs.drop 6).take 1, cs.drop 7, (List.take_append_drop 1 (cs.drop 6)).symm.trans (by simp), r5, (by have e := List.take_of_length_le (l := cs.drop 7) (i := 1) (by rw [List.length_drop]; omega); rw [e] at r6; exact r6)⟩⟩⟩⟩⟩⟩, ⟨o0, ⟨o1, ⟨o2, ⟨o3, ⟨o4, ⟨o5, o6⟩⟩⟩⟩⟩⟩⟩
set_option maxRecDepth 100000 in
theorem shut_Engine {H : Type} {enc : TypeId × Value → H} {W W' : World} {v : Value} {d : DataW H} {ps : List MemPlace} (h : DataW.Trod enc Try.prog W 0 (fun _ => true) true 52 v d ps) (hb : Below W.heap.size W W') (hlt : ∀ x ∈ ps, x.block < W.heap.size) :
    DataW.Trod enc Try.prog W' 0 (fun b => decide (b < W.heap.size)) true 52 v d ps := Below.trod laidOutP recT_Engine rowT_Engine h hb hlt
end Go.Proofs.Ytdhglmoanpkeoaa
