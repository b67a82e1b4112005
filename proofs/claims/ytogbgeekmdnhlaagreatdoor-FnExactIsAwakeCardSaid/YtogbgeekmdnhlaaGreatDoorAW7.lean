/-
 Texts of the proof, merged: TEngine.
-/
import Derived.Test.YtogbgeekmdnhlaaGreatDoorAW1
import Derived.Test.YtogbgeekmdnhlaaGreatDoorAW4
import Derived.Test.YtogbgeekmdnhlaaGreatDoorAW6
import Derived.BigQuiet
import Derived.Deep.QuietTactic
import Derived.Deep.RegionHeld3
namespace Go.Proofs.YtogbgeekmdnhlaaGreatDoor
open Go.RowKit
set_option maxRecDepth 100000
set_option linter.unusedVariables false
set_option linter.unusedSimpArgs false
def tEngine : Ty ((List (List (Int × List Int × Int × Int)) × Int) × Int × List Int × List ((Int × Int × List (Int × Int × Int) × List Int) × Int × List Int × Int × Int × Int × List (Int × List Int)) × List ((Int × Int × List (Int × Int × Int) × List Int) × Int × Int × List (Int × List Int)) × List (Int × Int × List Int × List Int × List Int) × Int) := tPair tStore (tPair tInt (tPair tIntES (tPair tActiveS (tPair tFinishedS (tPair tChargeS tInt)))))
theorem tEngine_law : tEngine.Law := tPair_law tStore_law (tPair_law tInt_law (tPair_law tIntES_law (tPair_law tActiveS_law (tPair_law tFinishedS_law (tPair_law tChargeS_law tInt_law)))))
theorem tEngine_R {w : World} {cs : List Value} {x0 : List (List (Int × List Int × Int × Int))} {a1 : Int} {a2 : Int} {x3 : List Int} {x4 : List ((Int × Int × List (Int × Int × Int) × List Int) × Int × List Int × Int × Int × Int × List (Int × List Int))} {x5 : List ((Int × Int × List (Int × Int × Int) × List Int) × Int × Int × List (Int × List Int))} {x6 : List (Int × Int × List Int × List Int × List Int)} {a7 : Int} (h : tEngine.R w cs ((x0, a1), a2, x3, x4, x5, x6, a7)) : ∃ v0 v3 v4 v5 v6, cs = [v0, .int .i64 a1, .int .i64 a2, v3, v4, v5, v6, .int .i64 a7] ∧ SlR tVersionS w v0 x0 ∧ SlR tInt w v3 x3 ∧ SlR tActive w v4 x4 ∧ SlR tFinished w v5 x5 ∧ SlR tCharge w v6 x6 := by
 obtain ⟨_, _, rfl, ⟨_, _, rfl, ⟨v0, rfl, h0⟩, rfl⟩, ⟨_, _, rfl, rfl, ⟨_, _, rfl, ⟨v3, rfl, h3⟩, ⟨_, _, rfl, ⟨v4, rfl, h4⟩, ⟨_, _, rfl, ⟨v5, rfl, h5⟩, ⟨_, _, rfl, ⟨v6, rfl, h6⟩, rfl⟩⟩⟩⟩⟩⟩ := h
 exact ⟨_, _, _, _, _, rfl, h0, h3, h4, h5, h6⟩
theorem tEngine_sz {x0 : List (List (Int × List Int × Int × Int))} {a1 : Int} {a2 : Int} {x3 : List Int} {x4 : List ((Int × Int × List (Int × Int × Int) × List Int) × Int × List Int × Int × Int × Int × List (Int × List Int))} {x5 : List ((Int × Int × List (Int × Int × Int) × List Int) × Int × Int × List (Int × List Int))} {x6 : List (Int × Int × List Int × List Int × List Int)} {a7 : Int} : tEngine.sz ((x0, a1), a2, x3, x4, x5, x6, a7) = zL tVersionS x0 + zL tInt x3 + zL tActive x4 + zL tFinished x5 + zL tCharge x6 := by
 simp only [tEngine, tPair_sz, tPair_nd, tPair_nv, tInt_sz, tInt_nd, tInt_nv, tSl_sz, tSl_nd, tSl_nv, tStore, tIntES_sz, tIntES_nd, tIntES_nv, tIntES_md, tIntES_mv]
 try omega
theorem tEngine_nv {x0 : List (List (Int × List Int × Int × Int))} {a1 : Int} {a2 : Int} {x3 : List Int} {x4 : List ((Int × Int × List (Int × Int × Int) × List Int) × Int × List Int × Int × Int × Int × List (Int × List Int))} {x5 : List ((Int × Int × List (Int × Int × Int) × List Int) × Int × Int × List (Int × List Int))} {x6 : List (Int × Int × List Int × List Int × List Int)} {a7 : Int} : tEngine.nv ((x0, a1), a2, x3, x4, x5, x6, a7) = 0 + ndL tVersionS x0 + ndL tInt x3 + ndL tActive x4 + ndL tFinished x5 + ndL tCharge x6 := by
 simp only [tEngine, tPair_sz, tPair_nd, tPair_nv, tInt_sz, tInt_nd, tInt_nv, tSl_sz, tSl_nd, tSl_nv, tStore, tIntES_sz, tIntES_nd, tIntES_nv, tIntES_md, tIntES_mv]
 try omega
theorem tEngine_mv {x0 : List (List (Int × List Int × Int × Int))} {a1 : Int} {a2 : Int} {x3 : List Int} {x4 : List ((Int × Int × List (Int × Int × Int) × List Int) × Int × List Int × Int × Int × Int × List (Int × List Int))} {x5 : List ((Int × Int × List (Int × Int × Int) × List Int) × Int × Int × List (Int × List Int))} {x6 : List (Int × Int × List Int × List Int × List Int)} {a7 : Int} {k : Int} : tEngine.mv ((x0, a1), a2, x3, x4, x5, x6, a7) k = ((mAll tVersionS x0 (k), a1), a2, mAll tInt x3 (k + (ndL tVersionS x0 : Int)), mAll tActive x4 (k + (ndL tVersionS x0 : Int) + (ndL tInt x3 : Int)), mAll tFinished x5 (k + (ndL tVersionS x0 : Int) + (ndL tInt x3 : Int) + (ndL tActive x4 : Int)), mAll tCharge x6 (k + (ndL tVersionS x0 : Int) + (ndL tInt x3 : Int) + (ndL tActive x4 : Int) + (ndL tFinished x5 : Int)), a7) := by
 simp only [tEngine, tPair_md, tPair_mv, tPair_nd, tPair_nv, tInt_md, tInt_mv, tInt_nd, tInt_nv, tSl_md, tSl_mv, tSl_nd, tSl_nv, tStore, tIntES_sz, tIntES_nd, tIntES_nv, tIntES_md, tIntES_mv, Int.natCast_add, Int.natCast_zero, Int.natCast_one, Int.add_zero, Int.zero_add, Int.add_assoc]
theorem tEngine_O {w : World} {F : Nat → Prop} {cs : List Value} {x0 : List (List (Int × List Int × Int × Int))} {a1 : Int} {a2 : Int} {x3 : List Int} {x4 : List ((Int × Int × List (Int × Int × Int) × List Int) × Int × List Int × Int × Int × Int × List (Int × List Int))} {x5 : List ((Int × Int × List (Int × Int × Int) × List Int) × Int × Int × List (Int × List Int))} {x6 : List (Int × Int × List Int × List Int × List Int)} {a7 : Int} (h : tEngine.O w F cs ((x0, a1), a2, x3, x4, x5, x6, a7)) : ∃ v0 v3 v4 v5 v6, ∃ e3 : TypeId, ∃ F0 F3 F4 F5 F6 : Nat → Prop, cs = [v0, .int .i64 a1, .int .i64 a2, v3, v4, v5, v6, .int .i64 a7] ∧ SlO 198 tVersionS w F0 v0 x0 ∧ SlO e3 tInt w F3 v3 x3 ∧ SlO 93 tActive w F4 v4 x4 ∧ SlO 54 tFinished w F5 v5 x5 ∧ SlO 154 tCharge w F6 v6 x6 ∧ (∀ b, F0 b → F b) ∧ (∀ b, F3 b → F b) ∧ (∀ b, F4 b → F b) ∧ (∀ b, F5 b → F b) ∧ (∀ b, F6 b → F b) ∧ (∀ b, F0 b → ¬ F3 b) ∧ (∀ b, F0 b → ¬ F4 b) ∧ (∀ b, F0 b → ¬ F5 b) ∧ (∀ b, F0 b → ¬ F6 b) ∧ (∀ b, F3 b → ¬ F4 b) ∧ (∀ b, F3 b → ¬ F5 b) ∧ (∀ b, F3 b → ¬ F6 b) ∧ (∀ b, F4 b → ¬ F5 b) ∧ (∀ b, F4 b → ¬ F6 b) ∧ (∀ b, F5 b → ¬ F6 b) := by
 obtain ⟨_, _, F0_1, F0_2, rfl, ⟨_, _, F1_1, F1_2, rfl, ⟨v0, rfl, h0⟩, rfl, s1_1, s1_2, d1⟩, ⟨_, _, F2_1, F2_2, rfl, rfl, ⟨_, _, F3_1, F3_2, rfl, ⟨v3, e3, rfl, h3⟩, ⟨_, _, F4_1, F4_2, rfl, ⟨v4, rfl, h4⟩, ⟨_, _, F5_1, F5_2, rfl, ⟨v5, rfl, h5⟩, ⟨_, _, F6_1, F6_2, rfl, ⟨v6, rfl, h6⟩, rfl, s6_1, s6_2, d6⟩, s5_1, s5_2, d5⟩, s4_1, s4_2, d4⟩, s3_1, s3_2, d3⟩, s2_1, s2_2, d2⟩, s0_1, s0_2, d0⟩ := h
 exact ⟨v0, v3, v4, v5, v6, e3, F1_1, F3_1, F4_1, F5_1, F6_1, rfl, h0, h3, h4, h5, h6, fun b h => (s0_1 b (s1_1 b h)), fun b h => (s0_2 b (s2_2 b (s3_1 b h))), fun b h => (s0_2 b (s2_2 b (s3_2 b (s4_1 b h)))), fun b h => (s0_2 b (s2_2 b (s3_2 b (s4_2 b (s5_1 b h))))), fun b h => (s0_2 b (s2_2 b (s3_2 b (s4_2 b (s5_2 b (s6_1 b h)))))), fun b h h2 => d0 b (s1_1 b h) (s2_2 b (s3_1 b h2)), fun b h h2 => d0 b (s1_1 b h) (s2_2 b (s3_2 b (s4_1 b h2))), fun b h h2 => d0 b (s1_1 b h) (s2_2 b (s3_2 b (s4_2 b (s5_1 b h2)))), fun b h h2 => d0 b (s1_1 b h) (s2_2 b (s3_2 b (s4_2 b (s5_2 b (s6_1 b h2))))), fun b h h2 => d3 b h (s4_1 b h2), fun b h h2 => d3 b h (s4_2 b (s5_1 b h2)), fun b h h2 => d3 b h (s4_2 b (s5_2 b (s6_1 b h2))), fun b h h2 => d4 b h (s5_1 b h2), fun b h h2 => d4 b h (s5_2 b (s6_1 b h2)), fun b h h2 => d5 b h (s6_1 b h2)⟩
theorem tEngine_mkO {w : World} {F : Nat → Prop} {x0 : List (List (Int × List Int × Int × Int))} {a1 : Int} {a2 : Int} {x3 : List Int} {x4 : List ((Int × Int × List (Int × Int × Int) × List Int) × Int × List Int × Int × Int × Int × List (Int × List Int))} {x5 : List ((Int × Int × List (Int × Int × Int) × List Int) × Int × Int × List (Int × List Int))} {x6 : List (Int × Int × List Int × List Int × List Int)} {a7 : Int} {e3 : TypeId} {v0 v3 v4 v5 v6 : Value} {F0 F3 F4 F5 F6 : Nat → Prop} (h0 : SlO 198 tVersionS w F0 v0 x0) (h3 : SlO e3 tInt w F3 v3 x3) (h4 : SlO 93 tActive w F4 v4 x4) (h5 : SlO 54 tFinished w F5 v5 x5) (h6 : SlO 154 tCharge w F6 v6 x6) (s0 : ∀ b, F0 b → F b) (s3 : ∀ b, F3 b → F b) (s4 : ∀ b, F4 b → F b) (s5 : ∀ b, F5 b → F b) (s6 : ∀ b, F6 b → F b) (d0_3 : ∀ b, F0 b → ¬ F3 b) (d0_4 : ∀ b, F0 b → ¬ F4 b) (d0_5 : ∀ b, F0 b → ¬ F5 b) (d0_6 : ∀ b, F0 b → ¬ F6 b) (d3_4 : ∀ b, F3 b → ¬ F4 b) (d3_5 : ∀ b, F3 b → ¬ F5 b) (d3_6 : ∀ b, F3 b → ¬ F6 b) (d4_5 : ∀ b, F4 b → ¬ F5 b) (d4_6 : ∀ b, F4 b → ¬ F6 b) (d5_6 : ∀ b, F5 b → ¬ F6 b) : tEngine.O w F [v0, .int .i64 a1, .int .i64 a2, v3, v4, v5, v6, .int .i64 a7] ((x0, a1), a2, x3, x4, x5, x6, a7) := ⟨[v0, .int .i64 a1], [.int .i64 a2, v3, v4, v5, v6, .int .i64 a7], F0, fun b => F3 b ∨ (F4 b ∨ (F5 b ∨ (F6 b))), rfl, ⟨[v0], [.int .i64 a1], F0, fun _ => False, rfl, ⟨_, rfl, h0⟩, rfl, (fun b h => h), (fun b h => (False.elim h)), (fun b h g => (False.elim g))⟩, ⟨[.int .i64 a2], [v3, v4, v5, v6, .int .i64 a7], fun _ => False, fun b => F3 b ∨ (F4 b ∨ (F5 b ∨ (F6 b))), rfl, rfl, ⟨[v3], [v4, v5, v6, .int .i64 a7], F3, fun b => F4 b ∨ (F5 b ∨ (F6 b)), rfl, ⟨_, _, rfl, h3⟩, ⟨[v4], [v5, v6, .int .i64 a7], F4, fun b => F5 b ∨ (F6 b), rfl, ⟨_, rfl, h4⟩, ⟨[v5], [v6, .int .i64 a7], F5, F6, rfl, ⟨_, rfl, h5⟩, ⟨[v6], [.int .i64 a7], F6, fun _ => False, rfl, ⟨_, rfl, h6⟩, rfl, (fun b h => h), (fun b h => (False.elim h)), (fun b h g => (False.elim g))⟩, (fun b h => (Or.inl h)), (fun b h => (Or.inr h)), (fun b h g => d5_6 b h g)⟩, (fun b h => (Or.inl h)), (fun b h => (h.elim (fun q0 => (Or.inr (Or.inl q0))) (fun q0 => (Or.inr (Or.inr q0))))), (fun b h g => (g.elim (fun q10 => d4_5 b h q10) (fun q10 => d4_6 b h q10)))⟩, (fun b h => (Or.inl h)), (fun b h => (h.elim (fun q0 => (Or.inr (Or.inl q0))) (fun q0 => (q0.elim (fun q1 => (Or.inr (Or.inr (Or.inl q1)))) (fun q1 => (Or.inr (Or.inr (Or.inr q1)))))))), (fun b h g => (g.elim (fun q10 => d3_4 b h q10) (fun q10 => (q10.elim (fun q11 => d3_5 b h q11) (fun q11 => d3_6 b h q11)))))⟩, (fun b h => (False.elim h)), (fun b h => (h.elim (fun q0 => (Or.inl q0)) (fun q0 => (q0.elim (fun q1 => (Or.inr (Or.inl q1))) (fun q1 => (q1.elim (fun q2 => (Or.inr (Or.inr (Or.inl q2)))) (fun q2 => (Or.inr (Or.inr (Or.inr q2)))))))))), (fun b h g => (False.elim h))⟩, (fun b h => s0 b h), (fun b h => (h.elim (fun q0 => s3 b q0) (fun q0 => (q0.elim (fun q1 => s4 b q1) (fun q1 => (q1.elim (fun q2 => s5 b q2) (fun q2 => s6 b q2))))))), (fun b h g => (g.elim (fun q10 => d0_3 b h q10) (fun q10 => (q10.elim (fun q11 => d0_4 b h q11) (fun q11 => (q11.elim (fun q12 => d0_5 b h q12) (fun q12 => d0_6 b h q12)))))))⟩
set_option maxHeartbeats 8000000 in
theorem szEngine_Y (a1 a2 a7 : Int) (v0 v3 v4 v5 v6 : Value) (x0 : List (List (Int × List Int × Int × Int))) (x3 : List Int) (x4 : List ((Int × Int × List (Int × Int × Int) × List Int) × Int × List Int × Int × Int × Int × List (Int × List Int))) (x5 : List ((Int × Int × List (Int × Int × Int) × List Int) × Int × Int × List (Int × List Int))) (x6 : List (Int × Int × List Int × List Int × List Int)) (k0 : Int) (w : World) (h0 : SlR tVersionS w v0 x0) (h3 : SlR tInt w v3 x3) (h4 : SlR tActive w v4 x4) (h5 : SlR tFinished w v5 x5) (h6 : SlR tCharge w v6 x6) (hs : ((zL tVersionS x0 + zL tInt x3 + zL tActive x4 + zL tFinished x5 + zL tCharge x6 : Nat) : Int) ≤ k0) (hk : k0 ≤ 1048576) :
  Calls Tryz.prog 12 #[.agg #[v0, .int .i64 a1, .int .i64 a2, v3, v4, v5, v6, .int .i64 a7], .int .i64 k0] w fun e w' => e = .returned (.int .i64 (k0 - ((zL tVersionS x0 + zL tInt x3 + zL tActive x4 + zL tFinished x5 + zL tCharge x6 : Nat) : Int))) ∧ Below w.heap.size w w' := by
 have H0 := hd h0
 have H3 := hd h3
 have H4 := hd h4
 have H5 := hd h5
 have H6 := hd h6
 clear h0 h3 h4 h5 h6
 have HZ0 : Hid (((zL tVersionS x0 : Nat) : Int) ≤ k0) := hd (by omega)
 have HK0 : Hid (k0 ≤ 1048576) := hd (by omega)
 have hn0 : ¬ k0 - ((zL tVersionS x0 : Nat) : Int) < 0 := by omega
 have HZ3 : Hid (((zL tInt x3 : Nat) : Int) ≤ k0 - ((zL tVersionS x0 : Nat) : Int)) := hd (by omega)
 have HK3 : Hid (k0 - ((zL tVersionS x0 : Nat) : Int) ≤ 1048576) := hd (by omega)
 have hn3 : ¬ k0 - ((zL tVersionS x0 : Nat) : Int) - ((zL tInt x3 : Nat) : Int) < 0 := by omega
 have HZ4 : Hid (((zL tActive x4 : Nat) : Int) ≤ k0 - ((zL tVersionS x0 : Nat) : Int) - ((zL tInt x3 : Nat) : Int)) := hd (by omega)
 have HK4 : Hid (k0 - ((zL tVersionS x0 : Nat) : Int) - ((zL tInt x3 : Nat) : Int) ≤ 1048576) := hd (by omega)
 have hn4 : ¬ k0 - ((zL tVersionS x0 : Nat) : Int) - ((zL tInt x3 : Nat) : Int) - ((zL tActive x4 : Nat) : Int) < 0 := by omega
 have HZ5 : Hid (((zL tFinished x5 : Nat) : Int) ≤ k0 - ((zL tVersionS x0 : Nat) : Int) - ((zL tInt x3 : Nat) : Int) - ((zL tActive x4 : Nat) : Int)) := hd (by omega)
 have HK5 : Hid (k0 - ((zL tVersionS x0 : Nat) : Int) - ((zL tInt x3 : Nat) : Int) - ((zL tActive x4 : Nat) : Int) ≤ 1048576) := hd (by omega)
 have hn5 : ¬ k0 - ((zL tVersionS x0 : Nat) : Int) - ((zL tInt x3 : Nat) : Int) - ((zL tActive x4 : Nat) : Int) - ((zL tFinished x5 : Nat) : Int) < 0 := by omega
 have HZ6 : Hid (((zL tCharge x6 : Nat) : Int) ≤ k0 - ((zL tVersionS x0 : Nat) : Int) - ((zL tInt x3 : Nat) : Int) - ((zL tActive x4 : Nat) : Int) - ((zL tFinished x5 : Nat) : Int)) := hd (by omega)
 have HK6 : Hid (k0 - ((zL tVersionS x0 : Nat) : Int) - ((zL tInt x3 : Nat) : Int) - ((zL tActive x4 : Nat) : Int) - ((zL tFinished x5 : Nat) : Int) ≤ 1048576) := hd (by omega)
 have hn6 : ¬ k0 - ((zL tVersionS x0 : Nat) : Int) - ((zL tInt x3 : Nat) : Int) - ((zL tActive x4 : Nat) : Int) - ((zL tFinished x5 : Nat) : Int) - ((zL tCharge x6 : Nat) : Int) < 0 := by omega
 have HE : Hid (k0 - ((zL tVersionS x0 : Nat) : Int) - ((zL tInt x3 : Nat) : Int) - ((zL tActive x4 : Nat) : Int) - ((zL tFinished x5 : Nat) : Int) - ((zL tCharge x6 : Nat) : Int) = k0 - ((zL tVersionS x0 + zL tInt x3 + zL tActive x4 + zL tFinished x5 + zL tCharge x6 : Nat) : Int)) := hd (by omega)
 clear hs hk
 have hb : Below w.heap.size w (w.alloc (.cells #[v0, .int .i64 a1, .int .i64 a2, v3, v4, v5, v6, .int .i64 a7] 30)) := (Below.refl _ w).alloc (Nat.le_refl _) _
 have g0 : (w.alloc (.cells #[v0, .int .i64 a1, .int .i64 a2, v3, v4, v5, v6, .int .i64 a7] 30)).heap[w.heap.size]? = some (.cells #[v0, .int .i64 a1, .int .i64 a2, v3, v4, v5, v6, .int .i64 a7] 30 (0, 0)) := heap_alloc_new w _
 have hz0 : w.heap.size < (w.alloc (.cells #[v0, .int .i64 a1, .int .i64 a2, v3, v4, v5, v6, .int .i64 a7] 30)).heap.size := by simp
 go_enter Tryz.func12, Tryz.ntmps12
 go_wp2_with fail
 generalize (w.alloc (.cells #[v0, .int .i64 a1, .int .i64 a2, v3, v4, v5, v6, .int .i64 a7] 30)) = W at *
 refine (szStore_Y a1 v0 x0 (k0) W (slR_below tVersionS_law H0.out hb) HZ0.out HK0.out).mono ?_
 rintro e W1 ⟨rfl, b1⟩
 replace g0 := (b1.block w.heap.size hz0).trans g0
 replace hz0 := Nat.lt_of_lt_of_le hz0 b1.size
 replace hb := hb.trans (b1.mono hb.size)
 clear b1
 have p3 := cr 3 (v3) g0
 go_wp2_with fail
 clear p3
 refine (szIntS_Y v3 x3 (k0 - ((zL tVersionS x0 : Nat) : Int)) W1 (slR_below tInt_law H3.out hb) HZ3.out HK3.out).mono ?_
 rintro e W2 ⟨rfl, b1⟩
 replace g0 := (b1.block w.heap.size hz0).trans g0
 replace hz0 := Nat.lt_of_lt_of_le hz0 b1.size
 replace hb := hb.trans (b1.mono hb.size)
 clear b1
 have p4 := cr 4 (v4) g0
 go_wp2_with fail
 clear p4
 refine (szActiveS_Y v4 x4 (k0 - ((zL tVersionS x0 : Nat) : Int) - ((zL tInt x3 : Nat) : Int)) W2 (slR_below tActive_law H4.out hb) HZ4.out HK4.out).mono ?_
 rintro e W3 ⟨rfl, b1⟩
 replace g0 := (b1.block w.heap.size hz0).trans g0
 replace hz0 := Nat.lt_of_lt_of_le hz0 b1.size
 replace hb := hb.trans (b1.mono hb.size)
 clear b1
 have p5 := cr 5 (v5) g0
 go_wp2_with fail
 clear p5
 refine (szFinishedS_Y v5 x5 (k0 - ((zL tVersionS x0 : Nat) : Int) - ((zL tInt x3 : Nat) : Int) - ((zL tActive x4 : Nat) : Int)) W3 (slR_below tFinished_law H5.out hb) HZ5.out HK5.out).mono ?_
 rintro e W4 ⟨rfl, b1⟩
 replace g0 := (b1.block w.heap.size hz0).trans g0
 replace hz0 := Nat.lt_of_lt_of_le hz0 b1.size
 replace hb := hb.trans (b1.mono hb.size)
 clear b1
 have p6 := cr 6 (v6) g0
 go_wp2_with fail
 clear p6
 refine (szChargeS_Y v6 x6 (k0 - ((zL tVersionS x0 : Nat) : Int) - ((zL tInt x3 : Nat) : Int) - ((zL tActive x4 : Nat) : Int) - ((zL tFinished x5 : Nat) : Int)) W4 (slR_below tCharge_law H6.out hb) HZ6.out HK6.out).mono ?_
 rintro e W5 ⟨rfl, b1⟩
 replace g0 := (b1.block w.heap.size hz0).trans g0
 replace hz0 := Nat.lt_of_lt_of_le hz0 b1.size
 replace hb := hb.trans (b1.mono hb.size)
 clear b1
 go_wp2
 go_ret
 exact ⟨ty_ret HE.out, hb⟩
set_option maxHeartbeats 8000000 in
theorem szEngine_N (a1 a2 a7 : Int) (v0 v3 v4 v5 v6 : Value) (x0 : List (List (Int × List Int × Int × Int))) (x3 : List Int) (x4 : List ((Int × Int × List (Int × Int × Int) × List Int) × Int × List Int × Int × Int × Int × List (Int × List Int))) (x5 : List ((Int × Int × List (Int × Int × Int) × List Int) × Int × Int × List (Int × List Int))) (x6 : List (Int × Int × List Int × List Int × List Int)) (k0 : Int) (w : World) (h0 : SlR tVersionS w v0 x0) (h3 : SlR tInt w v3 x3) (h4 : SlR tActive w v4 x4) (h5 : SlR tFinished w v5 x5) (h6 : SlR tCharge w v6 x6) (hs : k0 < ((zL tVersionS x0 + zL tInt x3 + zL tActive x4 + zL tFinished x5 + zL tCharge x6 : Nat) : Int)) (hk : k0 ≤ 1048576) (hp : 0 ≤ k0) (o0 : tVersionSS.ok x0) (o3 : tIntES.ok x3) (o4 : tActiveS.ok x4) (o5 : tFinishedS.ok x5) (o6 : tChargeS.ok x6) :
  Calls Tryz.prog 12 #[.agg #[v0, .int .i64 a1, .int .i64 a2, v3, v4, v5, v6, .int .i64 a7], .int .i64 k0] w fun e w' => e = .returned (.int .i64 (-1)) ∧ Below w.heap.size w w' := by
 have H0 := hd h0
 have H3 := hd h3
 have H4 := hd h4
 have H5 := hd h5
 have H6 := hd h6
 clear h0 h3 h4 h5 h6
 have HO0 := hd o0
 have HO3 := hd o3
 have HO4 := hd o4
 have HO5 := hd o5
 have HO6 := hd o6
 clear o0 o3 o4 o5 o6
 by_cases c0 : k0 < ((zL tVersionS x0 : Nat) : Int)
 ·
  have HZ0 : Hid (k0 < ((zL tVersionS x0 : Nat) : Int)) := hd (by omega)
  have HP0 : Hid (0 ≤ k0) := hd (by omega)
  have HK0 : Hid (k0 ≤ 1048576) := hd (by omega)
  clear hs hk
  clear c0 hp
  have hb : Below w.heap.size w (w.alloc (.cells #[v0, .int .i64 a1, .int .i64 a2, v3, v4, v5, v6, .int .i64 a7] 30)) := (Below.refl _ w).alloc (Nat.le_refl _) _
  have g0 : (w.alloc (.cells #[v0, .int .i64 a1, .int .i64 a2, v3, v4, v5, v6, .int .i64 a7] 30)).heap[w.heap.size]? = some (.cells #[v0, .int .i64 a1, .int .i64 a2, v3, v4, v5, v6, .int .i64 a7] 30 (0, 0)) := heap_alloc_new w _
  have hz0 : w.heap.size < (w.alloc (.cells #[v0, .int .i64 a1, .int .i64 a2, v3, v4, v5, v6, .int .i64 a7] 30)).heap.size := by simp
  go_enter Tryz.func12, Tryz.ntmps12
  go_wp2_with fail
  generalize (w.alloc (.cells #[v0, .int .i64 a1, .int .i64 a2, v3, v4, v5, v6, .int .i64 a7] 30)) = W at *
  refine (szStore_N a1 v0 x0 (k0) W (slR_below tVersionS_law H0.out hb) HZ0.out HK0.out HP0.out HO0.out).mono ?_
  rintro e W1 ⟨rfl, b1⟩
  replace g0 := (b1.block w.heap.size hz0).trans g0
  replace hz0 := Nat.lt_of_lt_of_le hz0 b1.size
  replace hb := hb.trans (b1.mono hb.size)
  clear b1
  go_wp2
  go_ret
  exact ⟨rfl, hb⟩
 ·
  by_cases c1 : k0 - ((zL tVersionS x0 : Nat) : Int) < ((zL tInt x3 : Nat) : Int)
  ·
   have HZ0 : Hid (((zL tVersionS x0 : Nat) : Int) ≤ k0) := hd (by omega)
   have hn0 : ¬ k0 - ((zL tVersionS x0 : Nat) : Int) < 0 := by omega
   have HK0 : Hid (k0 ≤ 1048576) := hd (by omega)
   have HZ3 : Hid (k0 - ((zL tVersionS x0 : Nat) : Int) < ((zL tInt x3 : Nat) : Int)) := hd (by omega)
   have HP3 : Hid (0 ≤ k0 - ((zL tVersionS x0 : Nat) : Int)) := hd (by omega)
   have HK3 : Hid (k0 - ((zL tVersionS x0 : Nat) : Int) ≤ 1048576) := hd (by omega)
   clear hs hk
   clear c1 hp c0
   have hb : Below w.heap.size w (w.alloc (.cells #[v0, .int .i64 a1, .int .i64 a2, v3, v4, v5, v6, .int .i64 a7] 30)) := (Below.refl _ w).alloc (Nat.le_refl _) _
   have g0 : (w.alloc (.cells #[v0, .int .i64 a1, .int .i64 a2, v3, v4, v5, v6, .int .i64 a7] 30)).heap[w.heap.size]? = some (.cells #[v0, .int .i64 a1, .int .i64 a2, v3, v4, v5, v6, .int .i64 a7] 30 (0, 0)) := heap_alloc_new w _
   have hz0 : w.heap.size < (w.alloc (.cells #[v0, .int .i64 a1, .int .i64 a2, v3, v4, v5, v6, .int .i64 a7] 30)).heap.size := by simp
   go_enter Tryz.func12, Tryz.ntmps12
   go_wp2_with fail
   generalize (w.alloc (.cells #[v0, .int .i64 a1, .int .i64 a2, v3, v4, v5, v6, .int .i64 a7] 30)) = W at *
   refine (szStore_Y a1 v0 x0 (k0) W (slR_below tVersionS_law H0.out hb) HZ0.out HK0.out).mono ?_
   rintro e W1 ⟨rfl, b1⟩
   replace g0 := (b1.block w.heap.size hz0).trans g0
   replace hz0 := Nat.lt_of_lt_of_le hz0 b1.size
   replace hb := hb.trans (b1.mono hb.size)
   clear b1
   have p3 := cr 3 (v3) g0
   go_wp2_with fail
   clear p3
   refine (szIntS_N v3 x3 (k0 - ((zL tVersionS x0 : Nat) : Int)) W1 (slR_below tInt_law H3.out hb) HZ3.out HK3.out HP3.out HO3.out).mono ?_
   rintro e W2 ⟨rfl, b1⟩
   replace g0 := (b1.block w.heap.size hz0).trans g0
   replace hz0 := Nat.lt_of_lt_of_le hz0 b1.size
   replace hb := hb.trans (b1.mono hb.size)
   clear b1
   go_wp2
   go_ret
   exact ⟨rfl, hb⟩
  ·
   by_cases c2 : k0 - ((zL tVersionS x0 : Nat) : Int) - ((zL tInt x3 : Nat) : Int) < ((zL tActive x4 : Nat) : Int)
   ·
    have HZ0 : Hid (((zL tVersionS x0 : Nat) : Int) ≤ k0) := hd (by omega)
    have hn0 : ¬ k0 - ((zL tVersionS x0 : Nat) : Int) < 0 := by omega
    have HK0 : Hid (k0 ≤ 1048576) := hd (by omega)
    have HZ3 : Hid (((zL tInt x3 : Nat) : Int) ≤ k0 - ((zL tVersionS x0 : Nat) : Int)) := hd (by omega)
    have hn3 : ¬ k0 - ((zL tVersionS x0 : Nat) : Int) - ((zL tInt x3 : Nat) : Int) < 0 := by omega
    have HK3 : Hid (k0 - ((zL tVersionS x0 : Nat) : Int) ≤ 1048576) := hd (by omega)
    have HZ4 : Hid (k0 - ((zL tVersionS x0 : Nat) : Int) - ((zL tInt x3 : Nat) : Int) < ((zL tActive x4 : Nat) : Int)) := hd (by omega)
    have HP4 : Hid (0 ≤ k0 - ((zL tVersionS x0 : Nat) : Int) - ((zL tInt x3 : Nat) : Int)) := hd (by omega)
    have HK4 : Hid (k0 - ((zL tVersionS x0 : Nat) : Int) - ((zL tInt x3 : Nat) : Int) ≤ 1048576) := hd (by omega)
    clear hs hk
    clear c2 hp c0 c1
    have hb : Below w.heap.size w (w.alloc (.cells #[v0, .int .i64 a1, .int .i64 a2, v3, v4, v5, v6, .int .i64 a7] 30)) := (Below.refl _ w).alloc (Nat.le_refl _) _
    have g0 : (w.alloc (.cells #[v0, .int .i64 a1, .int .i64 a2, v3, v4, v5, v6, .int .i64 a7] 30)).heap[w.heap.size]? = some (.cells #[v0, .int .i64 a1, .int .i64 a2, v3, v4, v5, v6, .int .i64 a7] 30 (0, 0)) := heap_alloc_new w _
    have hz0 : w.heap.size < (w.alloc (.cells #[v0, .int .i64 a1, .int .i64 a2, v3, v4, v5, v6, .int .i64 a7] 30)).heap.size := by simp
    go_enter Tryz.func12, Tryz.ntmps12
    go_wp2_with fail
    generalize (w.alloc (.cells #[v0, .int .i64 a1, .int .i64 a2, v3, v4, v5, v6, .int .i64 a7] 30)) = W at *
    refine (szStore_Y a1 v0 x0 (k0) W (slR_below tVersionS_law H0.out hb) HZ0.out HK0.out).mono ?_
    rintro e W1 ⟨rfl, b1⟩
    replace g0 := (b1.block w.heap.size hz0).trans g0
    replace hz0 := Nat.lt_of_lt_of_le hz0 b1.size
    replace hb := hb.trans (b1.mono hb.size)
    clear b1
    have p3 := cr 3 (v3) g0
    go_wp2_with fail
    clear p3
    refine (szIntS_Y v3 x3 (k0 - ((zL tVersionS x0 : Nat) : Int)) W1 (slR_below tInt_law H3.out hb) HZ3.out HK3.out).mono ?_
    rintro e W2 ⟨rfl, b1⟩
    replace g0 := (b1.block w.heap.size hz0).trans g0
    replace hz0 := Nat.lt_of_lt_of_le hz0 b1.size
    replace hb := hb.trans (b1.mono hb.size)
    clear b1
    have p4 := cr 4 (v4) g0
    go_wp2_with fail
    clear p4
    refine (szActiveS_N v4 x4 (k0 - ((zL tVersionS x0 : Nat) : Int) - ((zL tInt x3 : Nat) : Int)) W2 (slR_below tActive_law H4.out hb) HZ4.out HK4.out HP4.out HO4.out).mono ?_
    rintro e W3 ⟨rfl, b1⟩
    replace g0 := (b1.block w.heap.size hz0).trans g0
    replace hz0 := Nat.lt_of_lt_of_le hz0 b1.size
    replace hb := hb.trans (b1.mono hb.size)
    clear b1
    go_wp2
    go_ret
    exact ⟨rfl, hb⟩
   ·
    by_cases c3 : k0 - ((zL tVersionS x0 : Nat) : Int) - ((zL tInt x3 : Nat) : Int) - ((zL tActive x4 : Nat) : Int) < ((zL tFinished x5 : Nat) : Int)
    ·
     have HZ0 : Hid (((zL tVersionS x0 : Nat) : Int) ≤ k0) := hd (by omega)
     have hn0 : ¬ k0 - ((zL tVersionS x0 : Nat) : Int) < 0 := by omega
     have HK0 : Hid (k0 ≤ 1048576) := hd (by omega)
     have HZ3 : Hid (((zL tInt x3 : Nat) : Int) ≤ k0 - ((zL tVersionS x0 : Nat) : Int)) := hd (by omega)
     have hn3 : ¬ k0 - ((zL tVersionS x0 : Nat) : Int) - ((zL tInt x3 : Nat) : Int) < 0 := by omega
     have HK3 : Hid (k0 - ((zL tVersionS x0 : Nat) : Int) ≤ 1048576) := hd (by omega)
     have HZ4 : Hid (((zL tActive x4 : Nat) : Int) ≤ k0 - ((zL tVersionS x0 : Nat) : Int) - ((zL tInt x3 : Nat) : Int)) := hd (by omega)
     have hn4 : ¬ k0 - ((zL tVersionS x0 : Nat) : Int) - ((zL tInt x3 : Nat) : Int) - ((zL tActive x4 : Nat) : Int) < 0 := by omega
     have HK4 : Hid (k0 - ((zL tVersionS x0 : Nat) : Int) - ((zL tInt x3 : Nat) : Int) ≤ 1048576) := hd (by omega)
     have HZ5 : Hid (k0 - ((zL tVersionS x0 : Nat) : Int) - ((zL tInt x3 : Nat) : Int) - ((zL tActive x4 : Nat) : Int) < ((zL tFinished x5 : Nat) : Int)) := hd (by omega)
     have HP5 : Hid (0 ≤ k0 - ((zL tVersionS x0 : Nat) : Int) - ((zL tInt x3 : Nat) : Int) - ((zL tActive x4 : Nat) : Int)) := hd (by omega)
     have HK5 : Hid (k0 - ((zL tVersionS x0 : Nat) : Int) - ((zL tInt x3 : Nat) : Int) - ((zL tActive x4 : Nat) : Int) ≤ 1048576) := hd (by omega)
     clear hs hk
     clear c3 hp c0 c1 c2
     have hb : Below w.heap.size w (w.alloc (.cells #[v0, .int .i64 a1, .int .i64 a2, v3, v4, v5, v6, .int .i64 a7] 30)) := (Below.refl _ w).alloc (Nat.le_refl _) _
     have g0 : (w.alloc (.cells #[v0, .int .i64 a1, .int .i64 a2, v3, v4, v5, v6, .int .i64 a7] 30)).heap[w.heap.size]? = some (.cells #[v0, .int .i64 a1, .int .i64 a2, v3, v4, v5, v6, .int .i64 a7] 30 (0, 0)) := heap_alloc_new w _
     have hz0 : w.heap.size < (w.alloc (.cells #[v0, .int .i64 a1, .int .i64 a2, v3, v4, v5, v6, .int .i64 a7] 30)).heap.size := by simp
     go_enter Tryz.func12, Tryz.ntmps12
     go_wp2_with fail
     generalize (w.alloc (.cells #[v0, .int .i64 a1, .int .i64 a2, v3, v4, v5, v6, .int .i64 a7] 30)) = W at *
     refine (szStore_Y a1 v0 x0 (k0) W (slR_below tVersionS_law H0.out hb) HZ0.out HK0.out).mono ?_
     rintro e W1 ⟨rfl, b1⟩
     replace g0 := (b1.block w.heap.size hz0).trans g0
     replace hz0 := Nat.lt_of_lt_of_le hz0 b1.size
     replace hb := hb.trans (b1.mono hb.size)
     clear b1
     have p3 := cr 3 (v3) g0
     go_wp2_with fail
     clear p3
     refine (szIntS_Y v3 x3 (k0 - ((zL tVersionS x0 : Nat) : Int)) W1 (slR_below tInt_law H3.out hb) HZ3.out HK3.out).mono ?_
     rintro e W2 ⟨rfl, b1⟩
     replace g0 := (b1.block w.heap.size hz0).trans g0
     replace hz0 := Nat.lt_of_lt_of_le hz0 b1.size
     replace hb := hb.trans (b1.mono hb.size)
     clear b1
     have p4 := cr 4 (v4) g0
     go_wp2_with fail
     clear p4
     refine (szActiveS_Y v4 x4 (k0 - ((zL tVersionS x0 : Nat) : Int) - ((zL tInt x3 : Nat) : Int)) W2 (slR_below tActive_law H4.out hb) HZ4.out HK4.out).mono ?_
     rintro e W3 ⟨rfl, b1⟩
     replace g0 := (b1.block w.heap.size hz0).trans g0
     replace hz0 := Nat.lt_of_lt_of_le hz0 b1.size
     replace hb := hb.trans (b1.mono hb.size)
     clear b1
     have p5 := cr 5 (v5) g0
     go_wp2_with fail
     clear p5
     refine (szFinishedS_N v5 x5 (k0 - ((zL tVersionS x0 : Nat) : Int) - ((zL tInt x3 : Nat) : Int) - ((zL tActive x4 : Nat) : Int)) W3 (slR_below tFinished_law H5.out hb) HZ5.out HK5.out HP5.out HO5.out).mono ?_
     rintro e W4 ⟨rfl, b1⟩
     replace g0 := (b1.block w.heap.size hz0).trans g0
     replace hz0 := Nat.lt_of_lt_of_le hz0 b1.size
     replace hb := hb.trans (b1.mono hb.size)
     clear b1
     go_wp2
     go_ret
     exact ⟨rfl, hb⟩
    ·
     have HZ0 : Hid (((zL tVersionS x0 : Nat) : Int) ≤ k0) := hd (by omega)
     have hn0 : ¬ k0 - ((zL tVersionS x0 : Nat) : Int) < 0 := by omega
     have HK0 : Hid (k0 ≤ 1048576) := hd (by omega)
     have HZ3 : Hid (((zL tInt x3 : Nat) : Int) ≤ k0 - ((zL tVersionS x0 : Nat) : Int)) := hd (by omega)
     have hn3 : ¬ k0 - ((zL tVersionS x0 : Nat) : Int) - ((zL tInt x3 : Nat) : Int) < 0 := by omega
     have HK3 : Hid (k0 - ((zL tVersionS x0 : Nat) : Int) ≤ 1048576) := hd (by omega)
     have HZ4 : Hid (((zL tActive x4 : Nat) : Int) ≤ k0 - ((zL tVersionS x0 : Nat) : Int) - ((zL tInt x3 : Nat) : Int)) := hd (by omega)
     have hn4 : ¬ k0 - ((zL tVersionS x0 : Nat) : Int) - ((zL tInt x3 : Nat) : Int) - ((zL tActive x4 : Nat) : Int) < 0 := by omega
     have HK4 : Hid (k0 - ((zL tVersionS x0 : Nat) : Int) - ((zL tInt x3 : Nat) : Int) ≤ 1048576) := hd (by omega)
     have HZ5 : Hid (((zL tFinished x5 : Nat) : Int) ≤ k0 - ((zL tVersionS x0 : Nat) : Int) - ((zL tInt x3 : Nat) : Int) - ((zL tActive x4 : Nat) : Int)) := hd (by omega)
     have hn5 : ¬ k0 - ((zL tVersionS x0 : Nat) : Int) - ((zL tInt x3 : Nat) : Int) - ((zL tActive x4 : Nat) : Int) - ((zL tFinished x5 : Nat) : Int) < 0 := by omega
     have HK5 : Hid (k0 - ((zL tVersionS x0 : Nat) : Int) - ((zL tInt x3 : Nat) : Int) - ((zL tActive x4 : Nat) : Int) ≤ 1048576) := hd (by omega)
     have HZ6 : Hid (k0 - ((zL tVersionS x0 : Nat) : Int) - ((zL tInt x3 : Nat) : Int) - ((zL tActive x4 : Nat) : Int) - ((zL tFinished x5 : Nat) : Int) < ((zL tCharge x6 : Nat) : Int)) := hd (by omega)
     have HP6 : Hid (0 ≤ k0 - ((zL tVersionS x0 : Nat) : Int) - ((zL tInt x3 : Nat) : Int) - ((zL tActive x4 : Nat) : Int) - ((zL tFinished x5 : Nat) : Int)) := hd (by omega)
     have HK6 : Hid (k0 - ((zL tVersionS x0 : Nat) : Int) - ((zL tInt x3 : Nat) : Int) - ((zL tActive x4 : Nat) : Int) - ((zL tFinished x5 : Nat) : Int) ≤ 1048576) := hd (by omega)
     clear hs hk
     clear hp c0 c1 c2 c3
     have hb : Below w.heap.size w (w.alloc (.cells #[v0, .int .i64 a1, .int .i64 a2, v3, v4, v5, v6, .int .i64 a7] 30)) := (Below.refl _ w).alloc (Nat.le_refl _) _
     have g0 : (w.alloc (.cells #[v0, .int .i64 a1, .int .i64 a2, v3, v4, v5, v6, .int .i64 a7] 30)).heap[w.heap.size]? = some (.cells #[v0, .int .i64 a1, .int .i64 a2, v3, v4, v5, v6, .int .i64 a7] 30 (0, 0)) := heap_alloc_new w _
     have hz0 : w.heap.size < (w.alloc (.cells #[v0, .int .i64 a1, .int .i64 a2, v3, v4, v5, v6, .int .i64 a7] 30)).heap.size := by simp
     go_enter Tryz.func12, Tryz.ntmps12
     go_wp2_with fail
     generalize (w.alloc (.cells #[v0, .int .i64 a1, .int .i64 a2, v3, v4, v5, v6, .int .i64 a7] 30)) = W at *
     refine (szStore_Y a1 v0 x0 (k0) W (slR_below tVersionS_law H0.out hb) HZ0.out HK0.out).mono ?_
     rintro e W1 ⟨rfl, b1⟩
     replace g0 := (b1.block w.heap.size hz0).trans g0
     replace hz0 := Nat.lt_of_lt_of_le hz0 b1.size
     replace hb := hb.trans (b1.mono hb.size)
     clear b1
     have p3 := cr 3 (v3) g0
     go_wp2_with fail
     clear p3
     refine (szIntS_Y v3 x3 (k0 - ((zL tVersionS x0 : Nat) : Int)) W1 (slR_below tInt_law H3.out hb) HZ3.out HK3.out).mono ?_
     rintro e W2 ⟨rfl, b1⟩
     replace g0 := (b1.block w.heap.size hz0).trans g0
     replace hz0 := Nat.lt_of_lt_of_le hz0 b1.size
     replace hb := hb.trans (b1.mono hb.size)
     clear b1
     have p4 := cr 4 (v4) g0
     go_wp2_with fail
     clear p4
     refine (szActiveS_Y v4 x4 (k0 - ((zL tVersionS x0 : Nat) : Int) - ((zL tInt x3 : Nat) : Int)) W2 (slR_below tActive_law H4.out hb) HZ4.out HK4.out).mono ?_
     rintro e W3 ⟨rfl, b1⟩
     replace g0 := (b1.block w.heap.size hz0).trans g0
     replace hz0 := Nat.lt_of_lt_of_le hz0 b1.size
     replace hb := hb.trans (b1.mono hb.size)
     clear b1
     have p5 := cr 5 (v5) g0
     go_wp2_with fail
     clear p5
     refine (szFinishedS_Y v5 x5 (k0 - ((zL tVersionS x0 : Nat) : Int) - ((zL tInt x3 : Nat) : Int) - ((zL tActive x4 : Nat) : Int)) W3 (slR_below tFinished_law H5.out hb) HZ5.out HK5.out).mono ?_
     rintro e W4 ⟨rfl, b1⟩
     replace g0 := (b1.block w.heap.size hz0).trans g0
     replace hz0 := Nat.lt_of_lt_of_le hz0 b1.size
     replace hb := hb.trans (b1.mono hb.size)
     clear b1
     have p6 := cr 6 (v6) g0
     go_wp2_with fail
     clear p6
     refine (szChargeS_N v6 x6 (k0 - ((zL tVersionS x0 : Nat) : Int) - ((zL tInt x3 : Nat) : Int) - ((zL tActive x4 : Nat) : Int) - ((zL tFinished x5 : Nat) : Int)) W4 (slR_below tCharge_law H6.out hb) HZ6.out HK6.out HP6.out HO6.out).mono ?_
     rintro e W5 ⟨rfl, b1⟩
     replace g0 := (b1.block w.heap.size hz0).trans g0
     replace hz0 := Nat.lt_of_lt_of_le hz0 b1.size
     replace hb := hb.trans (b1.mono hb.size)
     clear b1
     go_wp2
     go_ret
     exact ⟨rfl, hb⟩
set_option maxHeartbeats 8000000 in
theorem toEngine_T (a1 a2 a7 : Int) (v0 v3 v4 v5 v6 : Value) (x0 : List (List (Int × List Int × Int × Int))) (x3 : List Int) (x4 : List ((Int × Int × List (Int × Int × Int) × List Int) × Int × List Int × Int × Int × Int × List (Int × List Int))) (x5 : List ((Int × Int × List (Int × Int × Int) × List Int) × Int × Int × List (Int × List Int))) (x6 : List (Int × Int × List Int × List Int × List Int)) (w : World) (h0 : SlR tVersionS w v0 x0) (h3 : SlR tInt w v3 x3) (h4 : SlR tActive w v4 x4) (h5 : SlR tFinished w v5 x5) (h6 : SlR tCharge w v6 x6) (s0 : zL tVersionS x0 ≤ 1048576) (s3 : zL tInt x3 ≤ 1048576) (s4 : zL tActive x4 ≤ 1048576) (s5 : zL tFinished x5 ≤ 1048576) (s6 : zL tCharge x6 ≤ 1048576) :
  Calls Tryz.prog 14 #[.agg #[v0, .int .i64 a1, .int .i64 a2, v3, v4, v5, v6, .int .i64 a7]] w (FreshT tEngine (fun cs => .agg cs.toArray) w ((x0, a1), a2, x3, x4, x5, x6, a7)) := by
 have H0 := hd h0
 have H3 := hd h3
 have H4 := hd h4
 have H5 := hd h5
 have H6 := hd h6
 clear h0 h3 h4 h5 h6
 have S0 := hd s0
 have S3 := hd s3
 have S4 := hd s4
 have S5 := hd s5
 have S6 := hd s6
 clear s0 s3 s4 s5 s6
 go_enter Tryz.func14, Tryz.ntmps14
 go_wp2_with fail
 have hb : Below w.heap.size w (((w.alloc (.cells #[v0, .int .i64 a1, .int .i64 a2, v3, v4, v5, v6, .int .i64 a7] 30)).alloc (.cells #[.slice none 0 0, .int .i64 0, .int .i64 0, .slice none 0 0, .slice none 0 0, .slice none 0 0, .slice none 0 0, .int .i64 0] 40)).alloc (.cells #[.slice none 0 0, .int .i64 0, .int .i64 0, .slice none 0 0, .slice none 0 0, .slice none 0 0, .slice none 0 0, .int .i64 0] 40)) := (((Below.refl _ w).alloc (Nat.le_refl _) _).alloc (by simp) _).alloc (by simp; omega) _
 have g2 : (((w.alloc (.cells #[v0, .int .i64 a1, .int .i64 a2, v3, v4, v5, v6, .int .i64 a7] 30)).alloc (.cells #[.slice none 0 0, .int .i64 0, .int .i64 0, .slice none 0 0, .slice none 0 0, .slice none 0 0, .slice none 0 0, .int .i64 0] 40)).alloc (.cells #[.slice none 0 0, .int .i64 0, .int .i64 0, .slice none 0 0, .slice none 0 0, .slice none 0 0, .slice none 0 0, .int .i64 0] 40)).heap[w.heap.size + 1 + 1]? = some (.cells #[.slice none 0 0, .int .i64 0, .int .i64 0, .slice none 0 0, .slice none 0 0, .slice none 0 0, .slice none 0 0, .int .i64 0] 40 (0, 0)) := by
  have := heap_alloc_new ((w.alloc (.cells #[v0, .int .i64 a1, .int .i64 a2, v3, v4, v5, v6, .int .i64 a7] 30)).alloc (.cells #[.slice none 0 0, .int .i64 0, .int .i64 0, .slice none 0 0, .slice none 0 0, .slice none 0 0, .slice none 0 0, .int .i64 0] 40)) (.cells #[.slice none 0 0, .int .i64 0, .int .i64 0, .slice none 0 0, .slice none 0 0, .slice none 0 0, .slice none 0 0, .int .i64 0] 40)
  simpa only [World.size_alloc] using this
 have g1 : (((w.alloc (.cells #[v0, .int .i64 a1, .int .i64 a2, v3, v4, v5, v6, .int .i64 a7] 30)).alloc (.cells #[.slice none 0 0, .int .i64 0, .int .i64 0, .slice none 0 0, .slice none 0 0, .slice none 0 0, .slice none 0 0, .int .i64 0] 40)).alloc (.cells #[.slice none 0 0, .int .i64 0, .int .i64 0, .slice none 0 0, .slice none 0 0, .slice none 0 0, .slice none 0 0, .int .i64 0] 40)).heap[w.heap.size + 1]? = some (.cells #[.slice none 0 0, .int .i64 0, .int .i64 0, .slice none 0 0, .slice none 0 0, .slice none 0 0, .slice none 0 0, .int .i64 0] 40 (0, 0)) := by
  have := heap_alloc_new (w.alloc (.cells #[v0, .int .i64 a1, .int .i64 a2, v3, v4, v5, v6, .int .i64 a7] 30)) (.cells #[.slice none 0 0, .int .i64 0, .int .i64 0, .slice none 0 0, .slice none 0 0, .slice none 0 0, .slice none 0 0, .int .i64 0] 40)
  rw [Below.heap_alloc _ _ _ (by simp)]
  simpa only [World.size_alloc] using this
 have g0 : (((w.alloc (.cells #[v0, .int .i64 a1, .int .i64 a2, v3, v4, v5, v6, .int .i64 a7] 30)).alloc (.cells #[.slice none 0 0, .int .i64 0, .int .i64 0, .slice none 0 0, .slice none 0 0, .slice none 0 0, .slice none 0 0, .int .i64 0] 40)).alloc (.cells #[.slice none 0 0, .int .i64 0, .int .i64 0, .slice none 0 0, .slice none 0 0, .slice none 0 0, .slice none 0 0, .int .i64 0] 40)).heap[w.heap.size]? = some (.cells #[v0, .int .i64 a1, .int .i64 a2, v3, v4, v5, v6, .int .i64 a7] 30 (0, 0)) := by
  rw [Below.heap_alloc _ _ _ (by simp; omega), Below.heap_alloc _ _ _ (by simp)]
  exact heap_alloc_new w _
 have hz : w.heap.size + 2 < (((w.alloc (.cells #[v0, .int .i64 a1, .int .i64 a2, v3, v4, v5, v6, .int .i64 a7] 30)).alloc (.cells #[.slice none 0 0, .int .i64 0, .int .i64 0, .slice none 0 0, .slice none 0 0, .slice none 0 0, .slice none 0 0, .int .i64 0] 40)).alloc (.cells #[.slice none 0 0, .int .i64 0, .int .i64 0, .slice none 0 0, .slice none 0 0, .slice none 0 0, .slice none 0 0, .int .i64 0] 40)).heap.size := by simp [World.size_alloc]
 generalize (((w.alloc (.cells #[v0, .int .i64 a1, .int .i64 a2, v3, v4, v5, v6, .int .i64 a7] 30)).alloc (.cells #[.slice none 0 0, .int .i64 0, .int .i64 0, .slice none 0 0, .slice none 0 0, .slice none 0 0, .slice none 0 0, .int .i64 0] 40)).alloc (.cells #[.slice none 0 0, .int .i64 0, .int .i64 0, .slice none 0 0, .slice none 0 0, .slice none 0 0, .slice none 0 0, .int .i64 0] 40)) = W at *
 refine (toStore_T a1 v0 x0 W (slR_below tVersionS_law H0.out hb) S0.out).mono ?_
 rintro e w1 ⟨cs, rfl, ow, b1⟩
 replace ow := tStore_law.mono (tStore_law.lt ow) (F' := fun b => W.heap.size ≤ b ∧ b < w1.heap.size) (fun b h => h)
 obtain ⟨u0, F0, rfl, o0, q0⟩ := tStore_O ow
 obtain ⟨ua0, uc0, rfl⟩ := slO_len o0
 replace g0 := (b1.block _ (by omega)).trans g0
 replace g1 := (b1.block _ (by omega)).trans g1
 replace g2 := (b1.block _ (by omega)).trans g2
 have zz1 := b1.size
 replace hb := hb.trans (b1.mono (by omega))
 clear b1
 have c2_0 := cr 0 (Value.slice none 0 0) g2
 have f2_0 := frozen_of_row w1 _ 0 _ _ g2
 have c2_1 := cr 1 (Value.int .i64 0) g2
 have f2_1 := frozen_of_row w1 _ 1 _ _ g2
 have c2_2 := cr 2 (Value.int .i64 0) g2
 have f2_2 := frozen_of_row w1 _ 2 _ _ g2
 have ne1 : ¬ w.heap.size = w.heap.size + 1 + 1 := by omega
 have ne2 : ¬ w.heap.size + 1 = w.heap.size + 1 + 1 := by omega
 have ne3 : ¬ w.heap.size + 1 + 1 = w.heap.size + 1 := by omega
 have c0_2 := cr 2 (Value.int .i64 a2) g0
 have c0_3 := cr 3 (v3) g0
 have l0_2 : ((w1.setCell ⟨w.heap.size + 1 + 1, 0, none⟩ (.slice ua0 x0.length uc0)).setCell ⟨w.heap.size + 1 + 1, 1, none⟩ (.int .i64 a1)).cell? ⟨w.heap.size, 2, none⟩ = some (Value.int .i64 a2) := by
  have m : ((w1.setCell ⟨w.heap.size + 1 + 1, 0, none⟩ (.slice ua0 x0.length uc0)).setCell ⟨w.heap.size + 1 + 1, 1, none⟩ (.int .i64 a1)).heap[w.heap.size]? = some (.cells #[v0, .int .i64 a1, .int .i64 a2, v3, v4, v5, v6, .int .i64 a7] 30 (0, 0)) := by
   repeat rw [heap_setCell_other _ _ _ _ (by simp <;> omega)]
   exact g0
  exact (cell_of_row _ _ 2 _ _ _ m).trans rfl
 have l0_3 : (((w1.setCell ⟨w.heap.size + 1 + 1, 0, none⟩ (.slice ua0 x0.length uc0)).setCell ⟨w.heap.size + 1 + 1, 1, none⟩ (.int .i64 a1)).setCell ⟨w.heap.size + 1 + 1, 2, none⟩ (.int .i64 a2)).cell? ⟨w.heap.size, 3, none⟩ = some (v3) := by
  have m : (((w1.setCell ⟨w.heap.size + 1 + 1, 0, none⟩ (.slice ua0 x0.length uc0)).setCell ⟨w.heap.size + 1 + 1, 1, none⟩ (.int .i64 a1)).setCell ⟨w.heap.size + 1 + 1, 2, none⟩ (.int .i64 a2)).heap[w.heap.size]? = some (.cells #[v0, .int .i64 a1, .int .i64 a2, v3, v4, v5, v6, .int .i64 a7] 30 (0, 0)) := by
   repeat rw [heap_setCell_other _ _ _ _ (by simp <;> omega)]
   exact g0
  exact (cell_of_row _ _ 3 _ _ _ m).trans rfl
 go_wp2_with fail
 clear c2_0 f2_0 c2_1 f2_1 c2_2 f2_2 ne1 ne2 ne3 c0_2 c0_3 l0_2 l0_3
 have hw := ts3 w1 (w.heap.size + 1 + 1) (.slice ua0 x0.length uc0) (.int .i64 a1) (.int .i64 a2)
 replace g0 := (hw.block _ (by omega) (by omega)).trans g0
 replace g1 := (hw.block _ (by omega) (by omega)).trans g1
 have g2n := (heap_setCell_same _ (w.heap.size + 1 + 1) 2 _ _ (.int .i64 a2) (heap_setCell_same _ (w.heap.size + 1 + 1) 1 _ _ (.int .i64 a1) (heap_setCell_same _ (w.heap.size + 1 + 1) 0 _ _ (.slice ua0 x0.length uc0) g2)))
 replace g2 : (((w1.setCell ⟨w.heap.size + 1 + 1, 0, none⟩ (.slice ua0 x0.length uc0)).setCell ⟨w.heap.size + 1 + 1, 1, none⟩ (.int .i64 a1)).setCell ⟨w.heap.size + 1 + 1, 2, none⟩ (.int .i64 a2)).heap[w.heap.size + 1 + 1]? = some (.cells #[.slice ua0 x0.length uc0, .int .i64 a1, .int .i64 a2, .slice none 0 0, .slice none 0 0, .slice none 0 0, .slice none 0 0, .int .i64 0] 40 (0, 0)) := by simpa using g2n
 clear g2n
 replace o0 := slO_turn tVersionS_law o0 hw (fun b h1 h2 => by first | (have := h1.1; omega) | (have := q0 b h1; omega))
 replace hb := below_turn hb hw (fun b h => by omega) (by omega)
 have hz0 := hw.size
 clear hw
 generalize (((w1.setCell ⟨w.heap.size + 1 + 1, 0, none⟩ (.slice ua0 x0.length uc0)).setCell ⟨w.heap.size + 1 + 1, 1, none⟩ (.int .i64 a1)).setCell ⟨w.heap.size + 1 + 1, 2, none⟩ (.int .i64 a2)) = W1 at *
 refine (toIntS_S v3 x3 W1 (slR_below tInt_law H3.out hb) S3.out).mono ?_
 rintro e w2 ⟨u3, rfl, o3, b1⟩
 obtain ⟨ua3, uc3, rfl⟩ := slO_len o3
 replace o3 := slO_mono (slO_lt tInt_law o3) (F' := fun b => W1.heap.size ≤ b ∧ b < w2.heap.size) (fun b h => h)
 replace g0 := (b1.block _ (by omega)).trans g0
 replace g1 := (b1.block _ (by omega)).trans g1
 replace g2 := (b1.block _ (by omega)).trans g2
 replace o0 := slO_fresh tVersionS_law o0 b1
 have zz2 := b1.size
 replace hb := hb.trans (b1.mono (by omega))
 clear b1
 have c2_0 := cr 0 (Value.slice ua0 x0.length uc0) g2
 have f2_0 := frozen_of_row w2 _ 0 _ _ g2
 have c2_1 := cr 1 (Value.int .i64 a1) g2
 have f2_1 := frozen_of_row w2 _ 1 _ _ g2
 have c2_2 := cr 2 (Value.int .i64 a2) g2
 have f2_2 := frozen_of_row w2 _ 2 _ _ g2
 have c2_3 := cr 3 (Value.slice none 0 0) g2
 have f2_3 := frozen_of_row w2 _ 3 _ _ g2
 have ne1 : ¬ w.heap.size = w.heap.size + 1 + 1 := by omega
 have ne2 : ¬ w.heap.size + 1 = w.heap.size + 1 + 1 := by omega
 have ne3 : ¬ w.heap.size + 1 + 1 = w.heap.size + 1 := by omega
 have c0_4 := cr 4 (v4) g0
 have l0_4 : (w2.setCell ⟨w.heap.size + 1 + 1, 3, none⟩ (.slice ua3 x3.length uc3)).cell? ⟨w.heap.size, 4, none⟩ = some (v4) := by
  have m : (w2.setCell ⟨w.heap.size + 1 + 1, 3, none⟩ (.slice ua3 x3.length uc3)).heap[w.heap.size]? = some (.cells #[v0, .int .i64 a1, .int .i64 a2, v3, v4, v5, v6, .int .i64 a7] 30 (0, 0)) := by
   repeat rw [heap_setCell_other _ _ _ _ (by simp <;> omega)]
   exact g0
  exact (cell_of_row _ _ 4 _ _ _ m).trans rfl
 go_wp2_with fail
 clear c2_0 f2_0 c2_1 f2_1 c2_2 f2_2 c2_3 f2_3 ne1 ne2 ne3 c0_4 l0_4
 have hw : Turn (fun b => b = w.heap.size + 1 + 1) w2 (w2.setCell ⟨w.heap.size + 1 + 1, 3, none⟩ (.slice ua3 x3.length uc3)) := by
  first | exact ((Turn.refl (fun b => b = w.heap.size + 1 + 1) _).trans (turn_set (G := fun b => b = w.heap.size + 1 + 1) (g := w.heap.size + 1 + 1) (j := 3) (u := .slice ua3 x3.length uc3) rfl)) | skip
 replace g0 := (hw.block _ (by omega) (by omega)).trans g0
 replace g1 := (hw.block _ (by omega) (by omega)).trans g1
 have g2n := (heap_setCell_same _ (w.heap.size + 1 + 1) 3 _ _ (.slice ua3 x3.length uc3) g2)
 replace g2 : (w2.setCell ⟨w.heap.size + 1 + 1, 3, none⟩ (.slice ua3 x3.length uc3)).heap[w.heap.size + 1 + 1]? = some (.cells #[.slice ua0 x0.length uc0, .int .i64 a1, .int .i64 a2, .slice ua3 x3.length uc3, .slice none 0 0, .slice none 0 0, .slice none 0 0, .int .i64 0] 40 (0, 0)) := by simpa using g2n
 clear g2n
 replace o0 := slO_turn tVersionS_law o0 hw (fun b h1 h2 => by first | (have := h1.1; omega) | (have := q0 b h1; omega))
 replace o3 := slO_turn tInt_law o3 hw (fun b h1 h2 => by first | (have := h1.1; omega) | (have := q3 b h1; omega))
 replace hb := below_turn hb hw (fun b h => by omega) (by omega)
 have hz1 := hw.size
 clear hw
 generalize (w2.setCell ⟨w.heap.size + 1 + 1, 3, none⟩ (.slice ua3 x3.length uc3)) = W2 at *
 refine (toActiveS_S v4 x4 W2 (slR_below tActive_law H4.out hb) S4.out).mono ?_
 rintro e w3 ⟨u4, rfl, o4, b1⟩
 obtain ⟨ua4, uc4, rfl⟩ := slO_len o4
 replace o4 := slO_mono (slO_lt tActive_law o4) (F' := fun b => W2.heap.size ≤ b ∧ b < w3.heap.size) (fun b h => h)
 replace g0 := (b1.block _ (by omega)).trans g0
 replace g1 := (b1.block _ (by omega)).trans g1
 replace g2 := (b1.block _ (by omega)).trans g2
 replace o0 := slO_fresh tVersionS_law o0 b1
 replace o3 := slO_fresh tInt_law o3 b1
 have zz3 := b1.size
 replace hb := hb.trans (b1.mono (by omega))
 clear b1
 have c2_0 := cr 0 (Value.slice ua0 x0.length uc0) g2
 have f2_0 := frozen_of_row w3 _ 0 _ _ g2
 have c2_1 := cr 1 (Value.int .i64 a1) g2
 have f2_1 := frozen_of_row w3 _ 1 _ _ g2
 have c2_2 := cr 2 (Value.int .i64 a2) g2
 have f2_2 := frozen_of_row w3 _ 2 _ _ g2
 have c2_3 := cr 3 (Value.slice ua3 x3.length uc3) g2
 have f2_3 := frozen_of_row w3 _ 3 _ _ g2
 have c2_4 := cr 4 (Value.slice none 0 0) g2
 have f2_4 := frozen_of_row w3 _ 4 _ _ g2
 have ne1 : ¬ w.heap.size = w.heap.size + 1 + 1 := by omega
 have ne2 : ¬ w.heap.size + 1 = w.heap.size + 1 + 1 := by omega
 have ne3 : ¬ w.heap.size + 1 + 1 = w.heap.size + 1 := by omega
 have c0_5 := cr 5 (v5) g0
 have l0_5 : (w3.setCell ⟨w.heap.size + 1 + 1, 4, none⟩ (.slice ua4 x4.length uc4)).cell? ⟨w.heap.size, 5, none⟩ = some (v5) := by
  have m : (w3.setCell ⟨w.heap.size + 1 + 1, 4, none⟩ (.slice ua4 x4.length uc4)).heap[w.heap.size]? = some (.cells #[v0, .int .i64 a1, .int .i64 a2, v3, v4, v5, v6, .int .i64 a7] 30 (0, 0)) := by
   repeat rw [heap_setCell_other _ _ _ _ (by simp <;> omega)]
   exact g0
  exact (cell_of_row _ _ 5 _ _ _ m).trans rfl
 go_wp2_with fail
 clear c2_0 f2_0 c2_1 f2_1 c2_2 f2_2 c2_3 f2_3 c2_4 f2_4 ne1 ne2 ne3 c0_5 l0_5
 have hw : Turn (fun b => b = w.heap.size + 1 + 1) w3 (w3.setCell ⟨w.heap.size + 1 + 1, 4, none⟩ (.slice ua4 x4.length uc4)) := by
  first | exact ((Turn.refl (fun b => b = w.heap.size + 1 + 1) _).trans (turn_set (G := fun b => b = w.heap.size + 1 + 1) (g := w.heap.size + 1 + 1) (j := 4) (u := .slice ua4 x4.length uc4) rfl)) | skip
 replace g0 := (hw.block _ (by omega) (by omega)).trans g0
 replace g1 := (hw.block _ (by omega) (by omega)).trans g1
 have g2n := (heap_setCell_same _ (w.heap.size + 1 + 1) 4 _ _ (.slice ua4 x4.length uc4) g2)
 replace g2 : (w3.setCell ⟨w.heap.size + 1 + 1, 4, none⟩ (.slice ua4 x4.length uc4)).heap[w.heap.size + 1 + 1]? = some (.cells #[.slice ua0 x0.length uc0, .int .i64 a1, .int .i64 a2, .slice ua3 x3.length uc3, .slice ua4 x4.length uc4, .slice none 0 0, .slice none 0 0, .int .i64 0] 40 (0, 0)) := by simpa using g2n
 clear g2n
 replace o0 := slO_turn tVersionS_law o0 hw (fun b h1 h2 => by first | (have := h1.1; omega) | (have := q0 b h1; omega))
 replace o3 := slO_turn tInt_law o3 hw (fun b h1 h2 => by first | (have := h1.1; omega) | (have := q3 b h1; omega))
 replace o4 := slO_turn tActive_law o4 hw (fun b h1 h2 => by first | (have := h1.1; omega) | (have := q4 b h1; omega))
 replace hb := below_turn hb hw (fun b h => by omega) (by omega)
 have hz2 := hw.size
 clear hw
 generalize (w3.setCell ⟨w.heap.size + 1 + 1, 4, none⟩ (.slice ua4 x4.length uc4)) = W3 at *
 refine (toFinishedS_S v5 x5 W3 (slR_below tFinished_law H5.out hb) S5.out).mono ?_
 rintro e w4 ⟨u5, rfl, o5, b1⟩
 obtain ⟨ua5, uc5, rfl⟩ := slO_len o5
 replace o5 := slO_mono (slO_lt tFinished_law o5) (F' := fun b => W3.heap.size ≤ b ∧ b < w4.heap.size) (fun b h => h)
 replace g0 := (b1.block _ (by omega)).trans g0
 replace g1 := (b1.block _ (by omega)).trans g1
 replace g2 := (b1.block _ (by omega)).trans g2
 replace o0 := slO_fresh tVersionS_law o0 b1
 replace o3 := slO_fresh tInt_law o3 b1
 replace o4 := slO_fresh tActive_law o4 b1
 have zz4 := b1.size
 replace hb := hb.trans (b1.mono (by omega))
 clear b1
 have c2_0 := cr 0 (Value.slice ua0 x0.length uc0) g2
 have f2_0 := frozen_of_row w4 _ 0 _ _ g2
 have c2_1 := cr 1 (Value.int .i64 a1) g2
 have f2_1 := frozen_of_row w4 _ 1 _ _ g2
 have c2_2 := cr 2 (Value.int .i64 a2) g2
 have f2_2 := frozen_of_row w4 _ 2 _ _ g2
 have c2_3 := cr 3 (Value.slice ua3 x3.length uc3) g2
 have f2_3 := frozen_of_row w4 _ 3 _ _ g2
 have c2_4 := cr 4 (Value.slice ua4 x4.length uc4) g2
 have f2_4 := frozen_of_row w4 _ 4 _ _ g2
 have c2_5 := cr 5 (Value.slice none 0 0) g2
 have f2_5 := frozen_of_row w4 _ 5 _ _ g2
 have ne1 : ¬ w.heap.size = w.heap.size + 1 + 1 := by omega
 have ne2 : ¬ w.heap.size + 1 = w.heap.size + 1 + 1 := by omega
 have ne3 : ¬ w.heap.size + 1 + 1 = w.heap.size + 1 := by omega
 have c0_6 := cr 6 (v6) g0
 have l0_6 : (w4.setCell ⟨w.heap.size + 1 + 1, 5, none⟩ (.slice ua5 x5.length uc5)).cell? ⟨w.heap.size, 6, none⟩ = some (v6) := by
  have m : (w4.setCell ⟨w.heap.size + 1 + 1, 5, none⟩ (.slice ua5 x5.length uc5)).heap[w.heap.size]? = some (.cells #[v0, .int .i64 a1, .int .i64 a2, v3, v4, v5, v6, .int .i64 a7] 30 (0, 0)) := by
   repeat rw [heap_setCell_other _ _ _ _ (by simp <;> omega)]
   exact g0
  exact (cell_of_row _ _ 6 _ _ _ m).trans rfl
 go_wp2_with fail
 clear c2_0 f2_0 c2_1 f2_1 c2_2 f2_2 c2_3 f2_3 c2_4 f2_4 c2_5 f2_5 ne1 ne2 ne3 c0_6 l0_6
 have hw : Turn (fun b => b = w.heap.size + 1 + 1) w4 (w4.setCell ⟨w.heap.size + 1 + 1, 5, none⟩ (.slice ua5 x5.length uc5)) := by
  first | exact ((Turn.refl (fun b => b = w.heap.size + 1 + 1) _).trans (turn_set (G := fun b => b = w.heap.size + 1 + 1) (g := w.heap.size + 1 + 1) (j := 5) (u := .slice ua5 x5.length uc5) rfl)) | skip
 replace g0 := (hw.block _ (by omega) (by omega)).trans g0
 replace g1 := (hw.block _ (by omega) (by omega)).trans g1
 have g2n := (heap_setCell_same _ (w.heap.size + 1 + 1) 5 _ _ (.slice ua5 x5.length uc5) g2)
 replace g2 : (w4.setCell ⟨w.heap.size + 1 + 1, 5, none⟩ (.slice ua5 x5.length uc5)).heap[w.heap.size + 1 + 1]? = some (.cells #[.slice ua0 x0.length uc0, .int .i64 a1, .int .i64 a2, .slice ua3 x3.length uc3, .slice ua4 x4.length uc4, .slice ua5 x5.length uc5, .slice none 0 0, .int .i64 0] 40 (0, 0)) := by simpa using g2n
 clear g2n
 replace o0 := slO_turn tVersionS_law o0 hw (fun b h1 h2 => by first | (have := h1.1; omega) | (have := q0 b h1; omega))
 replace o3 := slO_turn tInt_law o3 hw (fun b h1 h2 => by first | (have := h1.1; omega) | (have := q3 b h1; omega))
 replace o4 := slO_turn tActive_law o4 hw (fun b h1 h2 => by first | (have := h1.1; omega) | (have := q4 b h1; omega))
 replace o5 := slO_turn tFinished_law o5 hw (fun b h1 h2 => by first | (have := h1.1; omega) | (have := q5 b h1; omega))
 replace hb := below_turn hb hw (fun b h => by omega) (by omega)
 have hz3 := hw.size
 clear hw
 generalize (w4.setCell ⟨w.heap.size + 1 + 1, 5, none⟩ (.slice ua5 x5.length uc5)) = W4 at *
 refine (toChargeS_S v6 x6 W4 (slR_below tCharge_law H6.out hb) S6.out).mono ?_
 rintro e w5 ⟨u6, rfl, o6, b1⟩
 obtain ⟨ua6, uc6, rfl⟩ := slO_len o6
 replace o6 := slO_mono (slO_lt tCharge_law o6) (F' := fun b => W4.heap.size ≤ b ∧ b < w5.heap.size) (fun b h => h)
 replace g0 := (b1.block _ (by omega)).trans g0
 replace g1 := (b1.block _ (by omega)).trans g1
 replace g2 := (b1.block _ (by omega)).trans g2
 replace o0 := slO_fresh tVersionS_law o0 b1
 replace o3 := slO_fresh tInt_law o3 b1
 replace o4 := slO_fresh tActive_law o4 b1
 replace o5 := slO_fresh tFinished_law o5 b1
 have zz5 := b1.size
 replace hb := hb.trans (b1.mono (by omega))
 clear b1
 have c2_0 := cr 0 (Value.slice ua0 x0.length uc0) g2
 have f2_0 := frozen_of_row w5 _ 0 _ _ g2
 have c2_1 := cr 1 (Value.int .i64 a1) g2
 have f2_1 := frozen_of_row w5 _ 1 _ _ g2
 have c2_2 := cr 2 (Value.int .i64 a2) g2
 have f2_2 := frozen_of_row w5 _ 2 _ _ g2
 have c2_3 := cr 3 (Value.slice ua3 x3.length uc3) g2
 have f2_3 := frozen_of_row w5 _ 3 _ _ g2
 have c2_4 := cr 4 (Value.slice ua4 x4.length uc4) g2
 have f2_4 := frozen_of_row w5 _ 4 _ _ g2
 have c2_5 := cr 5 (Value.slice ua5 x5.length uc5) g2
 have f2_5 := frozen_of_row w5 _ 5 _ _ g2
 have c2_6 := cr 6 (Value.slice none 0 0) g2
 have f2_6 := frozen_of_row w5 _ 6 _ _ g2
 have c2_7 := cr 7 (Value.int .i64 0) g2
 have f2_7 := frozen_of_row w5 _ 7 _ _ g2
 have ne1 : ¬ w.heap.size = w.heap.size + 1 + 1 := by omega
 have ne2 : ¬ w.heap.size + 1 = w.heap.size + 1 + 1 := by omega
 have ne3 : ¬ w.heap.size + 1 + 1 = w.heap.size + 1 := by omega
 have c0_7 := cr 7 (Value.int .i64 a7) g0
 have c1_0 := cr 0 (Value.slice none 0 0) g1
 have f1_0 := frozen_of_row w5 _ 0 _ _ g1
 have c1_1 := cr 1 (Value.int .i64 0) g1
 have f1_1 := frozen_of_row w5 _ 1 _ _ g1
 have c1_2 := cr 2 (Value.int .i64 0) g1
 have f1_2 := frozen_of_row w5 _ 2 _ _ g1
 have c1_3 := cr 3 (Value.slice none 0 0) g1
 have f1_3 := frozen_of_row w5 _ 3 _ _ g1
 have c1_4 := cr 4 (Value.slice none 0 0) g1
 have f1_4 := frozen_of_row w5 _ 4 _ _ g1
 have c1_5 := cr 5 (Value.slice none 0 0) g1
 have f1_5 := frozen_of_row w5 _ 5 _ _ g1
 have c1_6 := cr 6 (Value.slice none 0 0) g1
 have f1_6 := frozen_of_row w5 _ 6 _ _ g1
 have c1_7 := cr 7 (Value.int .i64 0) g1
 have f1_7 := frozen_of_row w5 _ 7 _ _ g1
 have l0_7 : (w5.setCell ⟨w.heap.size + 1 + 1, 6, none⟩ (.slice ua6 x6.length uc6)).cell? ⟨w.heap.size, 7, none⟩ = some (Value.int .i64 a7) := by
  have m : (w5.setCell ⟨w.heap.size + 1 + 1, 6, none⟩ (.slice ua6 x6.length uc6)).heap[w.heap.size]? = some (.cells #[v0, .int .i64 a1, .int .i64 a2, v3, v4, v5, v6, .int .i64 a7] 30 (0, 0)) := by
   repeat rw [heap_setCell_other _ _ _ _ (by simp <;> omega)]
   exact g0
  exact (cell_of_row _ _ 7 _ _ _ m).trans rfl
 go_wp2
 clear c2_0 f2_0 c2_1 f2_1 c2_2 f2_2 c2_3 f2_3 c2_4 f2_4 c2_5 f2_5 c2_6 f2_6 c2_7 f2_7 ne1 ne2 ne3 c0_7 c1_0 f1_0 c1_1 f1_1 c1_2 f1_2 c1_3 f1_3 c1_4 f1_4 c1_5 f1_5 c1_6 f1_6 c1_7 f1_7 l0_7
 have hw : Turn (fun b => b = w.heap.size + 1 ∨ b = w.heap.size + 1 + 1) w5 ((((((((((w5.setCell ⟨w.heap.size + 1 + 1, 6, none⟩ (.slice ua6 x6.length uc6)).setCell ⟨w.heap.size + 1 + 1, 7, none⟩ (.int .i64 a7)).setCell ⟨w.heap.size + 1, 0, none⟩ (.slice ua0 x0.length uc0)).setCell ⟨w.heap.size + 1, 1, none⟩ (.int .i64 a1)).setCell ⟨w.heap.size + 1, 2, none⟩ (.int .i64 a2)).setCell ⟨w.heap.size + 1, 3, none⟩ (.slice ua3 x3.length uc3)).setCell ⟨w.heap.size + 1, 4, none⟩ (.slice ua4 x4.length uc4)).setCell ⟨w.heap.size + 1, 5, none⟩ (.slice ua5 x5.length uc5)).setCell ⟨w.heap.size + 1, 6, none⟩ (.slice ua6 x6.length uc6)).setCell ⟨w.heap.size + 1, 7, none⟩ (.int .i64 a7)) := by
  first | exact (((((((((((Turn.refl _ _).trans (turn_set (g := w.heap.size + 1 + 1) (j := 6) (u := .slice ua6 x6.length uc6) (Or.inr rfl))).trans (turn_set (g := w.heap.size + 1 + 1) (j := 7) (u := .int .i64 a7) (Or.inr rfl))).trans (turn_set (g := w.heap.size + 1) (j := 0) (u := .slice ua0 x0.length uc0) (Or.inl rfl))).trans (turn_set (g := w.heap.size + 1) (j := 1) (u := .int .i64 a1) (Or.inl rfl))).trans (turn_set (g := w.heap.size + 1) (j := 2) (u := .int .i64 a2) (Or.inl rfl))).trans (turn_set (g := w.heap.size + 1) (j := 3) (u := .slice ua3 x3.length uc3) (Or.inl rfl))).trans (turn_set (g := w.heap.size + 1) (j := 4) (u := .slice ua4 x4.length uc4) (Or.inl rfl))).trans (turn_set (g := w.heap.size + 1) (j := 5) (u := .slice ua5 x5.length uc5) (Or.inl rfl))).trans (turn_set (g := w.heap.size + 1) (j := 6) (u := .slice ua6 x6.length uc6) (Or.inl rfl))).trans (turn_set (g := w.heap.size + 1) (j := 7) (u := .int .i64 a7) (Or.inl rfl))) | skip
 have r := (heap_setCell_same _ (w.heap.size + 1) 7 _ _ (.int .i64 a7) (heap_setCell_same _ (w.heap.size + 1) 6 _ _ (.slice ua6 x6.length uc6) (heap_setCell_same _ (w.heap.size + 1) 5 _ _ (.slice ua5 x5.length uc5) (heap_setCell_same _ (w.heap.size + 1) 4 _ _ (.slice ua4 x4.length uc4) (heap_setCell_same _ (w.heap.size + 1) 3 _ _ (.slice ua3 x3.length uc3) (heap_setCell_same _ (w.heap.size + 1) 2 _ _ (.int .i64 a2) (heap_setCell_same _ (w.heap.size + 1) 1 _ _ (.int .i64 a1) (heap_setCell_same _ (w.heap.size + 1) 0 _ _ (.slice ua0 x0.length uc0) ((heap_setCell_other _ ⟨w.heap.size + 1 + 1, 7, none⟩ (w.heap.size + 1) (.int .i64 a7) (by simp)).trans ((heap_setCell_other _ ⟨w.heap.size + 1 + 1, 6, none⟩ (w.heap.size + 1) (.slice ua6 x6.length uc6) (by simp)).trans g1))))))))))
 have e0 := cell_of_row _ _ 0 _ _ _ r
 have e1 := cell_of_row _ _ 1 _ _ _ r
 have e2 := cell_of_row _ _ 2 _ _ _ r
 have e3 := cell_of_row _ _ 3 _ _ _ r
 have e4 := cell_of_row _ _ 4 _ _ _ r
 have e5 := cell_of_row _ _ 5 _ _ _ r
 have e6 := cell_of_row _ _ 6 _ _ _ r
 have e7 := cell_of_row _ _ 7 _ _ _ r
 simp at e0 e1 e2 e3 e4 e5 e6 e7
 replace o0 := slO_turn tVersionS_law o0 hw (fun b h1 h2 => by first | (have := h1.1; omega) | (have := q0 b h1; omega))
 replace o3 := slO_turn tInt_law o3 hw (fun b h1 h2 => by first | (have := h1.1; omega) | (have := q3 b h1; omega))
 replace o4 := slO_turn tActive_law o4 hw (fun b h1 h2 => by first | (have := h1.1; omega) | (have := q4 b h1; omega))
 replace o5 := slO_turn tFinished_law o5 hw (fun b h1 h2 => by first | (have := h1.1; omega) | (have := q5 b h1; omega))
 replace o6 := slO_turn tCharge_law o6 hw (fun b h1 h2 => by first | (have := h1.1; omega) | (have := q6 b h1; omega))
 replace hb := below_turn hb hw (fun b h => by omega) (by omega)
 refine bodyPost_ret (v := .agg #[.slice ua0 x0.length uc0, .int .i64 a1, .int .i64 a2, .slice ua3 x3.length uc3, .slice ua4 x4.length uc4, .slice ua5 x5.length uc5, .slice ua6 x6.length uc6, .int .i64 a7]) ?_ rfl ?_
 ·
  simp [results, Tryz.f14, go_sem, e0, e1, e2, e3, e4, e5, e6, e7]
 ·
  exact ⟨[.slice ua0 x0.length uc0, .int .i64 a1, .int .i64 a2, .slice ua3 x3.length uc3, .slice ua4 x4.length uc4, .slice ua5 x5.length uc5, .slice ua6 x6.length uc6, .int .i64 a7], rfl, tEngine_mkO o0 o3 o4 o5 o6 (fun b h => by show w.heap.size ≤ b; first | (have := h.1; omega) | (have := q0 b h; omega)) (fun b h => by show w.heap.size ≤ b; first | (have := h.1; omega) | (have := q3 b h; omega)) (fun b h => by show w.heap.size ≤ b; first | (have := h.1; omega) | (have := q4 b h; omega)) (fun b h => by show w.heap.size ≤ b; first | (have := h.1; omega) | (have := q5 b h; omega)) (fun b h => by show w.heap.size ≤ b; first | (have := h.1; omega) | (have := q6 b h; omega)) (fun b h1 h2 => by first | exact d0_3 b h1 h2 | (have := h1.1; have := h1.2; have := h2.1; have := h2.2; omega) | (have := q0 b h1; have := h2.1; have := h2.2; omega) | (have := h1.1; have := h1.2; have := q3 b h2; omega) | (have := q0 b h1; have := q3 b h2; omega)) (fun b h1 h2 => by first | exact d0_4 b h1 h2 | (have := h1.1; have := h1.2; have := h2.1; have := h2.2; omega) | (have := q0 b h1; have := h2.1; have := h2.2; omega) | (have := h1.1; have := h1.2; have := q4 b h2; omega) | (have := q0 b h1; have := q4 b h2; omega)) (fun b h1 h2 => by first | exact d0_5 b h1 h2 | (have := h1.1; have := h1.2; have := h2.1; have := h2.2; omega) | (have := q0 b h1; have := h2.1; have := h2.2; omega) | (have := h1.1; have := h1.2; have := q5 b h2; omega) | (have := q0 b h1; have := q5 b h2; omega)) (fun b h1 h2 => by first | exact d0_6 b h1 h2 | (have := h1.1; have := h1.2; have := h2.1; have := h2.2; omega) | (have := q0 b h1; have := h2.1; have := h2.2; omega) | (have := h1.1; have := h1.2; have := q6 b h2; omega) | (have := q0 b h1; have := q6 b h2; omega)) (fun b h1 h2 => by first | exact d3_4 b h1 h2 | (have := h1.1; have := h1.2; have := h2.1; have := h2.2; omega) | (have := q3 b h1; have := h2.1; have := h2.2; omega) | (have := h1.1; have := h1.2; have := q4 b h2; omega) | (have := q3 b h1; have := q4 b h2; omega)) (fun b h1 h2 => by first | exact d3_5 b h1 h2 | (have := h1.1; have := h1.2; have := h2.1; have := h2.2; omega) | (have := q3 b h1; have := h2.1; have := h2.2; omega) | (have := h1.1; have := h1.2; have := q5 b h2; omega) | (have := q3 b h1; have := q5 b h2; omega)) (fun b h1 h2 => by first | exact d3_6 b h1 h2 | (have := h1.1; have := h1.2; have := h2.1; have := h2.2; omega) | (have := q3 b h1; have := h2.1; have := h2.2; omega) | (have := h1.1; have := h1.2; have := q6 b h2; omega) | (have := q3 b h1; have := q6 b h2; omega)) (fun b h1 h2 => by first | exact d4_5 b h1 h2 | (have := h1.1; have := h1.2; have := h2.1; have := h2.2; omega) | (have := q4 b h1; have := h2.1; have := h2.2; omega) | (have := h1.1; have := h1.2; have := q5 b h2; omega) | (have := q4 b h1; have := q5 b h2; omega)) (fun b h1 h2 => by first | exact d4_6 b h1 h2 | (have := h1.1; have := h1.2; have := h2.1; have := h2.2; omega) | (have := q4 b h1; have := h2.1; have := h2.2; omega) | (have := h1.1; have := h1.2; have := q6 b h2; omega) | (have := q4 b h1; have := q6 b h2; omega)) (fun b h1 h2 => by first | exact d5_6 b h1 h2 | (have := h1.1; have := h1.2; have := h2.1; have := h2.2; omega) | (have := q5 b h1; have := h2.1; have := h2.2; omega) | (have := h1.1; have := h1.2; have := q6 b h2; omega) | (have := q5 b h1; have := q6 b h2; omega)), hb⟩
set_option maxHeartbeats 8000000 in
theorem eqEngine_T (a1 a2 a7 : Int) (v0 v3 v4 v5 v6 : Value) (x0 : List (List (Int × List Int × Int × Int))) (x3 : List Int) (x4 : List ((Int × Int × List (Int × Int × Int) × List Int) × Int × List Int × Int × Int × Int × List (Int × List Int))) (x5 : List ((Int × Int × List (Int × Int × Int) × List Int) × Int × Int × List (Int × List Int))) (x6 : List (Int × Int × List Int × List Int × List Int)) (u0 u3 u4 u5 u6 : Value) (w : World) (h0 : SlR tVersionS w v0 x0) (h3 : SlR tInt w v3 x3) (h4 : SlR tActive w v4 x4) (h5 : SlR tFinished w v5 x5) (h6 : SlR tCharge w v6 x6) (g0 : SlR tVersionS w u0 x0) (g3 : SlR tInt w u3 x3) (g4 : SlR tActive w u4 x4) (g5 : SlR tFinished w u5 x5) (g6 : SlR tCharge w u6 x6) (s0 : zL tVersionS x0 ≤ 1048576) (s3 : zL tInt x3 ≤ 1048576) (s4 : zL tActive x4 ≤ 1048576) (s5 : zL tFinished x5 ≤ 1048576) (s6 : zL tCharge x6 ≤ 1048576) :
  Calls Tryz.prog 16 #[.agg #[v0, .int .i64 a1, .int .i64 a2, v3, v4, v5, v6, .int .i64 a7], .agg #[u0, .int .i64 a1, .int .i64 a2, u3, u4, u5, u6, .int .i64 a7]] w fun e w' => e = .returned (.bool true) ∧ Below w.heap.size w w' := by
 have H0 := hd h0; have G0 := hd g0; have S0 := hd s0
 have H3 := hd h3; have G3 := hd g3; have S3 := hd s3
 have H4 := hd h4; have G4 := hd g4; have S4 := hd s4
 have H5 := hd h5; have G5 := hd g5; have S5 := hd s5
 have H6 := hd h6; have G6 := hd g6; have S6 := hd s6
 clear h0 g0 s0 h3 g3 s3 h4 g4 s4 h5 g5 s5 h6 g6 s6
 have e1 : (a1 != a1) = false := by simp
 have e2 : (a2 != a2) = false := by simp
 have e7 : (a7 != a7) = false := by simp
 go_enter Tryz.func16, Tryz.ntmps16
 go_wp2_with fail
 have hb : Below w.heap.size w ((w.alloc (.cells #[v0, .int .i64 a1, .int .i64 a2, v3, v4, v5, v6, .int .i64 a7] 40)).alloc (.cells #[u0, .int .i64 a1, .int .i64 a2, u3, u4, u5, u6, .int .i64 a7] 40)) := ((Below.refl _ w).alloc (Nat.le_refl _) _).alloc (by simp) _
 have g1 : ((w.alloc (.cells #[v0, .int .i64 a1, .int .i64 a2, v3, v4, v5, v6, .int .i64 a7] 40)).alloc (.cells #[u0, .int .i64 a1, .int .i64 a2, u3, u4, u5, u6, .int .i64 a7] 40)).heap[w.heap.size + 1]? = some (.cells #[u0, .int .i64 a1, .int .i64 a2, u3, u4, u5, u6, .int .i64 a7] 40 (0, 0)) := by
  have := heap_alloc_new (w.alloc (.cells #[v0, .int .i64 a1, .int .i64 a2, v3, v4, v5, v6, .int .i64 a7] 40)) (.cells #[u0, .int .i64 a1, .int .i64 a2, u3, u4, u5, u6, .int .i64 a7] 40)
  simpa only [World.size_alloc] using this
 have g0 : ((w.alloc (.cells #[v0, .int .i64 a1, .int .i64 a2, v3, v4, v5, v6, .int .i64 a7] 40)).alloc (.cells #[u0, .int .i64 a1, .int .i64 a2, u3, u4, u5, u6, .int .i64 a7] 40)).heap[w.heap.size]? = some (.cells #[v0, .int .i64 a1, .int .i64 a2, v3, v4, v5, v6, .int .i64 a7] 40 (0, 0)) := by
  rw [Below.heap_alloc _ _ _ (by simp)]
  exact heap_alloc_new w _
 have hz : w.heap.size + 1 < ((w.alloc (.cells #[v0, .int .i64 a1, .int .i64 a2, v3, v4, v5, v6, .int .i64 a7] 40)).alloc (.cells #[u0, .int .i64 a1, .int .i64 a2, u3, u4, u5, u6, .int .i64 a7] 40)).heap.size := by simp [World.size_alloc]
 generalize ((w.alloc (.cells #[v0, .int .i64 a1, .int .i64 a2, v3, v4, v5, v6, .int .i64 a7] 40)).alloc (.cells #[u0, .int .i64 a1, .int .i64 a2, u3, u4, u5, u6, .int .i64 a7] 40)) = W at *
 refine (eqStore_T a1 v0 x0 u0 W (slR_below tVersionS_law H0.out hb) (slR_below tVersionS_law G0.out hb) S0.out).mono ?_
 rintro e w1 ⟨rfl, b1⟩
 replace g0 := (b1.block _ (by omega)).trans g0
 replace g1 := (b1.block _ (by omega)).trans g1
 have zz0 := b1.size
 replace hb := hb.trans (b1.mono (by omega))
 clear b1
 have p0_2 := cr 2 (Value.int .i64 a2) g0
 have p1_2 := cr 2 (Value.int .i64 a2) g1
 have p0_3 := cr 3 (v3) g0
 have p1_3 := cr 3 (u3) g1
 go_wp2_with fail
 clear p0_2 p1_2 p0_3 p1_3
 refine (eqIntS_S v3 u3 x3 w1 (slR_below tInt_law H3.out hb) (slR_below tInt_law G3.out hb) S3.out).mono ?_
 rintro e w2 ⟨rfl, b1⟩
 replace g0 := (b1.block _ (by omega)).trans g0
 replace g1 := (b1.block _ (by omega)).trans g1
 have zz1 := b1.size
 replace hb := hb.trans (b1.mono (by omega))
 clear b1
 have p0_4 := cr 4 (v4) g0
 have p1_4 := cr 4 (u4) g1
 go_wp2_with fail
 clear p0_4 p1_4
 refine (eqActiveS_S v4 u4 x4 w2 (slR_below tActive_law H4.out hb) (slR_below tActive_law G4.out hb) S4.out).mono ?_
 rintro e w3 ⟨rfl, b1⟩
 replace g0 := (b1.block _ (by omega)).trans g0
 replace g1 := (b1.block _ (by omega)).trans g1
 have zz2 := b1.size
 replace hb := hb.trans (b1.mono (by omega))
 clear b1
 have p0_5 := cr 5 (v5) g0
 have p1_5 := cr 5 (u5) g1
 go_wp2_with fail
 clear p0_5 p1_5
 refine (eqFinishedS_S v5 u5 x5 w3 (slR_below tFinished_law H5.out hb) (slR_below tFinished_law G5.out hb) S5.out).mono ?_
 rintro e w4 ⟨rfl, b1⟩
 replace g0 := (b1.block _ (by omega)).trans g0
 replace g1 := (b1.block _ (by omega)).trans g1
 have zz3 := b1.size
 replace hb := hb.trans (b1.mono (by omega))
 clear b1
 have p0_6 := cr 6 (v6) g0
 have p1_6 := cr 6 (u6) g1
 go_wp2_with fail
 clear p0_6 p1_6
 refine (eqChargeS_S v6 u6 x6 w4 (slR_below tCharge_law H6.out hb) (slR_below tCharge_law G6.out hb) S6.out).mono ?_
 rintro e w5 ⟨rfl, b1⟩
 replace g0 := (b1.block _ (by omega)).trans g0
 replace g1 := (b1.block _ (by omega)).trans g1
 have zz4 := b1.size
 replace hb := hb.trans (b1.mono (by omega))
 clear b1
 have p0_7 := cr 7 (Value.int .i64 a7) g0
 have p1_7 := cr 7 (Value.int .i64 a7) g1
 go_wp2
 clear p0_7 p1_7
 go_ret
 exact ⟨rfl, hb⟩
set_option maxHeartbeats 8000000 in
theorem markEngine_T {ety3 : TypeId} (a1 a2 a7 : Int) (v0 v3 v4 v5 v6 : Value) (x0 : List (List (Int × List Int × Int × Int))) (x3 : List Int) (x4 : List ((Int × Int × List (Int × Int × Int) × List Int) × Int × List Int × Int × Int × Int × List (Int × List Int))) (x5 : List ((Int × Int × List (Int × Int × Int) × List Int) × Int × Int × List (Int × List Int))) (x6 : List (Int × Int × List Int × List Int × List Int)) (F F0 F3 F4 F5 F6 : Nat → Prop) (k : Int) (w : World) (h0 : SlO 198 tVersionS w F0 v0 x0) (h3 : SlO ety3 tInt w F3 v3 x3) (h4 : SlO 93 tActive w F4 v4 x4) (h5 : SlO 54 tFinished w F5 v5 x5) (h6 : SlO 154 tCharge w F6 v6 x6) (q0 : ∀ b, F0 b → F b) (q3 : ∀ b, F3 b → F b) (q4 : ∀ b, F4 b → F b) (q5 : ∀ b, F5 b → F b) (q6 : ∀ b, F6 b → F b) (d0_3 : ∀ b, F0 b → ¬ F3 b) (d0_4 : ∀ b, F0 b → ¬ F4 b) (d0_5 : ∀ b, F0 b → ¬ F5 b) (d0_6 : ∀ b, F0 b → ¬ F6 b) (d3_4 : ∀ b, F3 b → ¬ F4 b) (d3_5 : ∀ b, F3 b → ¬ F5 b) (d3_6 : ∀ b, F3 b → ¬ F6 b) (d4_5 : ∀ b, F4 b → ¬ F5 b) (d4_6 : ∀ b, F4 b → ¬ F6 b) (d5_6 : ∀ b, F5 b → ¬ F6 b) (s0 : zL tVersionS x0 ≤ 1048576) (s3 : zL tInt x3 ≤ 1048576) (s4 : zL tActive x4 ≤ 1048576) (s5 : zL tFinished x5 ≤ 1048576) (s6 : zL tCharge x6 ≤ 1048576) (k0 : 0 ≤ k) (k1 : k ≤ 268435456) :
  Calls Tryz.prog 20 #[.agg #[v0, .int .i64 a1, .int .i64 a2, v3, v4, v5, v6, .int .i64 a7], .int .i64 k] w fun e w' => e = .returned (.int .i64 (k + (ndL tVersionS x0 : Int) + (ndL tInt x3 : Int) + (ndL tActive x4 : Int) + (ndL tFinished x5 : Int) + (ndL tCharge x6 : Int))) ∧ (SlO 198 tVersionS w' F0 v0 (mAll tVersionS x0 (k)) ∧ SlO ety3 tInt w' F3 v3 (mAll tInt x3 (k + (ndL tVersionS x0 : Int))) ∧ SlO 93 tActive w' F4 v4 (mAll tActive x4 (k + (ndL tVersionS x0 : Int) + (ndL tInt x3 : Int))) ∧ SlO 54 tFinished w' F5 v5 (mAll tFinished x5 (k + (ndL tVersionS x0 : Int) + (ndL tInt x3 : Int) + (ndL tActive x4 : Int))) ∧ SlO 154 tCharge w' F6 v6 (mAll tCharge x6 (k + (ndL tVersionS x0 : Int) + (ndL tInt x3 : Int) + (ndL tActive x4 : Int) + (ndL tFinished x5 : Int)))) ∧ Turn F w w' := by
 have S0 := hd s0
 have N0 := ndL_le tVersionS_law (by decide) x0
 have S3 := hd s3
 have N3 := ndL_le tInt_law (by decide) x3
 have S4 := hd s4
 have N4 := ndL_le tActive_law (by decide) x4
 have S5 := hd s5
 have N5 := ndL_le tFinished_law (by decide) x5
 have S6 := hd s6
 have N6 := ndL_le tCharge_law (by decide) x6
 have R0 : Hid (0 ≤ k ∧ k ≤ 536870912) := hd (by omega)
 have R3 : Hid (0 ≤ k + (ndL tVersionS x0 : Int) ∧ k + (ndL tVersionS x0 : Int) ≤ 536870912) := hd (by omega)
 have R4 : Hid (0 ≤ k + (ndL tVersionS x0 : Int) + (ndL tInt x3 : Int) ∧ k + (ndL tVersionS x0 : Int) + (ndL tInt x3 : Int) ≤ 536870912) := hd (by omega)
 have R5 : Hid (0 ≤ k + (ndL tVersionS x0 : Int) + (ndL tInt x3 : Int) + (ndL tActive x4 : Int) ∧ k + (ndL tVersionS x0 : Int) + (ndL tInt x3 : Int) + (ndL tActive x4 : Int) ≤ 536870912) := hd (by omega)
 have R6 : Hid (0 ≤ k + (ndL tVersionS x0 : Int) + (ndL tInt x3 : Int) + (ndL tActive x4 : Int) + (ndL tFinished x5 : Int) ∧ k + (ndL tVersionS x0 : Int) + (ndL tInt x3 : Int) + (ndL tActive x4 : Int) + (ndL tFinished x5 : Int) ≤ 536870912) := hd (by omega)
 have RE : Hid (0 ≤ k + (ndL tVersionS x0 : Int) + (ndL tInt x3 : Int) + (ndL tActive x4 : Int) + (ndL tFinished x5 : Int) + (ndL tCharge x6 : Int)) := hd (by omega)
 clear N0 N3 N4 N5 N6
 have O0 := hd (slO_lt tVersionS_law h0)
 have O3 := hd (slO_lt tInt_law h3)
 have O4 := hd (slO_lt tActive_law h4)
 have O5 := hd (slO_lt tFinished_law h5)
 have O6 := hd (slO_lt tCharge_law h6)
 clear h0 s0 h3 s3 h4 s4 h5 s5 h6 s6
 go_enter Tryz.func20, Tryz.ntmps20
 go_wp2_with fail
 have hb : Below w.heap.size w (w.alloc (.cells #[v0, .int .i64 a1, .int .i64 a2, v3, v4, v5, v6, .int .i64 a7] 40)) := (Below.refl _ w).alloc (Nat.le_refl _) _
 have g0 : (w.alloc (.cells #[v0, .int .i64 a1, .int .i64 a2, v3, v4, v5, v6, .int .i64 a7] 40)).heap[w.heap.size]? = some (.cells #[v0, .int .i64 a1, .int .i64 a2, v3, v4, v5, v6, .int .i64 a7] 40 (0, 0)) := heap_alloc_new w _
 have hz : w.heap.size < (w.alloc (.cells #[v0, .int .i64 a1, .int .i64 a2, v3, v4, v5, v6, .int .i64 a7] 40)).heap.size := by simp [World.size_alloc]
 have ht : Turn F w (w.alloc (.cells #[v0, .int .i64 a1, .int .i64 a2, v3, v4, v5, v6, .int .i64 a7] 40)) := turn_below hb
 replace O0 := zf tVersionS_law O0 hb
 replace O3 := zf tInt_law O3 hb
 replace O4 := zf tActive_law O4 hb
 replace O5 := zf tFinished_law O5 hb
 replace O6 := zf tCharge_law O6 hb
 generalize (w.alloc (.cells #[v0, .int .i64 a1, .int .i64 a2, v3, v4, v5, v6, .int .i64 a7] 40)) = W at *
 refine (markStore_T a1 v0 x0 (fun b => (F0 b) ∧ b < w.heap.size) _ (k) W O0.out (fun b h => ⟨h.1, h.2⟩)  S0.out R0.out.1 (by have := R0.out.2; omega)).mono ?_
 rintro e w1 ⟨rfl, m0, t1⟩
 replace g0 := (t1.block _ hz (fun h => absurd h.2 (Nat.lt_irrefl _))).trans g0
 have zz0 := t1.size
 replace hz := Nat.lt_of_lt_of_le hz t1.size
 replace ht := ht.trans (t1.mono (fun b h => q0 b h.1))
 replace O0 := hd m0
 replace O3 := zt tInt_law O3 t1 (fun b h1 h2 => d0_3 b h2.1 h1.1)
 replace O4 := zt tActive_law O4 t1 (fun b h1 h2 => d0_4 b h2.1 h1.1)
 replace O5 := zt tFinished_law O5 t1 (fun b h1 h2 => d0_5 b h2.1 h1.1)
 replace O6 := zt tCharge_law O6 t1 (fun b h1 h2 => d0_6 b h2.1 h1.1)
 clear m0 t1
 have p3 := cr 3 (v3) g0
 go_wp2_with fail
 clear p3
 refine (markIntES_S v3 x3 _ (k + (ndL tVersionS x0 : Int)) w1 O3.out S3.out R3.out.1 (by have := R3.out.2; omega)).mono ?_
 rintro e w2 ⟨rfl, m3, t1⟩
 replace g0 := (t1.block _ hz (fun h => absurd h.2 (Nat.lt_irrefl _))).trans g0
 have zz1 := t1.size
 replace hz := Nat.lt_of_lt_of_le hz t1.size
 replace ht := ht.trans (t1.mono (fun b h => q3 b h.1))
 replace O0 := zt tVersionS_law O0 t1 (fun b h1 h2 => d0_3 b h1.1 h2.1)
 replace O3 := hd m3
 replace O4 := zt tActive_law O4 t1 (fun b h1 h2 => d3_4 b h2.1 h1.1)
 replace O5 := zt tFinished_law O5 t1 (fun b h1 h2 => d3_5 b h2.1 h1.1)
 replace O6 := zt tCharge_law O6 t1 (fun b h1 h2 => d3_6 b h2.1 h1.1)
 clear m3 t1
 have p4 := cr 4 (v4) g0
 go_wp2_with fail
 clear p4
 refine (markActiveS_S v4 x4 _ (k + (ndL tVersionS x0 : Int) + (ndL tInt x3 : Int)) w2 O4.out S4.out R4.out.1 (by have := R4.out.2; omega)).mono ?_
 rintro e w3 ⟨rfl, m4, t1⟩
 replace g0 := (t1.block _ hz (fun h => absurd h.2 (Nat.lt_irrefl _))).trans g0
 have zz2 := t1.size
 replace hz := Nat.lt_of_lt_of_le hz t1.size
 replace ht := ht.trans (t1.mono (fun b h => q4 b h.1))
 replace O0 := zt tVersionS_law O0 t1 (fun b h1 h2 => d0_4 b h1.1 h2.1)
 replace O3 := zt tInt_law O3 t1 (fun b h1 h2 => d3_4 b h1.1 h2.1)
 replace O4 := hd m4
 replace O5 := zt tFinished_law O5 t1 (fun b h1 h2 => d4_5 b h2.1 h1.1)
 replace O6 := zt tCharge_law O6 t1 (fun b h1 h2 => d4_6 b h2.1 h1.1)
 clear m4 t1
 have p5 := cr 5 (v5) g0
 go_wp2_with fail
 clear p5
 refine (markFinishedS_S v5 x5 _ (k + (ndL tVersionS x0 : Int) + (ndL tInt x3 : Int) + (ndL tActive x4 : Int)) w3 O5.out S5.out R5.out.1 (by have := R5.out.2; omega)).mono ?_
 rintro e w4 ⟨rfl, m5, t1⟩
 replace g0 := (t1.block _ hz (fun h => absurd h.2 (Nat.lt_irrefl _))).trans g0
 have zz3 := t1.size
 replace hz := Nat.lt_of_lt_of_le hz t1.size
 replace ht := ht.trans (t1.mono (fun b h => q5 b h.1))
 replace O0 := zt tVersionS_law O0 t1 (fun b h1 h2 => d0_5 b h1.1 h2.1)
 replace O3 := zt tInt_law O3 t1 (fun b h1 h2 => d3_5 b h1.1 h2.1)
 replace O4 := zt tActive_law O4 t1 (fun b h1 h2 => d4_5 b h1.1 h2.1)
 replace O5 := hd m5
 replace O6 := zt tCharge_law O6 t1 (fun b h1 h2 => d5_6 b h2.1 h1.1)
 clear m5 t1
 have p6 := cr 6 (v6) g0
 go_wp2_with fail
 clear p6
 refine (markChargeS_S v6 x6 _ (k + (ndL tVersionS x0 : Int) + (ndL tInt x3 : Int) + (ndL tActive x4 : Int) + (ndL tFinished x5 : Int)) w4 O6.out S6.out R6.out.1 (by have := R6.out.2; omega)).mono ?_
 rintro e w5 ⟨rfl, m6, t1⟩
 replace g0 := (t1.block _ hz (fun h => absurd h.2 (Nat.lt_irrefl _))).trans g0
 have zz4 := t1.size
 replace hz := Nat.lt_of_lt_of_le hz t1.size
 replace ht := ht.trans (t1.mono (fun b h => q6 b h.1))
 replace O0 := zt tVersionS_law O0 t1 (fun b h1 h2 => d0_6 b h1.1 h2.1)
 replace O3 := zt tInt_law O3 t1 (fun b h1 h2 => d3_6 b h1.1 h2.1)
 replace O4 := zt tActive_law O4 t1 (fun b h1 h2 => d4_6 b h1.1 h2.1)
 replace O5 := zt tFinished_law O5 t1 (fun b h1 h2 => d5_6 b h1.1 h2.1)
 replace O6 := hd m6
 clear m6 t1
 go_wp2
 go_ret
 exact ⟨rfl, ⟨slO_mono O0.out (fun b h => h.1), slO_mono O3.out (fun b h => h.1), slO_mono O4.out (fun b h => h.1), slO_mono O5.out (fun b h => h.1), slO_mono O6.out (fun b h => h.1)⟩, ht⟩
end Go.Proofs.YtogbgeekmdnhlaaGreatDoor
