/-
  Texts of the proof, merged: TQuery, TQueryS, BrQuery, SpanOwn, BrSpan, QueryIsP.
-/
import Derived.Test.YtidhmgboknffkaaDoorG3
import Derived.BigQuiet
import Derived.Deep.QuietTactic
import Derived.Deep.RegionHeld3
namespace Go.Proofs.YtidhmgboknffkaaDoor
open Go.RowKit
set_option linter.unusedVariables false
set_option linter.unusedSimpArgs false
def tQuery : Ty (Int × Int × List (Int × Int × Int) × List Int) := tPair tInt (tPair tInt (tPair tCondS tIntS))
theorem tQuery_law : tQuery.Law := tPair_law tInt_law (tPair_law tInt_law (tPair_law tCondS_law tIntS_law))
theorem tQuery_R {w : World} {cs : List Value} {a0 : Int} {a1 : Int} {x2 : List (Int × Int × Int)} {x3 : List Int} (h : tQuery.R w cs (a0, a1, x2, x3)) : ∃ v2 v3, cs = [.int .i64 a0, .int .i64 a1, v2, v3] ∧ SlR tCond w v2 x2 ∧ SlR tInt w v3 x3 := by
  obtain ⟨_, _, rfl, rfl, ⟨_, _, rfl, rfl, ⟨_, _, rfl, ⟨v2, rfl, h2⟩, ⟨v3, rfl, h3⟩⟩⟩⟩ := h
  exact ⟨_, _, rfl, h2, h3⟩
theorem tQuery_sz {a0 : Int} {a1 : Int} {x2 : List (Int × Int × Int)} {x3 : List Int} : tQuery.sz (a0, a1, x2, x3) = zL tCond x2 + zL tInt x3 := by
  simp only [tQuery, tPair_sz, tPair_nd, tPair_nv, tInt_sz, tInt_nd, tInt_nv, tSl_sz, tSl_nd, tSl_nv]
  try omega
theorem tQuery_nd {a0 : Int} {a1 : Int} {x2 : List (Int × Int × Int)} {x3 : List Int} : tQuery.nd (a0, a1, x2, x3) = 2 + ndL tCond x2 + ndL tInt x3 := by
  simp only [tQuery, tPair_sz, tPair_nd, tPair_nv, tInt_sz, tInt_nd, tInt_nv, tSl_sz, tSl_nd, tSl_nv]
  try omega
theorem tQuery_md {a0 : Int} {a1 : Int} {x2 : List (Int × Int × Int)} {x3 : List Int} {k : Int} : tQuery.md (a0, a1, x2, x3) k = ((k), (k + 1), mAll tCond x2 (k + 1 + 1), mAll tInt x3 (k + 1 + 1 + (ndL tCond x2 : Int))) := by
  simp only [tQuery, tPair_md, tPair_mv, tPair_nd, tPair_nv, tInt_md, tInt_mv, tInt_nd, tInt_nv, tSl_md, tSl_mv, tSl_nd, tSl_nv, Int.natCast_add, Int.natCast_zero, Int.natCast_one, Int.add_zero, Int.zero_add, Int.add_assoc]
theorem tQuery_O {w : World} {F : Nat → Prop} {cs : List Value} {a0 : Int} {a1 : Int} {x2 : List (Int × Int × Int)} {x3 : List Int} (h : tQuery.O w F cs (a0, a1, x2, x3)) : ∃ v2 v3, ∃ F2 F3 : Nat → Prop, cs = [.int .i64 a0, .int .i64 a1, v2, v3] ∧ SlO 115 tCond w F2 v2 x2 ∧ SlO 3 tInt w F3 v3 x3 ∧ (∀ b, F2 b → F b) ∧ (∀ b, F3 b → F b) ∧ (∀ b, F2 b → ¬ F3 b) := by
  obtain ⟨_, _, F0_1, F0_2, rfl, rfl, ⟨_, _, F1_1, F1_2, rfl, rfl, ⟨_, _, F2_1, F2_2, rfl, ⟨v2, rfl, h2⟩, ⟨v3, rfl, h3⟩, s2_1, s2_2, d2⟩, s1_1, s1_2, d1⟩, s0_1, s0_2, d0⟩ := h
  exact ⟨v2, v3, F2_1, F2_2, rfl, h2, h3, fun b h => (s0_2 b (s1_2 b (s2_1 b h))), fun b h => (s0_2 b (s1_2 b (s2_2 b h))), fun b h h2 => d2 b h h2⟩
theorem tQuery_mkO {w : World} {F : Nat → Prop} {a0 : Int} {a1 : Int} {x2 : List (Int × Int × Int)} {x3 : List Int} {v2 v3 : Value} {F2 F3 : Nat → Prop} (h2 : SlO 115 tCond w F2 v2 x2) (h3 : SlO 3 tInt w F3 v3 x3) (s2 : ∀ b, F2 b → F b) (s3 : ∀ b, F3 b → F b) (d2_3 : ∀ b, F2 b → ¬ F3 b) : tQuery.O w F [.int .i64 a0, .int .i64 a1, v2, v3] (a0, a1, x2, x3) := ⟨[.int .i64 a0], [.int .i64 a1, v2, v3], fun _ => False, fun b => F2 b ∨ (F3 b), rfl, rfl, ⟨[.int .i64 a1], [v2, v3], fun _ => False, fun b => F2 b ∨ (F3 b), rfl, rfl, ⟨[v2], [v3], F2, F3, rfl, ⟨_, rfl, h2⟩, ⟨_, rfl, h3⟩, (fun b h => (Or.inl h)), (fun b h => (Or.inr h)), (fun b h g => d2_3 b h g)⟩, (fun b h => (False.elim h)), (fun b h => (h.elim (fun q0 => (Or.inl q0)) (fun q0 => (Or.inr q0)))), (fun b h g => (False.elim h))⟩, (fun b h => (False.elim h)), (fun b h => (h.elim (fun q0 => s2 b q0) (fun q0 => s3 b q0))), (fun b h g => (False.elim h))⟩
set_option maxHeartbeats 8000000 in
set_option maxRecDepth 100000 in
theorem szQuery_Y (a0 a1 : Int) (v2 v3 : Value) (x2 : List (Int × Int × Int)) (x3 : List Int) (k0 : Int) (w : World) (h2 : SlR tCond w v2 x2) (h3 : SlR tInt w v3 x3) (hs : ((zL tCond x2 + zL tInt x3 : Nat) : Int) ≤ k0) (hk : k0 ≤ 1048576) :
    Calls Tryd.prog 122 #[.agg #[.int .i64 a0, .int .i64 a1, v2, v3], .int .i64 k0] w fun e w' => e = .returned (.int .i64 (k0 - ((zL tCond x2 + zL tInt x3 : Nat) : Int))) ∧ Below w.heap.size w w' := by
  have H2 := Lib.hid h2
  have H3 := Lib.hid h3
  clear h2 h3
  have HZ2 : Hid (((zL tCond x2 : Nat) : Int) ≤ k0) := Lib.hid (by omega)
  have HK2 : Hid (k0 ≤ 1048576) := Lib.hid (by omega)
  have hn2 : ¬ k0 - ((zL tCond x2 : Nat) : Int) < 0 := by omega
  have HZ3 : Hid (((zL tInt x3 : Nat) : Int) ≤ k0 - ((zL tCond x2 : Nat) : Int)) := Lib.hid (by omega)
  have HK3 : Hid (k0 - ((zL tCond x2 : Nat) : Int) ≤ 1048576) := Lib.hid (by omega)
  have hn3 : ¬ k0 - ((zL tCond x2 : Nat) : Int) - ((zL tInt x3 : Nat) : Int) < 0 := by omega
  have HE : Hid (k0 - ((zL tCond x2 : Nat) : Int) - ((zL tInt x3 : Nat) : Int) = k0 - ((zL tCond x2 + zL tInt x3 : Nat) : Int)) := Lib.hid (by omega)
  clear hs hk
  have hb : Below w.heap.size w (w.alloc (.cells #[.int .i64 a0, .int .i64 a1, v2, v3] 174)) := (Below.refl _ w).alloc (Nat.le_refl _) _
  have g0 : (w.alloc (.cells #[.int .i64 a0, .int .i64 a1, v2, v3] 174)).heap[w.heap.size]? = some (.cells #[.int .i64 a0, .int .i64 a1, v2, v3] 174 (0, 0)) := heap_alloc_new w _
  have hz0 : w.heap.size < (w.alloc (.cells #[.int .i64 a0, .int .i64 a1, v2, v3] 174)).heap.size := by simp
  go_enter Tryd.func122, Tryd.ntmps122
  go_wp2_with fail
  generalize (w.alloc (.cells #[.int .i64 a0, .int .i64 a1, v2, v3] 174)) = W at *
  refine (szCondS_Y v2 x2 (k0) W (slR_below tCond_law H2.out hb) HZ2.out HK2.out).mono ?_
  rintro e W1 ⟨rfl, b1⟩
  replace g0 := (b1.block w.heap.size hz0).trans g0
  replace hz0 := Nat.lt_of_lt_of_le hz0 b1.size
  replace hb := hb.trans (b1.mono hb.size)
  clear b1
  have p3 := (cell_of_row W1 _ 3 _ _ _ g0).trans (show _ = some (v3) from rfl)
  go_wp2_with fail
  clear p3
  refine (szIntS_Y v3 x3 (k0 - ((zL tCond x2 : Nat) : Int)) W1 (slR_below tInt_law H3.out hb) HZ3.out HK3.out).mono ?_
  rintro e W2 ⟨rfl, b1⟩
  replace g0 := (b1.block w.heap.size hz0).trans g0
  replace hz0 := Nat.lt_of_lt_of_le hz0 b1.size
  replace hb := hb.trans (b1.mono hb.size)
  clear b1
  go_wp2
  go_ret
  exact ⟨ty_ret HE.out, hb⟩
set_option maxHeartbeats 8000000 in
set_option maxRecDepth 100000 in
theorem szQuery_N (a0 a1 : Int) (v2 v3 : Value) (x2 : List (Int × Int × Int)) (x3 : List Int) (k0 : Int) (w : World) (h2 : SlR tCond w v2 x2) (h3 : SlR tInt w v3 x3) (hs : k0 < ((zL tCond x2 + zL tInt x3 : Nat) : Int)) (hk : k0 ≤ 1048576) (hp : 0 ≤ k0) (o2 : tCondS.ok x2) (o3 : tIntS.ok x3) :
    Calls Tryd.prog 122 #[.agg #[.int .i64 a0, .int .i64 a1, v2, v3], .int .i64 k0] w fun e w' => e = .returned (.int .i64 (-1)) ∧ Below w.heap.size w w' := by
  have H2 := Lib.hid h2
  have H3 := Lib.hid h3
  clear h2 h3
  have HO2 := Lib.hid o2
  have HO3 := Lib.hid o3
  clear o2 o3
  by_cases c0 : k0 < ((zL tCond x2 : Nat) : Int)
  · have HZ2 : Hid (k0 < ((zL tCond x2 : Nat) : Int)) := Lib.hid (by omega)
    have HP2 : Hid (0 ≤ k0) := Lib.hid (by omega)
    have HK2 : Hid (k0 ≤ 1048576) := Lib.hid (by omega)
    clear hs hk
    clear c0 hp
    have hb : Below w.heap.size w (w.alloc (.cells #[.int .i64 a0, .int .i64 a1, v2, v3] 174)) := (Below.refl _ w).alloc (Nat.le_refl _) _
    have g0 : (w.alloc (.cells #[.int .i64 a0, .int .i64 a1, v2, v3] 174)).heap[w.heap.size]? = some (.cells #[.int .i64 a0, .int .i64 a1, v2, v3] 174 (0, 0)) := heap_alloc_new w _
    have hz0 : w.heap.size < (w.alloc (.cells #[.int .i64 a0, .int .i64 a1, v2, v3] 174)).heap.size := by simp
    go_enter Tryd.func122, Tryd.ntmps122
    go_wp2_with fail
    generalize (w.alloc (.cells #[.int .i64 a0, .int .i64 a1, v2, v3] 174)) = W at *
    refine (szCondS_N v2 x2 (k0) W (slR_below tCond_law H2.out hb) HZ2.out HK2.out HP2.out HO2.out).mono ?_
    rintro e W1 ⟨rfl, b1⟩
    replace g0 := (b1.block w.heap.size hz0).trans g0
    replace hz0 := Nat.lt_of_lt_of_le hz0 b1.size
    replace hb := hb.trans (b1.mono hb.size)
    clear b1
    go_wp2
    go_ret
    exact ⟨rfl, hb⟩
  ·
    have HZ2 : Hid (((zL tCond x2 : Nat) : Int) ≤ k0) := Lib.hid (by omega)
    have hn2 : ¬ k0 - ((zL tCond x2 : Nat) : Int) < 0 := by omega
    have HK2 : Hid (k0 ≤ 1048576) := Lib.hid (by omega)
    have HZ3 : Hid (k0 - ((zL tCond x2 : Nat) : Int) < ((zL tInt x3 : Nat) : Int)) := Lib.hid (by omega)
    have HP3 : Hid (0 ≤ k0 - ((zL tCond x2 : Nat) : Int)) := Lib.hid (by omega)
    have HK3 : Hid (k0 - ((zL tCond x2 : Nat) : Int) ≤ 1048576) := Lib.hid (by omega)
    clear hs hk
    clear hp c0
    have hb : Below w.heap.size w (w.alloc (.cells #[.int .i64 a0, .int .i64 a1, v2, v3] 174)) := (Below.refl _ w).alloc (Nat.le_refl _) _
    have g0 : (w.alloc (.cells #[.int .i64 a0, .int .i64 a1, v2, v3] 174)).heap[w.heap.size]? = some (.cells #[.int .i64 a0, .int .i64 a1, v2, v3] 174 (0, 0)) := heap_alloc_new w _
    have hz0 : w.heap.size < (w.alloc (.cells #[.int .i64 a0, .int .i64 a1, v2, v3] 174)).heap.size := by simp
    go_enter Tryd.func122, Tryd.ntmps122
    go_wp2_with fail
    generalize (w.alloc (.cells #[.int .i64 a0, .int .i64 a1, v2, v3] 174)) = W at *
    refine (szCondS_Y v2 x2 (k0) W (slR_below tCond_law H2.out hb) HZ2.out HK2.out).mono ?_
    rintro e W1 ⟨rfl, b1⟩
    replace g0 := (b1.block w.heap.size hz0).trans g0
    replace hz0 := Nat.lt_of_lt_of_le hz0 b1.size
    replace hb := hb.trans (b1.mono hb.size)
    clear b1
    have p3 := (cell_of_row W1 _ 3 _ _ _ g0).trans (show _ = some (v3) from rfl)
    go_wp2_with fail
    clear p3
    refine (szIntS_N v3 x3 (k0 - ((zL tCond x2 : Nat) : Int)) W1 (slR_below tInt_law H3.out hb) HZ3.out HK3.out HP3.out HO3.out).mono ?_
    rintro e W2 ⟨rfl, b1⟩
    replace g0 := (b1.block w.heap.size hz0).trans g0
    replace hz0 := Nat.lt_of_lt_of_le hz0 b1.size
    replace hb := hb.trans (b1.mono hb.size)
    clear b1
    go_wp2
    go_ret
    exact ⟨rfl, hb⟩
set_option maxHeartbeats 8000000 in
set_option maxRecDepth 100000 in
theorem toQuery_T (a0 a1 : Int) (v2 v3 : Value) (x2 : List (Int × Int × Int)) (x3 : List Int) (w : World) (h2 : SlR tCond w v2 x2) (h3 : SlR tInt w v3 x3) (s2 : zL tCond x2 ≤ 1048576) (s3 : zL tInt x3 ≤ 1048576) :
    Calls Tryd.prog 124 #[.agg #[.int .i64 a0, .int .i64 a1, v2, v3]] w (FreshT tQuery (fun cs => .agg cs.toArray) w (a0, a1, x2, x3)) := by
  have H2 := Lib.hid h2
  have H3 := Lib.hid h3
  clear h2 h3
  have S2 := Lib.hid s2
  have S3 := Lib.hid s3
  clear s2 s3
  go_enter Tryd.func124, Tryd.ntmps124
  go_wp2_with fail
  have hb : Below w.heap.size w (((w.alloc (.cells #[.int .i64 a0, .int .i64 a1, v2, v3] 174)).alloc (.cells #[.int .i64 0, .int .i64 0, .slice none 0 0, .slice none 0 0] 44)).alloc (.cells #[.int .i64 a0, .int .i64 a1, .slice none 0 0, .slice none 0 0] 44)) := (((Below.refl _ w).alloc (Nat.le_refl _) _).alloc (by simp) _).alloc (by simp; omega) _
  have g2 : (((w.alloc (.cells #[.int .i64 a0, .int .i64 a1, v2, v3] 174)).alloc (.cells #[.int .i64 0, .int .i64 0, .slice none 0 0, .slice none 0 0] 44)).alloc (.cells #[.int .i64 a0, .int .i64 a1, .slice none 0 0, .slice none 0 0] 44)).heap[w.heap.size + 1 + 1]? = some (.cells #[.int .i64 a0, .int .i64 a1, .slice none 0 0, .slice none 0 0] 44 (0, 0)) := by
    have := heap_alloc_new ((w.alloc (.cells #[.int .i64 a0, .int .i64 a1, v2, v3] 174)).alloc (.cells #[.int .i64 0, .int .i64 0, .slice none 0 0, .slice none 0 0] 44)) (.cells #[.int .i64 a0, .int .i64 a1, .slice none 0 0, .slice none 0 0] 44)
    simpa only [World.size_alloc] using this
  have g1 : (((w.alloc (.cells #[.int .i64 a0, .int .i64 a1, v2, v3] 174)).alloc (.cells #[.int .i64 0, .int .i64 0, .slice none 0 0, .slice none 0 0] 44)).alloc (.cells #[.int .i64 a0, .int .i64 a1, .slice none 0 0, .slice none 0 0] 44)).heap[w.heap.size + 1]? = some (.cells #[.int .i64 0, .int .i64 0, .slice none 0 0, .slice none 0 0] 44 (0, 0)) := by
    have := heap_alloc_new (w.alloc (.cells #[.int .i64 a0, .int .i64 a1, v2, v3] 174)) (.cells #[.int .i64 0, .int .i64 0, .slice none 0 0, .slice none 0 0] 44)
    rw [Below.heap_alloc _ _ _ (by simp)]
    simpa only [World.size_alloc] using this
  have g0 : (((w.alloc (.cells #[.int .i64 a0, .int .i64 a1, v2, v3] 174)).alloc (.cells #[.int .i64 0, .int .i64 0, .slice none 0 0, .slice none 0 0] 44)).alloc (.cells #[.int .i64 a0, .int .i64 a1, .slice none 0 0, .slice none 0 0] 44)).heap[w.heap.size]? = some (.cells #[.int .i64 a0, .int .i64 a1, v2, v3] 174 (0, 0)) := by
    rw [Below.heap_alloc _ _ _ (by simp; omega), Below.heap_alloc _ _ _ (by simp)]
    exact heap_alloc_new w _
  have hz : w.heap.size + 2 < (((w.alloc (.cells #[.int .i64 a0, .int .i64 a1, v2, v3] 174)).alloc (.cells #[.int .i64 0, .int .i64 0, .slice none 0 0, .slice none 0 0] 44)).alloc (.cells #[.int .i64 a0, .int .i64 a1, .slice none 0 0, .slice none 0 0] 44)).heap.size := by simp [World.size_alloc]
  generalize (((w.alloc (.cells #[.int .i64 a0, .int .i64 a1, v2, v3] 174)).alloc (.cells #[.int .i64 0, .int .i64 0, .slice none 0 0, .slice none 0 0] 44)).alloc (.cells #[.int .i64 a0, .int .i64 a1, .slice none 0 0, .slice none 0 0] 44)) = W at *
  refine (toCondS_S v2 x2 W (slR_below tCond_law H2.out hb) S2.out).mono ?_
  rintro e w1 ⟨u2, rfl, o2, b1⟩
  obtain ⟨ua2, uc2, rfl⟩ := slO_len o2
  replace o2 := slO_mono (slO_lt tCond_law o2) (F' := fun b => W.heap.size ≤ b ∧ b < w1.heap.size) (fun b h => h)
  replace g0 := (b1.block _ (by omega)).trans g0
  replace g1 := (b1.block _ (by omega)).trans g1
  replace g2 := (b1.block _ (by omega)).trans g2
  have zz1 := b1.size
  replace hb := hb.trans (b1.mono (by omega))
  clear b1
  have c2_0 := (cell_of_row w1 _ 0 _ _ _ g2).trans (show _ = some (Value.int .i64 a0) from rfl)
  have f2_0 := frozen_of_row w1 _ 0 _ _ g2
  have c2_1 := (cell_of_row w1 _ 1 _ _ _ g2).trans (show _ = some (Value.int .i64 a1) from rfl)
  have f2_1 := frozen_of_row w1 _ 1 _ _ g2
  have c2_2 := (cell_of_row w1 _ 2 _ _ _ g2).trans (show _ = some (Value.slice none 0 0) from rfl)
  have f2_2 := frozen_of_row w1 _ 2 _ _ g2
  have ne1 : ¬ w.heap.size = w.heap.size + 1 + 1 := by omega
  have ne2 : ¬ w.heap.size + 1 = w.heap.size + 1 + 1 := by omega
  have ne3 : ¬ w.heap.size + 1 + 1 = w.heap.size + 1 := by omega
  have c0_3 := (cell_of_row w1 _ 3 _ _ _ g0).trans (show _ = some (v3) from rfl)
  have l0_3 : (w1.setCell ⟨w.heap.size + 1 + 1, 2, none⟩ (.slice ua2 x2.length uc2)).cell? ⟨w.heap.size, 3, none⟩ = some (v3) := by
    have m : (w1.setCell ⟨w.heap.size + 1 + 1, 2, none⟩ (.slice ua2 x2.length uc2)).heap[w.heap.size]? = some (.cells #[.int .i64 a0, .int .i64 a1, v2, v3] 174 (0, 0)) := by
      repeat rw [heap_setCell_other _ _ _ _ (by simp <;> omega)]
      exact g0
    exact (cell_of_row _ _ 3 _ _ _ m).trans rfl
  go_wp2_with fail
  clear c2_0 f2_0 c2_1 f2_1 c2_2 f2_2 ne1 ne2 ne3 c0_3 l0_3
  have hw : Turn (fun b => b = w.heap.size + 1 + 1) w1 (w1.setCell ⟨w.heap.size + 1 + 1, 2, none⟩ (.slice ua2 x2.length uc2)) := by
    first | exact ((Turn.refl _ _).trans (turn_set (g := w.heap.size + 1 + 1) (j := 2) (u := .slice ua2 x2.length uc2) rfl)) | skip
  replace g0 := (hw.block _ (by omega) (by omega)).trans g0
  replace g1 := (hw.block _ (by omega) (by omega)).trans g1
  have g2n := (heap_setCell_same _ (w.heap.size + 1 + 1) 2 _ _ (.slice ua2 x2.length uc2) g2)
  replace g2 : (w1.setCell ⟨w.heap.size + 1 + 1, 2, none⟩ (.slice ua2 x2.length uc2)).heap[w.heap.size + 1 + 1]? = some (.cells #[.int .i64 a0, .int .i64 a1, .slice ua2 x2.length uc2, .slice none 0 0] 44 (0, 0)) := by simpa using g2n
  clear g2n
  replace o2 := slO_turn tCond_law o2 hw (fun b h1 h2 => by have := h1.1; omega)
  replace hb := below_turn hb hw (fun b h => by omega) (by omega)
  have hz0 := hw.size
  clear hw
  generalize (w1.setCell ⟨w.heap.size + 1 + 1, 2, none⟩ (.slice ua2 x2.length uc2)) = W1 at *
  refine (toIntS_S v3 x3 W1 (slR_below tInt_law H3.out hb) S3.out).mono ?_
  rintro e w2 ⟨u3, rfl, o3, b1⟩
  obtain ⟨ua3, uc3, rfl⟩ := slO_len o3
  replace o3 := slO_mono (slO_lt tInt_law o3) (F' := fun b => W1.heap.size ≤ b ∧ b < w2.heap.size) (fun b h => h)
  replace g0 := (b1.block _ (by omega)).trans g0
  replace g1 := (b1.block _ (by omega)).trans g1
  replace g2 := (b1.block _ (by omega)).trans g2
  replace o2 := slO_fresh tCond_law o2 b1
  have zz2 := b1.size
  replace hb := hb.trans (b1.mono (by omega))
  clear b1
  have c2_0 := (cell_of_row w2 _ 0 _ _ _ g2).trans (show _ = some (Value.int .i64 a0) from rfl)
  have f2_0 := frozen_of_row w2 _ 0 _ _ g2
  have c2_1 := (cell_of_row w2 _ 1 _ _ _ g2).trans (show _ = some (Value.int .i64 a1) from rfl)
  have f2_1 := frozen_of_row w2 _ 1 _ _ g2
  have c2_2 := (cell_of_row w2 _ 2 _ _ _ g2).trans (show _ = some (Value.slice ua2 x2.length uc2) from rfl)
  have f2_2 := frozen_of_row w2 _ 2 _ _ g2
  have c2_3 := (cell_of_row w2 _ 3 _ _ _ g2).trans (show _ = some (Value.slice none 0 0) from rfl)
  have f2_3 := frozen_of_row w2 _ 3 _ _ g2
  have ne1 : ¬ w.heap.size = w.heap.size + 1 + 1 := by omega
  have ne2 : ¬ w.heap.size + 1 = w.heap.size + 1 + 1 := by omega
  have ne3 : ¬ w.heap.size + 1 + 1 = w.heap.size + 1 := by omega
  have c1_0 := (cell_of_row w2 _ 0 _ _ _ g1).trans (show _ = some (Value.int .i64 0) from rfl)
  have f1_0 := frozen_of_row w2 _ 0 _ _ g1
  have c1_1 := (cell_of_row w2 _ 1 _ _ _ g1).trans (show _ = some (Value.int .i64 0) from rfl)
  have f1_1 := frozen_of_row w2 _ 1 _ _ g1
  have c1_2 := (cell_of_row w2 _ 2 _ _ _ g1).trans (show _ = some (Value.slice none 0 0) from rfl)
  have f1_2 := frozen_of_row w2 _ 2 _ _ g1
  have c1_3 := (cell_of_row w2 _ 3 _ _ _ g1).trans (show _ = some (Value.slice none 0 0) from rfl)
  have f1_3 := frozen_of_row w2 _ 3 _ _ g1
  go_wp2
  clear c2_0 f2_0 c2_1 f2_1 c2_2 f2_2 c2_3 f2_3 ne1 ne2 ne3 c1_0 f1_0 c1_1 f1_1 c1_2 f1_2 c1_3 f1_3
  have hw : Turn (fun b => b = w.heap.size + 1 ∨ b = w.heap.size + 1 + 1) w2 (((((w2.setCell ⟨w.heap.size + 1 + 1, 3, none⟩ (.slice ua3 x3.length uc3)).setCell ⟨w.heap.size + 1, 0, none⟩ (.int .i64 a0)).setCell ⟨w.heap.size + 1, 1, none⟩ (.int .i64 a1)).setCell ⟨w.heap.size + 1, 2, none⟩ (.slice ua2 x2.length uc2)).setCell ⟨w.heap.size + 1, 3, none⟩ (.slice ua3 x3.length uc3)) := by
    first | exact ((((((Turn.refl _ _).trans (turn_set (g := w.heap.size + 1 + 1) (j := 3) (u := .slice ua3 x3.length uc3) (Or.inr rfl))).trans (turn_set (g := w.heap.size + 1) (j := 0) (u := .int .i64 a0) (Or.inl rfl))).trans (turn_set (g := w.heap.size + 1) (j := 1) (u := .int .i64 a1) (Or.inl rfl))).trans (turn_set (g := w.heap.size + 1) (j := 2) (u := .slice ua2 x2.length uc2) (Or.inl rfl))).trans (turn_set (g := w.heap.size + 1) (j := 3) (u := .slice ua3 x3.length uc3) (Or.inl rfl))) | skip
  have r := (heap_setCell_same _ (w.heap.size + 1) 3 _ _ (.slice ua3 x3.length uc3) (heap_setCell_same _ (w.heap.size + 1) 2 _ _ (.slice ua2 x2.length uc2) (heap_setCell_same _ (w.heap.size + 1) 1 _ _ (.int .i64 a1) (heap_setCell_same _ (w.heap.size + 1) 0 _ _ (.int .i64 a0) ((heap_setCell_other _ ⟨w.heap.size + 1 + 1, 3, none⟩ (w.heap.size + 1) (.slice ua3 x3.length uc3) (by simp)).trans g1)))))
  have e0 := cell_of_row _ _ 0 _ _ _ r
  have e1 := cell_of_row _ _ 1 _ _ _ r
  have e2 := cell_of_row _ _ 2 _ _ _ r
  have e3 := cell_of_row _ _ 3 _ _ _ r
  simp at e0 e1 e2 e3
  replace o2 := slO_turn tCond_law o2 hw (fun b h1 h2 => by have := h1.1; omega)
  replace o3 := slO_turn tInt_law o3 hw (fun b h1 h2 => by have := h1.1; omega)
  replace hb := below_turn hb hw (fun b h => by omega) (by omega)
  refine bodyPost_ret (v := .agg #[.int .i64 a0, .int .i64 a1, .slice ua2 x2.length uc2, .slice ua3 x3.length uc3]) ?_ rfl ?_
  · simp [results, Tryd.f124, go_sem, e0, e1, e2, e3]
  · exact ⟨[.int .i64 a0, .int .i64 a1, .slice ua2 x2.length uc2, .slice ua3 x3.length uc3], rfl, tQuery_mkO o2 o3 (fun b h => by show w.heap.size ≤ b; have := h.1; omega) (fun b h => by show w.heap.size ≤ b; have := h.1; omega) (fun b h1 h2 => by have := h1.1; have := h1.2; have := h2.1; have := h2.2; omega), hb⟩
set_option maxHeartbeats 8000000 in
set_option maxRecDepth 100000 in
theorem eqQuery_T (a0 a1 : Int) (v2 v3 : Value) (x2 : List (Int × Int × Int)) (x3 : List Int) (u2 u3 : Value) (w : World) (h2 : SlR tCond w v2 x2) (h3 : SlR tInt w v3 x3) (g2 : SlR tCond w u2 x2) (g3 : SlR tInt w u3 x3) (s2 : zL tCond x2 ≤ 1048576) (s3 : zL tInt x3 ≤ 1048576) :
    Calls Tryd.prog 126 #[.agg #[.int .i64 a0, .int .i64 a1, v2, v3], .agg #[.int .i64 a0, .int .i64 a1, u2, u3]] w fun e w' => e = .returned (.bool true) ∧ Below w.heap.size w w' := by
  have H2 := Lib.hid h2; have G2 := Lib.hid g2; have S2 := Lib.hid s2
  have H3 := Lib.hid h3; have G3 := Lib.hid g3; have S3 := Lib.hid s3
  clear h2 g2 s2 h3 g3 s3
  have e0 : (a0 != a0) = false := by simp
  have e1 : (a1 != a1) = false := by simp
  go_enter Tryd.func126, Tryd.ntmps126
  go_wp2_with fail
  have hb : Below w.heap.size w ((w.alloc (.cells #[.int .i64 a0, .int .i64 a1, v2, v3] 44)).alloc (.cells #[.int .i64 a0, .int .i64 a1, u2, u3] 44)) := ((Below.refl _ w).alloc (Nat.le_refl _) _).alloc (by simp) _
  have g1 : ((w.alloc (.cells #[.int .i64 a0, .int .i64 a1, v2, v3] 44)).alloc (.cells #[.int .i64 a0, .int .i64 a1, u2, u3] 44)).heap[w.heap.size + 1]? = some (.cells #[.int .i64 a0, .int .i64 a1, u2, u3] 44 (0, 0)) := by
    have := heap_alloc_new (w.alloc (.cells #[.int .i64 a0, .int .i64 a1, v2, v3] 44)) (.cells #[.int .i64 a0, .int .i64 a1, u2, u3] 44)
    simpa only [World.size_alloc] using this
  have g0 : ((w.alloc (.cells #[.int .i64 a0, .int .i64 a1, v2, v3] 44)).alloc (.cells #[.int .i64 a0, .int .i64 a1, u2, u3] 44)).heap[w.heap.size]? = some (.cells #[.int .i64 a0, .int .i64 a1, v2, v3] 44 (0, 0)) := by
    rw [Below.heap_alloc _ _ _ (by simp)]
    exact heap_alloc_new w _
  have hz : w.heap.size + 1 < ((w.alloc (.cells #[.int .i64 a0, .int .i64 a1, v2, v3] 44)).alloc (.cells #[.int .i64 a0, .int .i64 a1, u2, u3] 44)).heap.size := by simp [World.size_alloc]
  generalize ((w.alloc (.cells #[.int .i64 a0, .int .i64 a1, v2, v3] 44)).alloc (.cells #[.int .i64 a0, .int .i64 a1, u2, u3] 44)) = W at *
  refine (eqCondS_S v2 u2 x2 W (slR_below tCond_law H2.out hb) (slR_below tCond_law G2.out hb) S2.out).mono ?_
  rintro e w1 ⟨rfl, b1⟩
  replace g0 := (b1.block _ (by omega)).trans g0
  replace g1 := (b1.block _ (by omega)).trans g1
  have zz0 := b1.size
  replace hb := hb.trans (b1.mono (by omega))
  clear b1
  have p0_3 := (cell_of_row w1 _ 3 _ _ _ g0).trans (show _ = some (v3) from rfl)
  have p1_3 := (cell_of_row w1 _ 3 _ _ _ g1).trans (show _ = some (u3) from rfl)
  go_wp2_with fail
  clear p0_3 p1_3
  refine (eqIntS_S v3 u3 x3 w1 (slR_below tInt_law H3.out hb) (slR_below tInt_law G3.out hb) S3.out).mono ?_
  rintro e w2 ⟨rfl, b1⟩
  replace g0 := (b1.block _ (by omega)).trans g0
  replace g1 := (b1.block _ (by omega)).trans g1
  have zz1 := b1.size
  replace hb := hb.trans (b1.mono (by omega))
  clear b1
  go_wp2
  go_ret
  exact ⟨rfl, hb⟩
end Go.Proofs.YtidhmgboknffkaaDoor
namespace Go.Proofs.YtidhmgboknffkaaDoor
open Go.RowKit
set_option linter.unusedVariables false
set_option linter.unusedSimpArgs false
abbrev tQueryS : Ty (List (Int × Int × List (Int × Int × Int) × List Int)) := tSl 44 tQuery
theorem tQueryS_law : tQueryS.Law := tSl_law tQuery_law (by decide)
set_option maxHeartbeats 8000000 in
set_option maxRecDepth 100000 in
theorem szQueryS_Y (v : Value) (xs : List (Int × Int × List (Int × Int × Int) × List Int)) (k0 : Int) (w : World) (h : SlR tQuery w v xs) (hs : ((zL tQuery xs : Nat) : Int) ≤ k0) (hk : k0 ≤ 1048576) :
    Calls Tryd.prog 75 #[v, .int .i64 k0] w fun e w' => e = .returned (.int .i64 (k0 - ((zL tQuery xs : Nat) : Int))) ∧ Below w.heap.size w w' := by
  have H := Lib.hid h
  obtain ⟨a, cap, rfl⟩ := slR_len h
  clear h
  have h00 := zTo_le (T := tQuery) (xs := xs) (Nat.zero_le _)
  rw [zTo_zero] at h00
  have HS := Lib.hid hs
  go_enter Tryd.func75, Tryd.ntmps75
  have hneg : ¬ k0 - (xs.length : Int) < 0 := by omega
  go_wp2
  clear hneg
  go_loopw [1, 5] (fun l i wr => ∃ k : Nat, k ≤ xs.length ∧ i = .int .i64 k ∧ l = .int .i64 (k0 - (zTo tQuery xs k : Int)) ∧ Below w.heap.size w wr) (fun _ i _ => xs.length - (intOf i).toNat)
  case atStart => exact ⟨0, Nat.zero_le _, rfl, by rw [zTo_zero], Below.refl _ _⟩
  case round =>
    obtain ⟨k, hk', rfl, rfl, hbel⟩ := hrel
    by_cases hlt : k < xs.length
    · have HST := Lib.hid (zTo_step (T := tQuery) hlt)
      have HLE := Lib.hid (zTo_le (T := tQuery) (xs := xs) (k := k + 1) (by omega))
      have i1 : (0 : Int) ≤ (k : Int) := by omega
      have i2 : (k : Int) < (xs.length : Int) := by omega
      obtain ⟨b, off, cap', cs, hv, hbl, hcs, hR⟩ := slR_at (slR_below tQuery_law H.out hbel) hlt
      simp only [Value.slice.injEq] at hv
      obtain ⟨rfl, _, rfl⟩ := hv
      generalize xs.getD k tQuery.d = x at *
      obtain ⟨a0, a1, x2, x3⟩ := x
      obtain ⟨v2, v3, hR'⟩ := tQuery_R hR
      obtain ⟨rfl, h2, h3⟩ := hR'
      have p0 : wr.cell? ⟨b, off + k * 4, none⟩ = some (Value.int .i64 a0) := hcs 0 (by decide)
      have p1 : wr.cell? ⟨b, off + k * 4 + 1, none⟩ = some (Value.int .i64 a1) := hcs 1 (by decide)
      have p2 : wr.cell? ⟨b, off + k * 4 + 2, none⟩ = some (v2) := hcs 2 (by decide)
      have p3 : wr.cell? ⟨b, off + k * 4 + 3, none⟩ = some (v3) := hcs 3 (by decide)
      clear hcs
      have HQ : Hid (tQuery.sz (a0, a1, x2, x3) = zL tCond x2 + zL tInt x3) := Lib.hid tQuery_sz
      have hx1 : ((zL tCond x2 + zL tInt x3 : Nat) : Int) ≤ k0 - (zTo tQuery xs k : Int) := by have := HST.out; have := HLE.out; have := HQ.out; omega
      have hx2 : k0 - (zTo tQuery xs k : Int) ≤ 1048576 := by omega
      have hneg : ¬ k0 - (zTo tQuery xs k : Int) - ((zL tCond x2 + zL tInt x3 : Nat) : Int) < 0 := by omega
      have HC := Lib.hid (fun W b => szQuery_Y a0 a1 v2 v3 x2 x3 (k0 - (zTo tQuery xs k : Int)) W (slR_below tCond_law h2 b) (slR_below tInt_law h3 b) hx1 hx2)
      go_wp2_with fail
      refine (HC.out _ (Below.refl _ _)).mono ?_
      rintro e w1 ⟨rfl, b1⟩
      have b2 := hbel.trans (b1.mono hbel.size)
      go_wp2
      go_roundw
      case rel => exact ⟨k + 1, by omega, by go_num, by rw [HST.out, HQ.out]; go_num, b2⟩
      case measure => simp [intOf]; omega
    · obtain rfl : k = xs.length := by omega
      go_wp2
      go_ret
      exact ⟨rfl, hbel⟩
set_option maxHeartbeats 8000000 in
set_option maxRecDepth 100000 in
theorem szQueryS_N (v : Value) (xs : List (Int × Int × List (Int × Int × Int) × List Int)) (k0 : Int) (w : World) (h : SlR tQuery w v xs) (hs : k0 < ((zL tQuery xs : Nat) : Int)) (hk : k0 ≤ 1048576) (hp : 0 ≤ k0) (ho : tQueryS.ok xs) :
    Calls Tryd.prog 75 #[v, .int .i64 k0] w fun e w' => e = .returned (.int .i64 (-1)) ∧ Below w.heap.size w w' := by
  have H := Lib.hid h
  have HX := Lib.hid ho.2
  have hn := ho.1
  have HS := Lib.hid hs
  obtain ⟨a, cap, rfl⟩ := slR_len h
  clear h ho hs
  by_cases h1 : k0 < (xs.length : Int)
  · have hneg : k0 - (xs.length : Int) < 0 := by omega
    go_enter Tryd.func75, Tryd.ntmps75
    go_wp2
    go_ret
    exact ⟨rfl, Below.refl _ _⟩
  · go_enter Tryd.func75, Tryd.ntmps75
    have hneg : ¬ k0 - (xs.length : Int) < 0 := by omega
    go_wp2
    clear hneg
    go_loopw [1, 5] (fun l i wr => ∃ k : Nat, k ≤ xs.length ∧ i = .int .i64 k ∧ l = .int .i64 (k0 - (zTo tQuery xs k : Int)) ∧ (zTo tQuery xs k : Int) ≤ k0 ∧ Below w.heap.size w wr) (fun _ i _ => xs.length - (intOf i).toNat)
    case atStart => exact ⟨0, Nat.zero_le _, rfl, by rw [zTo_zero], by rw [zTo_zero]; omega, Below.refl _ _⟩
    case round =>
      obtain ⟨k, hk', rfl, rfl, hle, hbel⟩ := hrel
      by_cases hlt : k < xs.length
      · have HST := Lib.hid (zTo_step (T := tQuery) hlt)
        have hx := HX.out k hlt
        have i1 : (0 : Int) ≤ (k : Int) := by omega
        have i2 : (k : Int) < (xs.length : Int) := by omega
        obtain ⟨b, off, cap', cs, hv, hbl, hcs, hR⟩ := slR_at (slR_below tQuery_law H.out hbel) hlt
        simp only [Value.slice.injEq] at hv
        obtain ⟨rfl, _, rfl⟩ := hv
        generalize xs.getD k tQuery.d = x at *
        obtain ⟨a0, a1, x2, x3⟩ := x
        obtain ⟨v2, v3, hR'⟩ := tQuery_R hR
        obtain ⟨rfl, h2, h3⟩ := hR'
        have p0 : wr.cell? ⟨b, off + k * 4, none⟩ = some (Value.int .i64 a0) := hcs 0 (by decide)
        have p1 : wr.cell? ⟨b, off + k * 4 + 1, none⟩ = some (Value.int .i64 a1) := hcs 1 (by decide)
        have p2 : wr.cell? ⟨b, off + k * 4 + 2, none⟩ = some (v2) := hcs 2 (by decide)
        have p3 : wr.cell? ⟨b, off + k * 4 + 3, none⟩ = some (v3) := hcs 3 (by decide)
        clear hcs
        have HQ : Hid (tQuery.sz (a0, a1, x2, x3) = zL tCond x2 + zL tInt x3) := Lib.hid tQuery_sz
        obtain ⟨_, ⟨_, ⟨o2, o3⟩⟩⟩ := hx
        have hz0 : (0 : Int) ≤ (zTo tQuery xs k : Int) := by omega
        by_cases hg : ((zL tCond x2 + zL tInt x3 : Nat) : Int) ≤ k0 - (zTo tQuery xs k : Int)
        · have hx2 : k0 - (zTo tQuery xs k : Int) ≤ 1048576 := by omega
          have hneg : ¬ k0 - (zTo tQuery xs k : Int) - ((zL tCond x2 + zL tInt x3 : Nat) : Int) < 0 := by omega
          have HC := Lib.hid (fun W b => szQuery_Y a0 a1 v2 v3 x2 x3 (k0 - (zTo tQuery xs k : Int)) W (slR_below tCond_law h2 b) (slR_below tInt_law h3 b) hg hx2)
          go_wp2_with fail
          refine (HC.out _ (Below.refl _ _)).mono ?_
          rintro e w1 ⟨rfl, b1⟩
          have b2 := hbel.trans (b1.mono hbel.size)
          go_wp2
          go_roundw
          case rel => exact ⟨k + 1, by omega, by go_num, by rw [HST.out, HQ.out]; go_num, by rw [HST.out, HQ.out]; omega, b2⟩
          case measure => simp [intOf]; omega
        · have hx1 : k0 - (zTo tQuery xs k : Int) < ((zL tCond x2 + zL tInt x3 : Nat) : Int) := by omega
          have hx0 : 0 ≤ k0 - (zTo tQuery xs k : Int) := by omega
          have hx2 : k0 - (zTo tQuery xs k : Int) ≤ 1048576 := by omega
          have HC := Lib.hid (fun W b => szQuery_N a0 a1 v2 v3 x2 x3 (k0 - (zTo tQuery xs k : Int)) W (slR_below tCond_law h2 b) (slR_below tInt_law h3 b) hx1 hx2 hx0 o2 o3)
          clear hg
          go_wp2_with fail
          refine (HC.out _ (Below.refl _ _)).mono ?_
          rintro e w1 ⟨rfl, b1⟩
          have b2 := hbel.trans (b1.mono hbel.size)
          go_wp2
          go_ret
          exact ⟨rfl, b2⟩
      · obtain rfl : k = xs.length := by omega
        exact absurd HS.out (by show ¬ k0 < ((zTo tQuery xs xs.length : Nat) : Int); omega)
theorem Tryd.info_Query : (Tryd.prog.info? 44).map (fun i => (i.zero, i.size)) = some (some (.agg #[.int .i64 0, .int .i64 0, .slice none 0 0, .slice none 0 0]), 4) := by kernel_rfl
theorem Tryd.bytes_Query : ((Tryd.prog.info? 44).map (fun i => decide (i.bytes ≤ 512))) = some true := by kernel_rfl
theorem tQuery_zero (w : World) : tQuery.O w (fun _ => False) #[.int .i64 0, .int .i64 0, .slice none 0 0, .slice none 0 0].toList tQuery.d := tQuery_mkO (slO_nil _ _ _ (fun _ => False)) (slO_nil _ _ _ (fun _ => False)) (fun b h => h) (fun b h => h) (fun b h _ => h)
set_option maxHeartbeats 8000000 in
set_option maxRecDepth 100000 in
theorem toQueryS_S (v : Value) (xs : List (Int × Int × List (Int × Int × Int) × List Int)) (w : World) (h : SlR tQuery w v xs) (hs : zL tQuery xs ≤ 1048576) :
    Calls Tryd.prog 78 #[v] w (FreshS 44 tQuery w xs) := by
  obtain ⟨i0, hi, hz0, hz1⟩ : ∃ i0, Tryd.prog.info? 44 = some i0 ∧ i0.zero = some (.agg #[.int .i64 0, .int .i64 0, .slice none 0 0, .slice none 0 0]) ∧ i0.size = 4 := by
    have h0 := Tryd.info_Query
    cases q : Tryd.prog.info? 44 with
    | none => rw [q] at h0; simp at h0
    | some i => rw [q] at h0; simp only [Option.map_some, Option.some.injEq, Prod.mk.injEq] at h0; exact ⟨i, rfl, h0.1, h0.2⟩
  have hz2 : i0.bytes ≤ 512 := by
    have h0 := Tryd.bytes_Query
    rw [hi] at h0
    simpa using h0
  have HI := Lib.hid hi; have HZ0 := Lib.hid hz0; have HZ1 := Lib.hid hz1; have HZ2 := Lib.hid hz2
  clear hi hz0 hz1 hz2
  have H := Lib.hid h
  have hlen := zL_len hs
  have HS := Lib.hid hs
  obtain ⟨a, cap, rfl⟩ := slR_len h
  clear h hs
  go_enter Tryd.func78, Tryd.ntmps78
  go_wp2_with (at_make; refine wpList_make_full _ rfl (.tmp 6) (.tmp 6) 24 rfl w.heap.size 44 i0 (.agg #[.int .i64 0, .int .i64 0, .slice none 0 0, .slice none 0 0]) 4 Tryd.underlying24 HI.out HZ0.out HZ1.out _ _ _ _ xs.length rfl rfl rfl rfl (by have h9 := Nat.mul_le_mul HZ2.out hlen; have h8 := Nat.mul_le_mul hlen HZ2.out; omega) (by unfold maxLen; omega) (Nat.le_refl _) ?_)
  intro w1 hown0 hg0
  have hown1 : SlO 44 tQuery w1 (since w) (.slice (some ⟨w.heap.size, 0, none⟩) xs.length xs.length) (List.replicate xs.length tQuery.d) := slO_made (z := #[.int .i64 0, .int .i64 0, .slice none 0 0, .slice none 0 0]) tQuery_law rfl (tQuery_zero w1) (Nat.le_refl _) hown0
  have hbel1 := (Below.refl w.heap.size w).grown hg0 (Nat.le_refl _) (fun k hk => by cases hk)
  clear hown0 hg0
  go_wp2
  go_loopw [4] (fun i wr => ∃ k : Nat, k ≤ xs.length ∧ i = .int .i64 k ∧ SlO 44 tQuery wr (since w) (.slice (some ⟨w.heap.size, 0, none⟩) xs.length xs.length) (xs.take k ++ List.replicate (xs.length - k) tQuery.d) ∧ Below w.heap.size w wr) (fun i _ => xs.length - (intOf i).toNat)
  case atStart => exact ⟨0, Nat.zero_le _, rfl, by simpa using hown1, hbel1⟩
  case round =>
    obtain ⟨k, hk, rfl, hown, hbel⟩ := hrel
    by_cases hlt : k < xs.length
    · have HSET := Lib.hid (cTo_step (d := tQuery.d) hlt)
      have HKL : Hid (k < (xs.take k ++ List.replicate (xs.length - k) tQuery.d).length) := Lib.hid (by rw [cTo_len hk]; exact hlt)
      have HLL := Lib.hid (cTo_len (d := tQuery.d) hk)
      have i1 : (0 : Int) ≤ (k : Int) := by omega
      have i2 : (k : Int) < (xs.length : Int) := by omega
      have hzx := zL_at HS.out hlt
      obtain ⟨b, off, cap', cs, hv, hbl, hcs, hR⟩ := slR_at (slR_below tQuery_law H.out hbel) hlt
      simp only [Value.slice.injEq] at hv
      obtain ⟨rfl, _, rfl⟩ := hv
      obtain ⟨hme, hFg, hgl, cj, Fj, Lc, hrow, hLc, hO, hFj, hput⟩ := slO_open tQuery_law hown HKL.out
      clear hme
      clear hown1 hbel1
      generalize xs.getD k tQuery.d = x at *
      generalize xs.take k ++ List.replicate (xs.length - k) tQuery.d = ys at *
      obtain ⟨a0, a1, x2, x3⟩ := x
      obtain ⟨v2, v3, hR'⟩ := tQuery_R hR
      obtain ⟨rfl, h2, h3⟩ := hR'
      have p0 : wr.cell? ⟨b, off + k * 4, none⟩ = some (Value.int .i64 a0) := hcs 0 (by decide)
      have p1 : wr.cell? ⟨b, off + k * 4 + 1, none⟩ = some (Value.int .i64 a1) := hcs 1 (by decide)
      have p2 : wr.cell? ⟨b, off + k * 4 + 2, none⟩ = some (v2) := hcs 2 (by decide)
      have p3 : wr.cell? ⟨b, off + k * 4 + 3, none⟩ = some (v3) := hcs 3 (by decide)
      rw [tQuery_sz] at hzx
      have S2 := Lib.hid (show zL tCond x2 ≤ 1048576 by omega)
      have S3 := Lib.hid (show zL tInt x3 ≤ 1048576 by omega)
      have HC := Lib.hid (fun w g2 g3 => toQuery_T a0 a1 v2 v3 x2 x3 w g2 g3 S2.out S3.out)
      have G2 := Lib.hid h2
      have G3 := Lib.hid h3
      clear hcs hzx h2 h3
      go_wp2_with fail
      refine (HC.out _ G2.out G3.out).mono ?_
      rintro e w2 ⟨cv, rfl, ow, b2⟩
      replace ow := tQuery_law.lt ow
      have ow2 := ow
      obtain ⟨u2, u3, K2, K3, rfl, o2, o3, _, _, _⟩ := tQuery_O ow2
      obtain ⟨ua2, uc2, rfl⟩ := slO_len o2
      obtain ⟨ua3, uc3, rfl⟩ := slO_len o3
      clear o2 o3
      have r0 := row_turn (G := fun _ => False) hrow (turn_below b2) (fun _ _ => not_false)
      rw [HLL.out] at r0
      have q0 : ∃ x, w2.cell? ⟨w.heap.size, k * 4, none⟩ = some x := ⟨_, (World.ownsRow.cellAt r0 (k * 4) (by have := HKL.out; rw [HLL.out] at this; show _ < xs.length * 4; omega)).trans (List.getElem?_eq_getElem (by have h1 : Lc.length = xs.length * 4 := r0.1; omega))⟩
      obtain ⟨y0, q0⟩ := q0
      have f0 := World.ownsRow.frozenAt r0 (k * 4)
      have q1 : ∃ x, w2.cell? ⟨w.heap.size, k * 4 + 1, none⟩ = some x := ⟨_, (World.ownsRow.cellAt r0 (k * 4 + 1) (by have := HKL.out; rw [HLL.out] at this; show _ < xs.length * 4; omega)).trans (List.getElem?_eq_getElem (by have h1 : Lc.length = xs.length * 4 := r0.1; omega))⟩
      obtain ⟨y1, q1⟩ := q1
      have f1 := World.ownsRow.frozenAt r0 (k * 4 + 1)
      have q2 : ∃ x, w2.cell? ⟨w.heap.size, k * 4 + 2, none⟩ = some x := ⟨_, (World.ownsRow.cellAt r0 (k * 4 + 2) (by have := HKL.out; rw [HLL.out] at this; show _ < xs.length * 4; omega)).trans (List.getElem?_eq_getElem (by have h1 : Lc.length = xs.length * 4 := r0.1; omega))⟩
      obtain ⟨y2, q2⟩ := q2
      have f2 := World.ownsRow.frozenAt r0 (k * 4 + 2)
      have q3 : ∃ x, w2.cell? ⟨w.heap.size, k * 4 + 3, none⟩ = some x := ⟨_, (World.ownsRow.cellAt r0 (k * 4 + 3) (by have := HKL.out; rw [HLL.out] at this; show _ < xs.length * 4; omega)).trans (List.getElem?_eq_getElem (by have h1 : Lc.length = xs.length * 4 := r0.1; omega))⟩
      obtain ⟨y3, q3⟩ := q3
      have f3 := World.ownsRow.frozenAt r0 (k * 4 + 3)
      have b3 := hbel.trans (b2.mono hbel.size)
      have B3 := Lib.hid ((((b3.setCell (p := ⟨w.heap.size, k * 4, none⟩) (Nat.le_refl _) (.int .i64 a0)).setCell (p := ⟨w.heap.size, k * 4 + 1, none⟩) (Nat.le_refl _) (.int .i64 a1)).setCell (p := ⟨w.heap.size, k * 4 + 2, none⟩) (Nat.le_refl _) (.slice ua2 x2.length uc2)).setCell (p := ⟨w.heap.size, k * 4 + 3, none⟩) (Nat.le_refl _) (.slice ua3 x3.length uc3))
      have hT : Turn (fun b => b = w.heap.size ∨ Fj b ∨ wr.heap.size ≤ b) wr ((((w2.setCell ⟨w.heap.size, k * 4, none⟩ (.int .i64 a0)).setCell ⟨w.heap.size, k * 4 + 1, none⟩ (.int .i64 a1)).setCell ⟨w.heap.size, k * 4 + 2, none⟩ (.slice ua2 x2.length uc2)).setCell ⟨w.heap.size, k * 4 + 3, none⟩ (.slice ua3 x3.length uc3)) := (((((turn_below b2).trans (turn_set (j := k * 4) (u := .int .i64 a0) (Or.inl rfl))).trans (turn_set (j := k * 4 + 1) (u := .int .i64 a1) (Or.inl rfl))).trans (turn_set (j := k * 4 + 2) (u := .slice ua2 x2.length uc2) (Or.inl rfl))).trans (turn_set (j := k * 4 + 3) (u := .slice ua3 x3.length uc3) (Or.inl rfl)))
      have hT2 : Turn (fun b => b = w.heap.size) w2 ((((w2.setCell ⟨w.heap.size, k * 4, none⟩ (.int .i64 a0)).setCell ⟨w.heap.size, k * 4 + 1, none⟩ (.int .i64 a1)).setCell ⟨w.heap.size, k * 4 + 2, none⟩ (.slice ua2 x2.length uc2)).setCell ⟨w.heap.size, k * 4 + 3, none⟩ (.slice ua3 x3.length uc3)) := (((((Turn.refl (fun b => b = w.heap.size) _).trans (turn_set (G := fun b => b = w.heap.size) (j := k * 4) (u := .int .i64 a0) rfl)).trans (turn_set (G := fun b => b = w.heap.size) (j := k * 4 + 1) (u := .int .i64 a1) rfl)).trans (turn_set (G := fun b => b = w.heap.size) (j := k * 4 + 2) (u := .slice ua2 x2.length uc2) rfl)).trans (turn_set (G := fun b => b = w.heap.size) (j := k * 4 + 3) (u := .slice ua3 x3.length uc3) rfl))
      have hO2 := tQuery_law.turn ow hT2 (fun b h1 h2 => by have := h1.1; simp only [since] at this; omega)
      have r9 := (World.ownsRow.stored (World.ownsRow.stored (World.ownsRow.stored (World.ownsRow.stored r0 (k * 4) (.int .i64 a0)).1 (k * 4 + 1) (.int .i64 a1)).1 (k * 4 + 2) (.slice ua2 x2.length uc2)).1 (k * 4 + 3) (.slice ua3 x3.length uc3)).1
      have hLl : Lc.length = xs.length * 4 := r0.1
      have hst := Lib.hid (hput ((((w2.setCell ⟨w.heap.size, k * 4, none⟩ (.int .i64 a0)).setCell ⟨w.heap.size, k * 4 + 1, none⟩ (.int .i64 a1)).setCell ⟨w.heap.size, k * 4 + 2, none⟩ (.slice ua2 x2.length uc2)).setCell ⟨w.heap.size, k * 4 + 3, none⟩ (.slice ua3 x3.length uc3)) ((((Lc.set (k * 4) (.int .i64 a0)).set (k * 4 + 1) (.int .i64 a1)).set (k * 4 + 2) (.slice ua2 x2.length uc2)).set (k * 4 + 3) (.slice ua3 x3.length uc3)) [.int .i64 a0, .int .i64 a1, .slice ua2 x2.length uc2, .slice ua3 x3.length uc3] _ (a0, a1, x2, x3) (by rw [HLL.out]; exact r9) (fun p hp => by have hp2 : p < k * 4 ∨ k * 4 + 4 ≤ p := hp; rw [List.getElem?_set_ne (by omega)]; rw [List.getElem?_set_ne (by omega)]; rw [List.getElem?_set_ne (by omega)]; rw [List.getElem?_set_ne (by omega)]) (fun i hi => by have hi' : i < 4 := hi; match i, hi' with | 0, _ => (show (((((Lc.set (k * 4) (.int .i64 a0)).set (k * 4 + 1) (.int .i64 a1)).set (k * 4 + 2) (.slice ua2 x2.length uc2)).set (k * 4 + 3) (.slice ua3 x3.length uc3)))[k * 4]? = _; rw [List.getElem?_set_ne (by omega)]; rw [List.getElem?_set_ne (by omega)]; rw [List.getElem?_set_ne (by omega)]; rw [List.getElem?_set_self (by first | omega | (simp only [List.length_set]; omega))]; rfl) | 1, _ => (show (((((Lc.set (k * 4) (.int .i64 a0)).set (k * 4 + 1) (.int .i64 a1)).set (k * 4 + 2) (.slice ua2 x2.length uc2)).set (k * 4 + 3) (.slice ua3 x3.length uc3)))[k * 4 + 1]? = _; rw [List.getElem?_set_ne (by omega)]; rw [List.getElem?_set_ne (by omega)]; rw [List.getElem?_set_self (by first | omega | (simp only [List.length_set]; omega))]; rfl) | 2, _ => (show (((((Lc.set (k * 4) (.int .i64 a0)).set (k * 4 + 1) (.int .i64 a1)).set (k * 4 + 2) (.slice ua2 x2.length uc2)).set (k * 4 + 3) (.slice ua3 x3.length uc3)))[k * 4 + 2]? = _; rw [List.getElem?_set_ne (by omega)]; rw [List.getElem?_set_self (by first | omega | (simp only [List.length_set]; omega))]; rfl) | 3, _ => (show (((((Lc.set (k * 4) (.int .i64 a0)).set (k * 4 + 1) (.int .i64 a1)).set (k * 4 + 2) (.slice ua2 x2.length uc2)).set (k * 4 + 3) (.slice ua3 x3.length uc3)))[k * 4 + 3]? = _; rw [List.getElem?_set_self (by first | omega | (simp only [List.length_set]; omega))]; rfl)) hO2 (fun b hb => ⟨Nat.le_trans hbel.size hb.1, Or.inr hb.1⟩) hT)
      have hst2 : SlO 44 tQuery ((((w2.setCell ⟨w.heap.size, k * 4, none⟩ (.int .i64 a0)).setCell ⟨w.heap.size, k * 4 + 1, none⟩ (.int .i64 a1)).setCell ⟨w.heap.size, k * 4 + 2, none⟩ (.slice ua2 x2.length uc2)).setCell ⟨w.heap.size, k * 4 + 3, none⟩ (.slice ua3 x3.length uc3)) (since w) (.slice (some ⟨w.heap.size, 0, none⟩) xs.length xs.length) (xs.take (k + 1) ++ List.replicate (xs.length - (k + 1)) tQuery.d) := by have := hst.out; rw [HSET.out] at this; exact this
      have HST := Lib.hid hst2
      clear hst hst2 hT hT2 hO2 r9 r0 hrow hO hput hown hbel b2 ow b3 hLl hLc hFj
      go_wp2
      go_roundw
      case rel => exact ⟨k + 1, by omega, by go_num, HST.out, B3.out⟩
      case measure => simp [intOf]; omega
    · obtain rfl : k = xs.length := by omega
      have HE : Hid (xs.take xs.length ++ List.replicate (xs.length - xs.length) tQuery.d = xs) := Lib.hid (by simp)
      rw [HE.out] at hown
      go_wp2
      go_ret
      exact ⟨_, rfl, hown, hbel⟩
set_option maxHeartbeats 8000000 in
set_option maxRecDepth 100000 in
theorem eqQueryS_S (v u : Value) (xs : List (Int × Int × List (Int × Int × Int) × List Int)) (w : World) (h : SlR tQuery w v xs) (g : SlR tQuery w u xs) (hs : zL tQuery xs ≤ 1048576) :
    Calls Tryd.prog 80 #[v, u] w fun e w' => e = .returned (.bool true) ∧ Below w.heap.size w w' := by
  have H := Lib.hid h
  have G := Lib.hid g
  have HS := Lib.hid hs
  have hlen := zL_len hs
  obtain ⟨a, cap, rfl⟩ := slR_len h
  obtain ⟨a2, cap2, rfl⟩ := slR_len g
  clear h g hs
  go_enter Tryd.func80, Tryd.ntmps80
  go_wp2
  go_loopw [5] (fun i wr => ∃ k : Nat, k ≤ xs.length ∧ i = .int .i64 k ∧ Below w.heap.size w wr) (fun i _ => xs.length - (intOf i).toNat)
  case atStart => exact ⟨0, Nat.zero_le _, rfl, Below.refl _ _⟩
  case round =>
    obtain ⟨k, hk, rfl, hbel⟩ := hrel
    by_cases hlt : k < xs.length
    · obtain ⟨b, off, cap', cs, hv, hbl, hcs, hR⟩ := slR_at (slR_below tQuery_law H.out hbel) hlt
      simp only [Value.slice.injEq] at hv
      obtain ⟨rfl, _, rfl⟩ := hv
      obtain ⟨b2, off2, cap2', ds, hv2, hbl2, hds, hQ⟩ := slR_at (slR_below tQuery_law G.out hbel) hlt
      simp only [Value.slice.injEq] at hv2
      obtain ⟨rfl, _, rfl⟩ := hv2
      have hzx := zL_at HS.out hlt
      have i1 : (0 : Int) ≤ (k : Int) := by omega
      have i2 : (k : Int) < (xs.length : Int) := by omega
      generalize xs.getD k tQuery.d = x at *
      obtain ⟨a0, a1, x2, x3⟩ := x
      obtain ⟨v2, v3, hR'⟩ := tQuery_R hR
      obtain ⟨rfl, h2, h3⟩ := hR'
      obtain ⟨u2, u3, hQ'⟩ := tQuery_R hQ
      obtain ⟨rfl, g2, g3⟩ := hQ'
      rw [tQuery_sz] at hzx
      have S2 := Lib.hid (show zL tCond x2 ≤ 1048576 by omega)
      have S3 := Lib.hid (show zL tInt x3 ≤ 1048576 by omega)
      have p0 : wr.cell? ⟨b, off + k * 4, none⟩ = some (Value.int .i64 a0) := hcs 0 (by decide)
      have q0 : wr.cell? ⟨b2, off2 + k * 4, none⟩ = some (Value.int .i64 a0) := hds 0 (by decide)
      have p1 : wr.cell? ⟨b, off + k * 4 + 1, none⟩ = some (Value.int .i64 a1) := hcs 1 (by decide)
      have q1 : wr.cell? ⟨b2, off2 + k * 4 + 1, none⟩ = some (Value.int .i64 a1) := hds 1 (by decide)
      have p2 : wr.cell? ⟨b, off + k * 4 + 2, none⟩ = some (v2) := hcs 2 (by decide)
      have q2 : wr.cell? ⟨b2, off2 + k * 4 + 2, none⟩ = some (u2) := hds 2 (by decide)
      have p3 : wr.cell? ⟨b, off + k * 4 + 3, none⟩ = some (v3) := hcs 3 (by decide)
      have q3 : wr.cell? ⟨b2, off2 + k * 4 + 3, none⟩ = some (u3) := hds 3 (by decide)
      clear hcs hds hzx
      go_wp2
      go_region_with (first | (go_at_call 126; refine (eqQuery_T a0 a1 v2 v3 x2 x3 u2 u3 _ (by exact slR_same tCond_law h2 rfl rfl rfl rfl) (by exact slR_same tInt_law h3 rfl rfl rfl rfl) (by exact slR_same tCond_law g2 rfl rfl rfl rfl) (by exact slR_same tInt_law g3 rfl rfl rfl rfl) S2.out S3.out).mono ?_; rintro e w8 ⟨rfl, b9⟩; have b10 : Below wr.heap.size wr w8 := ⟨b9.os, b9.tape, b9.output, b9.size, b9.block⟩))
      all_goals
        have b11 := hbel.trans (b10.mono hbel.size)
        go_wp2
        go_roundw
        case rel => exact ⟨k + 1, by omega, by go_num, b11⟩
        case measure => simp [intOf]; omega
    · go_wp2
      go_ret
      exact ⟨rfl, hbel⟩
set_option maxHeartbeats 8000000 in
set_option maxRecDepth 100000 in
theorem markQueryS_S (v : Value) (xs : List (Int × Int × List (Int × Int × Int) × List Int)) (F : Nat → Prop) (k : Int) (w : World) (h : SlO 44 tQuery w F v xs) (hs : zL tQuery xs ≤ 1048576) (k0 : 0 ≤ k) (k1 : k ≤ 939524096) :
    Calls Tryd.prog 82 #[v, .int .i64 k] w fun e w' => e = .returned (.int .i64 (k + (ndL tQuery xs : Int))) ∧ SlO 44 tQuery w' F v (mAll tQuery xs k) ∧ Turn F w w' := by
  rw [← kAt_all]
  have HS := Lib.hid hs
  have hlen := zL_len hs
  rcases slO_form h with ⟨rfl, rfl⟩ | ⟨g, cap, rfl, hFg, hgw⟩
  · have H := Lib.hid h
    clear h hs
    go_enter Tryd.func82, Tryd.ntmps82
    go_wp2
    go_loop [1, 5] (fun m i => i = .int .i64 0 ∧ m = .int .i64 k) (fun _ _ => 0)
    case atStart => exact ⟨rfl, rfl⟩
    case round =>
      obtain ⟨rfl, rfl⟩ := hrel
      go_wp2
      go_ret
      exact ⟨by simp [kAt, sumN], by rw [show mAll tQuery [] k = [] from rfl]; exact H.out, Turn.refl _ _⟩
  · have H := Lib.hid h
    clear h hs
    go_enter Tryd.func82, Tryd.ntmps82
    go_wp2
    go_loopw [1, 5] (fun m i wr => ∃ j : Nat, j ≤ xs.length ∧ i = .int .i64 j ∧ m = .int .i64 (kAt tQuery xs k j) ∧ SlO 44 tQuery wr (fun b => F b ∧ b < w.heap.size) (.slice (some ⟨g, 0, none⟩) xs.length cap) (mTo tQuery xs k j) ∧ Turn F w wr) (fun _ i _ => xs.length - (intOf i).toNat)
    case atStart => exact ⟨0, Nat.zero_le _, rfl, by rw [kAt_zero], by rw [mTo_zero]; exact slO_lt tQuery_law H.out, Turn.refl _ _⟩
    case round =>
      obtain ⟨j, hj, rfl, rfl, hown, hon⟩ := hrel
      by_cases hlt : j < xs.length
      · have i1 : (0 : Int) ≤ (j : Int) := by omega
        have i2 : (j : Int) < (xs.length : Int) := by omega
        have hjl : j < (mTo tQuery xs k j).length := by rw [mTo_len hj]; exact hlt
        have HLL := Lib.hid (mTo_len (T := tQuery) (k := k) hj)
        obtain ⟨r1, r2⟩ := kAt_range tQuery_law (by decide) (k := k) HS.out hj
        obtain ⟨r3, r4⟩ := kAt_range tQuery_law (by decide) (k := k) (j := j + 1) HS.out (by omega)
        have hzx := zL_at HS.out hlt
        have hstep := kAt_step (T := tQuery) (k := k) hlt
        have hset := mTo_step (T := tQuery) (k := k) hlt
        have hsz := hon.size
        obtain ⟨hme, hFg2, hgl, cj, Fj, Lc, hrow, hLc, hO, hFj, hput⟩ := slO_open tQuery_law hown hjl
        clear hme hFg2
        rw [mTo_at hlt] at hO
        have HM : Hid (∃ m', kAt tQuery xs k (j + 1) = m') := Lib.hid ⟨_, rfl⟩
        obtain ⟨m', hm'⟩ := HM.out
        rw [hm'] at hstep r3 r4
        have HM' := Lib.hid hm'
        clear hm' HM H hown hjl
        generalize kAt tQuery xs k j = m at *
        generalize xs.getD j tQuery.d = x at *
        rw [HLL.out] at hrow hput
        obtain ⟨a0, a1, x2, x3⟩ := x
        rw [tQuery_md] at hset
        rw [tQuery_nd] at hstep
        rw [tQuery_sz] at hzx
        obtain ⟨v2, v3, K2, K3, rfl, o2, o3, q2, q3, d2_3⟩ := tQuery_O hO
        have S2 := Lib.hid (show zL tCond x2 ≤ 1048576 by omega)
        have N2 := ndL_le tCond_law (by decide) x2
        have S3 := Lib.hid (show zL tInt x3 ≤ 1048576 by omega)
        have N3 := ndL_le tInt_law (by decide) x3
        have R2 : Hid (0 ≤ m + 1 + 1 ∧ m + 1 + 1 ≤ 1006632960) := Lib.hid (by omega)
        have R3 : Hid (0 ≤ m + 1 + 1 + (ndL tCond x2 : Int) ∧ m + 1 + 1 + (ndL tCond x2 : Int) ≤ 1073741824) := Lib.hid (by omega)
        have hmm : m + 1 + 1 + (ndL tCond x2 : Int) + (ndL tInt x3 : Int) = m' := by omega
        have HMM := Lib.hid hmm
        have hm0 : 0 ≤ m := by omega
        have hm1 : m ≤ 1073741824 := by omega
        clear hmm hstep hzx N2 N3
        have hLl : Lc.length = xs.length * 4 := hrow.1
        have HSET := Lib.hid hset
        clear hset
        have tt : Turn (fun b => b = g ∨ Fj b ∨ wr.heap.size ≤ b) wr wr := Turn.refl _ _
        have rr := hrow
        have c0 : ∃ x, wr.cell? ⟨g, j * 4, none⟩ = some x := ⟨_, (World.ownsRow.cellAt rr (j * 4) (by show j * 4 < xs.length * 4; omega)).trans (List.getElem?_eq_getElem (by have h9 := rr.1; have h8 : xs.length * tQuery.n = xs.length * 4 := rfl; omega))⟩
        obtain ⟨y0, c0⟩ := c0
        have f0 := World.ownsRow.frozenAt rr (j * 4)
        have c1 : ∃ x, wr.cell? ⟨g, j * 4 + 1, none⟩ = some x := ⟨_, (World.ownsRow.cellAt rr (j * 4 + 1) (by show j * 4 + 1 < xs.length * 4; omega)).trans (List.getElem?_eq_getElem (by have h9 := rr.1; have h8 : xs.length * tQuery.n = xs.length * 4 := rfl; omega))⟩
        obtain ⟨y1, c1⟩ := c1
        have f1 := World.ownsRow.frozenAt rr (j * 4 + 1)
        have cv2 : wr.cell? ⟨g, j * 4 + 2, none⟩ = some v2 := (World.ownsRow.cellAt rr (j * 4 + 2) (by show j * 4 + 2 < xs.length * 4; omega)).trans (by exact hLc 2 (by decide))
        go_wp2_with fail
        clear c0 f0 c1 f1 cv2
        have ts : Turn (fun b => b = g) wr ((wr.setCell ⟨g, j * 4, none⟩ (.int .i64 (m))).setCell ⟨g, j * 4 + 1, none⟩ (.int .i64 (m + 1))) := (((Turn.refl (fun b => b = g) _).trans (turn_set (G := fun b => b = g) (g := g) (j := j * 4) (u := .int .i64 (m)) rfl)).trans (turn_set (G := fun b => b = g) (g := g) (j := j * 4 + 1) (u := .int .i64 (m + 1)) rfl))
        replace rr := (World.ownsRow.stored (World.ownsRow.stored rr (j * 4) (.int .i64 (m))).1 (j * 4 + 1) (.int .i64 (m + 1))).1
        replace o2 := slO_turn tCond_law o2 ts (fun b h1 h2 => (hFj b (q2 b h1)).2.1 h2)
        replace o3 := slO_turn tInt_law o3 ts (fun b h1 h2 => (hFj b (q3 b h1)).2.1 h2)
        replace tt := tt.trans (ts.mono (fun b h => Or.inl h))
        clear ts
        generalize ((wr.setCell ⟨g, j * 4, none⟩ (.int .i64 (m))).setCell ⟨g, j * 4 + 1, none⟩ (.int .i64 (m + 1))) = W0 at *
        refine (markCondS_S v2 x2 _ (m + 1 + 1) W0 o2 S2.out R2.out.1 (by have := R2.out.2; omega)).mono ?_
        rintro e w1 ⟨rfl, m2, t1⟩
        replace rr := row_turn rr t1 (fun b hb h => by simp [Value.ownBlock] at hb; exact (hFj b (q2 b h)).2.1 hb.symm)
        replace o2 := m2
        replace o3 := slO_turn tInt_law o3 t1 (fun b h1 h2 => d2_3 b h2 h1)
        replace tt := tt.trans (t1.mono (fun b h => Or.inr (Or.inl (q2 b h))))
        clear t1
        have cv3 : w1.cell? ⟨g, j * 4 + 3, none⟩ = some v3 := (World.ownsRow.cellAt rr (j * 4 + 3) (by show j * 4 + 3 < xs.length * 4; omega)).trans (by rw [List.getElem?_set_ne (by omega)]; rw [List.getElem?_set_ne (by omega)]; exact hLc 3 (by decide))
        go_wp2_with fail
        clear cv3
        refine (markIntS_S v3 x3 _ (m + 1 + 1 + (ndL tCond x2 : Int)) w1 o3 S3.out R3.out.1 (by have := R3.out.2; omega)).mono ?_
        rintro e w2 ⟨rfl, m3, t1⟩
        replace rr := row_turn rr t1 (fun b hb h => by simp [Value.ownBlock] at hb; exact (hFj b (q3 b h)).2.1 hb.symm)
        replace o2 := slO_turn tCond_law o2 t1 (fun b h1 h2 => d2_3 b h1 h2)
        replace o3 := m3
        replace tt := tt.trans (t1.mono (fun b h => Or.inr (Or.inl (q3 b h))))
        clear t1
        have hO2 := tQuery_mkO (F := Fj) (a0 := m) (a1 := m + 1) o2 o3 q2 q3 d2_3
        have hst := hput w2 ((Lc.set (j * 4) (.int .i64 (m))).set (j * 4 + 1) (.int .i64 (m + 1))) [.int .i64 (m), .int .i64 (m + 1), v2, v3] Fj _ rr (fun p hp => by have hp2 : p < j * 4 ∨ j * 4 + 4 ≤ p := hp; rw [List.getElem?_set_ne (by omega)]; rw [List.getElem?_set_ne (by omega)]) (fun i hi => by have hi' : i < 4 := hi; match i, hi' with | 0, _ => (show (((Lc.set (j * 4) (.int .i64 (m))).set (j * 4 + 1) (.int .i64 (m + 1))))[j * 4]? = _; rw [List.getElem?_set_ne (by omega)]; rw [List.getElem?_set_self (by first | omega | (simp only [List.length_set]; omega))]; rfl) | 1, _ => (show (((Lc.set (j * 4) (.int .i64 (m))).set (j * 4 + 1) (.int .i64 (m + 1))))[j * 4 + 1]? = _; rw [List.getElem?_set_self (by first | omega | (simp only [List.length_set]; omega))]; rfl) | 2, _ => (show (((Lc.set (j * 4) (.int .i64 (m))).set (j * 4 + 1) (.int .i64 (m + 1))))[j * 4 + 2]? = _; rw [List.getElem?_set_ne (by omega)]; rw [List.getElem?_set_ne (by omega)]; exact hLc 2 (by decide)) | 3, _ => (show (((Lc.set (j * 4) (.int .i64 (m))).set (j * 4 + 1) (.int .i64 (m + 1))))[j * 4 + 3]? = _; rw [List.getElem?_set_ne (by omega)]; rw [List.getElem?_set_ne (by omega)]; exact hLc 3 (by decide))) hO2 (fun b hb => ⟨(hFj b hb).1, Or.inl hb⟩) tt
        rw [HSET.out] at hst
        have HST := Lib.hid hst
        have hon2 := hon.trans (Turn.mono (G := fun b => F b ∧ b < w.heap.size) (G' := F) ⟨tt.os, tt.tape, tt.output, tt.size, fun b hb hn => tt.block b hb (fun h => hn (h.elim (fun h => by rw [h]; exact ⟨hFg, hgw⟩) (fun h => h.elim (fun h => (hFj b h).1) (fun h => absurd hb (Nat.not_lt.2 h)))))⟩ (fun b h => h.1))
        clear hst hput tt rr hO2 hon hFj hLc hLl o2 o3
        rw [HMM.out]
        go_wp2
        go_roundw
        case rel => exact ⟨j + 1, by omega, by go_num, by rw [HM'.out], HST.out, hon2⟩
        case measure => simp [intOf]; omega
      · obtain rfl : j = xs.length := by omega
        rw [mTo_all] at hown
        go_wp2
        go_ret
        exact ⟨rfl, slO_mono hown (fun b h => h.1), hon⟩
end Go.Proofs.YtidhmgboknffkaaDoor
namespace Go.Proofs.YtidhmgboknffkaaDoor
open Go.RowKit
set_option linter.unusedVariables false
set_option linter.unusedSimpArgs false
theorem slR_conds {w : World} {v : Value} {cs : List CondD} (h : SlR tCond w v cs) : CondsR w v cs := by
  rcases h with h | ⟨b, off, cap, us, h1, h2, h3, h4⟩
  · exact Or.inl h
  · refine Or.inr ⟨b, off, cap, h1, h2, h3, fun j hj => ?_⟩
    obtain ⟨hc, hR⟩ := h4 j hj
    have e := tCond_R (a0 := (cs.getD j (0, 0, 0)).1) (a1 := (cs.getD j (0, 0, 0)).2.1) (a2 := (cs.getD j (0, 0, 0)).2.2) hR
    have c0 := hc 0 (by decide); have c1 := hc 1 (by decide); have c2 := hc 2 (by decide)
    simp only [e] at c0 c1 c2
    exact ⟨c0, c1, c2⟩
theorem zL_conds (cs : List CondD) : zL tCond cs = cs.length := zL_flat (fun _ => rfl) cs
theorem slR_queries {w : World} {v : Value} {qs : List QD} (h : SlR tQuery w v qs) : QueriesR w v qs := by
  rcases h with h | ⟨b, off, cap, us, h1, h2, h3, h4⟩
  · exact Or.inl h
  · refine Or.inr ⟨b, off, cap, fun j => (us j).getD 2 (.slice none 0 0), fun j => (us j).getD 3 (.slice none 0 0), h1, h2, h3, fun j hj => ?_⟩
    obtain ⟨hc, hR⟩ := h4 j hj
    obtain ⟨v2, v3, e, g2, g3⟩ := tQuery_R (a0 := (qs.getD j q0D).1) (a1 := (qs.getD j q0D).2.1) (x2 := (qs.getD j q0D).2.2.1) (x3 := (qs.getD j q0D).2.2.2) hR
    have c0 := hc 0 (by decide); have c1 := hc 1 (by decide); have c2 := hc 2 (by decide); have c3 := hc 3 (by decide)
    simp only [e] at c0 c1 c2 c3 ⊢
    exact ⟨c0, c1, c2, c3, slR_conds g2, slR_ints g3⟩
theorem zL_queries (qs : List QD) : zL tQuery qs = szQL qs := by
  have hf : tQuery.sz = fun q : QD => q.2.2.1.length + q.2.2.2.length := by
    funext q; obtain ⟨a, b, x, y⟩ := q; rw [tQuery_sz, zL_ints, zL_conds]
  unfold zL zTo szQL szQTo sumN
  rw [hf]
end Go.Proofs.YtidhmgboknffkaaDoor
namespace Go.Proofs.YtidhmgboknffkaaDoor
open Go.RowKit
set_option linter.unusedVariables false
theorem Tryd.infoSpan : (Tryd.prog.info? 83).map (fun i => (i.zero, i.size)) = some (some (.agg #[.int .i64 0, .int .i64 0, .slice none 0 0]), 3) := by kernel_rfl
theorem span_bytes : (Tryd.prog.info? 83).map (fun i => i.bytes) = some 40 := by kernel_rfl
/-- The slice v owns the spans rs, in blocks from B on, each block once. -/
def OwnsP (w : World) (B : Nat) (v : Value) (rs : List SpanD) : Prop :=
  ∃ (cs : List Value) (vs : Nat → Value), w.ownsRow B 83 3 v rs.length cs ∧
    (∀ j, j < rs.length → cs[j * 3]? = some (.int .i64 (rs.getD j p0D).1) ∧ cs[j * 3 + 1]? = some (.int .i64 (rs.getD j p0D).2.1) ∧ cs[j * 3 + 2]? = some (vs j) ∧ OwnsN w B (vs j) (rs.getD j p0D).2.2 ∧ ∀ b, (vs j).ownBlock = some b → v.ownBlock ≠ some b) ∧
    ∀ i j, i < rs.length → j < rs.length → i ≠ j → ∀ b, (vs i).ownBlock = some b → (vs j).ownBlock ≠ some b
theorem ownsP_len {w : World} {B : Nat} {v : Value} {rs : List SpanD} (h : OwnsP w B v rs) : ∃ a cap, v = .slice a rs.length cap := by
  obtain ⟨cs, vs, h1, _⟩ := h
  rcases h1.2 with ⟨rfl, h0⟩ | ⟨g, cap, cur, rfl, _⟩
  · exact ⟨none, 0, by rw [h0]⟩
  · exact ⟨_, cap, rfl⟩
theorem ownsP_spans {w : World} {B : Nat} {v : Value} {rs : List SpanD} (h : OwnsP w B v rs) : SpansR w v rs := by
  obtain ⟨cs, vs, h1, h2, _⟩ := h
  have h1' := h1
  rcases h1.2 with ⟨rfl, h0⟩ | ⟨g, cap, cur, rfl, hb, hg, hn, hm, hcs, htake⟩
  · exact Or.inl ⟨List.eq_nil_of_length_eq_zero h0, none, 0, rfl⟩
  · refine Or.inr ⟨g, 0, cap, vs, rfl, hn, (Array.getElem?_eq_some_iff.1 hg).1, fun j hj => ?_⟩
    obtain ⟨g1, g2, g3, g4, _⟩ := h2 j hj
    refine ⟨?_, ?_, ?_, ownsN_ints g4⟩
    · rw [Nat.zero_add, World.ownsRow.cellAt h1' (j * 3) (by omega)]; exact g1
    · rw [Nat.zero_add, World.ownsRow.cellAt h1' (j * 3 + 1) (by omega)]; exact g2
    · rw [Nat.zero_add, World.ownsRow.cellAt h1' (j * 3 + 2) (by omega)]; exact g3
theorem ownsP_below {w w' : World} {B : Nat} {v : Value} {rs : List SpanD} (h : OwnsP w B v rs) (hb : Below w.heap.size w w') : OwnsP w' B v rs := by
  obtain ⟨cs, vs, h1, h2, h3⟩ := h
  exact ⟨cs, vs, ownsRow_below h1 hb, fun j hj => ⟨(h2 j hj).1, (h2 j hj).2.1, (h2 j hj).2.2.1, ownsN_below (h2 j hj).2.2.2.1 hb, (h2 j hj).2.2.2.2⟩, h3⟩
theorem ownsP_up {w : World} {B C : Nat} {v : Value} {rs : List SpanD} (h : OwnsP w C v rs) (hb : B ≤ C) : OwnsP w B v rs := by
  obtain ⟨cs, vs, h1, h2, h3⟩ := h
  refine ⟨cs, vs, ⟨h1.1, ?_⟩, fun j hj => ⟨(h2 j hj).1, (h2 j hj).2.1, (h2 j hj).2.2.1, ownsN_up (h2 j hj).2.2.2.1 hb, (h2 j hj).2.2.2.2⟩, h3⟩
  rcases h1.2 with hn | ⟨g, cap, cur, e, hb', rest⟩
  · exact .inl hn
  · exact .inr ⟨g, cap, cur, e, Nat.le_trans hb hb', rest⟩
end Go.Proofs.YtidhmgboknffkaaDoor
namespace Go.Proofs.YtidhmgboknffkaaDoor
open Go.RowKit
set_option linter.unusedVariables false
set_option linter.unusedSimpArgs false
theorem slR_spans {w : World} {v : Value} {rs : List SpanD} (h : SlR tSpan w v rs) : SpansR w v rs := by
  rcases h with h | ⟨b, off, cap, us, h1, h2, h3, h4⟩
  · exact Or.inl h
  · refine Or.inr ⟨b, off, cap, fun j => (us j).getD 2 (.slice none 0 0), h1, h2, h3, fun j hj => ?_⟩
    obtain ⟨hc, hR⟩ := h4 j hj
    obtain ⟨v2, e, g2⟩ := tSpan_R (a0 := (rs.getD j p0D).1) (a1 := (rs.getD j p0D).2.1) (x2 := (rs.getD j p0D).2.2) hR
    have c0 := hc 0 (by decide); have c1 := hc 1 (by decide); have c2 := hc 2 (by decide)
    simp only [e] at c0 c1 c2 ⊢
    exact ⟨c0, c1, c2, slR_ints g2⟩
theorem zL_spans (rs : List SpanD) : zL tSpan rs = zpL rs := by
  have hf : tSpan.sz = fun r : SpanD => r.2.2.length := by
    funext r; obtain ⟨a, b, x⟩ := r; rw [tSpan_sz, zL_ints]
  unfold zL zTo zpL zpTo sumN
  rw [hf]
theorem ownsP_slO {w : World} {B : Nat} {F : Nat → Prop} {v : Value} {rs : List SpanD} (h : OwnsP w B v rs) (hF : ∀ b, B ≤ b → F b) : SlO 83 tSpan w F v rs := by
  obtain ⟨cs, vs, h1, h2, h3⟩ := h
  refine ⟨cs, fun j => [.int .i64 (rs.getD j p0D).1, .int .i64 (rs.getD j p0D).2.1, vs j], fun j b => (vs j).ownBlock = some b, row_low h1 (Nat.zero_le _), fun b hb => hF b (h1.lt b hb).1, fun j hj => ?_, fun i j hi hj hij b hb hc => h3 i j hi hj hij b hb hc⟩
  obtain ⟨g0, g1, g2, g3, g4⟩ := h2 j hj
  refine ⟨fun i hi => ?_, tSpan_mkO (own_slO g3 (fun b hb => hb)) (fun b hb => hb), fun b hb => ⟨hF b (g3.lt b hb).1, g4 b hb⟩⟩
  have hi' : i < 3 := hi
  exact (match i, hi' with | 0, _ => g0 | 1, _ => g1 | 2, _ => g2)
theorem fresh_spans {w w' : World} {v : Value} {rs : List SpanD} (h : OwnsP w' w.heap.size v rs) : SlO 83 tSpan w' (since w) v rs := ownsP_slO h (fun b hb => hb)
end Go.Proofs.YtidhmgboknffkaaDoor
namespace Go.Proofs.YtidhmgboknffkaaDoor
open Go.RowKit
set_option linter.unusedVariables false
set_option linter.unusedSimpArgs false
theorem box_cells4 {W w : World} {t : TypeId} {x y z u : Value} {b : Nat} (h : W.heap[b]? = some (.cells #[x, y, z, u] t (0, 0))) (hb : Below W.heap.size W w) :
    w.cell? ⟨b, 0, none⟩ = some x ∧ w.cell? ⟨b, 1, none⟩ = some y ∧ w.cell? ⟨b, 2, none⟩ = some z ∧ w.cell? ⟨b, 3, none⟩ = some u := by
  have hlt := (Array.getElem?_eq_some_iff.1 h).1
  have h' := (hb.block b hlt).trans h
  exact ⟨(cell_of_row w b 0 _ _ _ h').trans rfl, (cell_of_row w b 1 _ _ _ h').trans rfl, (cell_of_row w b 2 _ _ _ h').trans rfl, (cell_of_row w b 3 _ _ _ h').trans rfl⟩
theorem isField_yes (n : Int) (w : World) (h1 : 0 ≤ n) (h2 : n < 3) : Calls Tryd.prog 85 #[.int .i64 n] w fun e w' => e = .returned (.bool true) ∧ w' = w := by
  go_enter Tryd.func85, Tryd.ntmps85
  go_wp2
  go_ret
  exact ⟨rfl, rfl⟩
theorem isField_no (n : Int) (w : World) (h : ¬ (0 ≤ n ∧ n < 3)) : Calls Tryd.prog 85 #[.int .i64 n] w fun e w' => e = .returned (.bool false) ∧ w' = w := by
  by_cases h1 : 0 ≤ n
  · have h2 : ¬ n < 3 := fun g => h ⟨h1, g⟩
    clear h
    go_enter Tryd.func85, Tryd.ntmps85
    go_wp2
    go_ret
    exact ⟨rfl, rfl⟩
  · clear h
    go_enter Tryd.func85, Tryd.ntmps85
    go_wp2
    go_ret
    exact ⟨rfl, rfl⟩
theorem isTenant_yes (n : Int) (w : World) (h1 : 0 ≤ n) (h2 : n < 4) : Calls Tryd.prog 148 #[.int .i64 n] w fun e w' => e = .returned (.bool true) ∧ w' = w := by
  go_enter Tryd.func148, Tryd.ntmps148
  go_wp2
  go_ret
  exact ⟨rfl, rfl⟩
theorem isTenant_no (n : Int) (w : World) (h : ¬ (0 ≤ n ∧ n < 4)) : Calls Tryd.prog 148 #[.int .i64 n] w fun e w' => e = .returned (.bool false) ∧ w' = w := by
  by_cases h1 : 0 ≤ n
  · have h2 : ¬ n < 4 := fun g => h ⟨h1, g⟩
    clear h
    go_enter Tryd.func148, Tryd.ntmps148
    go_wp2
    go_ret
    exact ⟨rfl, rfl⟩
  · clear h
    go_enter Tryd.func148, Tryd.ntmps148
    go_wp2
    go_ret
    exact ⟨rfl, rfl⟩
theorem isQNum_yes (n : Int) (w : World) (h1 : 0 ≤ n) (h2 : n < 24) : Calls Tryd.prog 147 #[.int .i64 n] w fun e w' => e = .returned (.bool true) ∧ w' = w := by
  go_enter Tryd.func147, Tryd.ntmps147
  go_wp2
  go_ret
  exact ⟨rfl, rfl⟩
theorem isQNum_no (n : Int) (w : World) (h : ¬ (0 ≤ n ∧ n < 24)) : Calls Tryd.prog 147 #[.int .i64 n] w fun e w' => e = .returned (.bool false) ∧ w' = w := by
  by_cases h1 : 0 ≤ n
  · have h2 : ¬ n < 24 := fun g => h ⟨h1, g⟩
    clear h
    go_enter Tryd.func147, Tryd.ntmps147
    go_wp2
    go_ret
    exact ⟨rfl, rfl⟩
  · clear h
    go_enter Tryd.func147, Tryd.ntmps147
    go_wp2
    go_ret
    exact ⟨rfl, rfl⟩
/-- Can a field have the values from l to h? -/
theorem isFieldRange_is (l h : Int) (w : World) : Calls Tryd.prog 133 #[.int .i64 l, .int .i64 h] w fun e w' => e = .returned (.bool (decide (0 ≤ l ∧ l ≤ h) && decide (h ≤ 99))) ∧ w' = w := by
  obtain ⟨r, hr⟩ : ∃ r, (decide (0 ≤ l ∧ l ≤ h) && decide (h ≤ 99)) = r := ⟨_, rfl⟩
  rw [hr]
  by_cases h2 : 0 ≤ l
  · by_cases h3 : l ≤ h
    · by_cases h4 : h ≤ 99
      · have HX := trivial
        have HT : Hid (r = true) := Lib.hid (by rw [← hr, decide_eq_true (And.intro h2 h3), decide_eq_true h4]; rfl)
        clear HX hr
        go_enter Tryd.func133, Tryd.ntmps133
        go_wp2
        go_ret
        exact ⟨ret_b HT.out.symm, rfl⟩
      · have HX := trivial
        have HT : Hid (r = false) := Lib.hid (by rw [← hr, decide_eq_false h4, Bool.and_false])
        clear HX hr
        go_enter Tryd.func133, Tryd.ntmps133
        go_wp2
        go_ret
        exact ⟨ret_b HT.out.symm, rfl⟩
    · have HX := trivial
      have HT : Hid (r = false) := Lib.hid (by rw [← hr, decide_eq_false (fun g => h3 g.2), Bool.false_and])
      clear HX hr
      go_enter Tryd.func133, Tryd.ntmps133
      go_wp2
      go_ret
      exact ⟨ret_b HT.out.symm, rfl⟩
  · have HX := trivial
    have HT : Hid (r = false) := Lib.hid (by rw [← hr, decide_eq_false (fun g => h2 g.1), Bool.false_and])
    clear HX hr
    go_enter Tryd.func133, Tryd.ntmps133
    go_wp2
    go_ret
    exact ⟨ret_b HT.out.symm, rfl⟩
set_option maxHeartbeats 4000000 in
set_option maxRecDepth 100000 in
theorem implIsCond (f l h : Int) (w : World) : Calls Tryd.prog 164 #[condV f l h] w fun e w' => e = .returned (.bool (condB (f, l, h))) ∧ Below w.heap.size w w' := by
  have hb : Below w.heap.size w (w.alloc (.cells #[.int .i64 f, .int .i64 l, .int .i64 h] 115)) := (Below.refl _ w).alloc (Nat.le_refl _) _
  by_cases h1 : 0 ≤ f ∧ f < 3
  · have H1 := Lib.hid (fun w => isField_yes f w h1.1 h1.2)
    have H2 := Lib.hid (fun w => isFieldRange_is l h w)
    have HE : Hid (condB (f, l, h) = (decide (0 ≤ l ∧ l ≤ h) && decide (h ≤ 99))) := Lib.hid (by unfold condB; rw [decide_eq_true (by omega : 0 ≤ f ∧ f ≤ 2), Bool.true_and])
    clear h1
    generalize (decide (0 ≤ l ∧ l ≤ h) && decide (h ≤ 99)) = r at *
    go_enter Tryd.func164, Tryd.ntmps164
    go_wp2_with fail
    refine (H1.out _).mono ?_
    rintro e w1 ⟨rfl, rfl⟩
    go_wp2_with fail
    refine (H2.out _).mono ?_
    rintro e w1 ⟨rfl, rfl⟩
    go_wp2
    go_ret
    exact ⟨ret_b HE.out.symm, hb⟩
  · have H1 := Lib.hid (fun w => isField_no f w h1)
    have HT : Hid (condB (f, l, h) = false) := Lib.hid (by unfold condB; rw [decide_eq_false (by omega : ¬ (0 ≤ f ∧ f ≤ 2)), Bool.false_and])
    clear h1
    go_enter Tryd.func164, Tryd.ntmps164
    go_wp2_with fail
    refine (H1.out _).mono ?_
    rintro e w1 ⟨rfl, rfl⟩
    go_wp2
    go_ret
    exact ⟨ret_b HT.out.symm, hb⟩
/-- Are these the conditions of a query? -/
def condsV (cs : List CondD) : Bool := decide (cs.length ≤ 3) && condsB cs
theorem condsV_bad {cs : List CondD} {k : Nat} (hk : k < cs.length) (h : condB (cs.getD k c0D) = false ∨ (0 < k ∧ ¬ (cs.getD (k - 1) c0D).1 < (cs.getD k c0D).1)) : condsV cs = false := by
  unfold condsV; rw [condsB_bad hk h, Bool.and_false]
set_option maxHeartbeats 8000000 in
set_option maxRecDepth 100000 in
theorem areValid_any (v : Value) (cs : List CondD) (w : World) (h : CondsR w v cs) (hn : cs.length ≤ 1048576) :
    Calls Tryd.prog 149 #[v] w fun e w' => e = .returned (.bool (condsV cs)) ∧ Below w.heap.size w w' := by
  have H := Lib.hid h
  obtain ⟨a, cap, rfl⟩ := condsR_len h
  clear h
  by_cases hbig : 3 < cs.length
  · have HF : Hid (condsV cs = false) := Lib.hid (by unfold condsV; rw [decide_eq_false (by omega)]; simp)
    have i0 : (3 : Int) < (cs.length : Int) := by omega
    have hd : decide ((3 : Int) < (cs.length : Int)) = true := decide_eq_true i0
    have hdn : decide (3 < cs.length) = true := decide_eq_true hbig
    go_enter Tryd.func149, Tryd.ntmps149
    go_wp2
    go_ret
    exact ⟨ret_b HF.out.symm, Below.refl _ _⟩
  have HT : Hid (CondsTo cs cs.length → condsV cs = true) := Lib.hid (fun g => by unfold condsV; rw [decide_eq_true (by omega), condsB_all g]; rfl)
  have hd : decide ((3 : Int) < (cs.length : Int)) = false := decide_eq_false (by omega)
  have hdn : decide (3 < cs.length) = false := decide_eq_false hbig
  clear hbig
  go_enter Tryd.func149, Tryd.ntmps149
  go_wp2
  clear hd hdn
  go_loopw [10] (fun i wr => ∃ k : Nat, k ≤ cs.length ∧ i = .int .i64 k ∧ Hid (CondsTo cs k) ∧ Below w.heap.size w wr) (fun i _ => cs.length - (intOf i).toNat)
  case atStart => exact ⟨0, Nat.zero_le _, rfl, Lib.hid (fun i hi => by omega), Below.refl _ _⟩
  case round =>
    obtain ⟨k, hk, rfl, hall, hbel⟩ := hrel
    by_cases hlt : k < cs.length
    · have H1 := Lib.hid (condsR_below H.out hbel)
      obtain ⟨b, off, cap', hv, hbl, hc1, hc2, hc3⟩ := condsR_at H1.out hlt
      simp only [Value.slice.injEq] at hv
      obtain ⟨rfl, _, rfl⟩ := hv
      have HBAD := Lib.hid (condsV_bad (cs := cs) (k := k) hlt)
      have HSTEP := Lib.hid (condsTo_step hall.out)
      have HR0 : Hid (∀ w, Calls Tryd.prog 164 #[condV (cs.getD k c0D).1 (cs.getD k c0D).2.1 (cs.getD k c0D).2.2] w fun e w' => e = .returned (.bool (condB (cs.getD k c0D))) ∧ Below w.heap.size w w') := Lib.hid (fun w => implIsCond (cs.getD k c0D).1 (cs.getD k c0D).2.1 (cs.getD k c0D).2.2 w)
      have i1 : (0 : Int) ≤ (k : Int) := by omega
      have i2 : (k : Int) < (cs.length : Int) := by omega
      clear hall
      cases hrb : condB (cs.getD k c0D) with
      | false =>
        have HF := Lib.hid (HBAD.out (Or.inl hrb))
        have HR := Lib.hid (fun w => (HR0.out w))
        rw [hrb] at HR
        clear hrb HBAD HSTEP H1 HR0
        generalize (cs.getD k c0D).1 = cf at *
        generalize (cs.getD k c0D).2.1 = cl at *
        generalize (cs.getD k c0D).2.2 = ch at *
        go_wp2
        have hW : Below wr.heap.size wr (wr.alloc (.cells #[.int .i64 cf, .int .i64 cl, .int .i64 ch] 115)) := (Below.refl _ wr).alloc (Nat.le_refl _) _
        have g0 := heap_alloc_new wr (.cells #[.int .i64 cf, .int .i64 cl, .int .i64 ch] 115)
        have hlt2 : wr.heap.size < (wr.alloc (.cells #[.int .i64 cf, .int .i64 cl, .int .i64 ch] 115)).heap.size := by simp
        generalize wr.alloc (.cells #[.int .i64 cf, .int .i64 cl, .int .i64 ch] 115) = W at *
        have q0 := cell_of_row W _ 0 _ _ _ g0
        have q1 := cell_of_row W _ 1 _ _ _ g0
        have q2 := cell_of_row W _ 2 _ _ _ g0
        simp at q0 q1 q2
        refine wp_region_held_drew (S := fun w' => w'.cell? ⟨wr.heap.size, 0, none⟩ = some (.int .i64 cf) ∧ w'.cell? ⟨wr.heap.size, 1, none⟩ = some (.int .i64 cl) ∧ w'.cell? ⟨wr.heap.size, 2, none⟩ = some (.int .i64 ch)) (by kernel_rfl) ⟨q0, q1, q2⟩ (fun hHeld => ?_)
        refine take_runs (i := 0) (v := ?_) (by simp only [List.getElem?_toArray, List.getElem?_cons_succ, List.getElem?_cons_zero]; rfl) (by kernel_rfl) (by kernel_rfl) (by kernel_rfl) rfl (by exact fun _ _ _ h => h) (by rfl) ?_ (by assumption) ?_
        rotate_left
        · intro w hSw; (try dsimp only at hSw); go_simp; try (with_reducible rfl)
        try simp only [Act.put, List.setIfInBounds_toArray, List.set_cons_zero, List.set_cons_succ]
        refine wpAnyH_ready (rs := [1]) (by kernel_rfl) (by simp) ?_
        refine AllReadyH.cons (o := _) (by simp only [List.getElem?_toArray, List.getElem?_cons_succ, List.getElem?_cons_zero]; rfl) (fun K hK => ?_) AllReadyH.nil
        go_simp
        refine (HR.out _).mono ?_
        rintro e w8 ⟨rfl, b9⟩
        have b10 : Below W.heap.size W w8 := ⟨b9.os, b9.tape, b9.output, b9.size, b9.block⟩
        have s0 := (b10.cell (p := ⟨wr.heap.size, 0, none⟩) hlt2).trans q0
        have s1 := (b10.cell (p := ⟨wr.heap.size, 1, none⟩) hlt2).trans q1
        have s2 := (b10.cell (p := ⟨wr.heap.size, 2, none⟩) hlt2).trans q2
        refine hK.out _ _ ⟨s0, s1, s2⟩ (fun hHeld => ?_)
        clear hK K
        try simp only [Act.put, List.setIfInBounds_toArray, List.set_cons_zero, List.set_cons_succ]
        refine take_runs (i := 2) (v := ?_) (by simp only [List.getElem?_toArray, List.getElem?_cons_succ, List.getElem?_cons_zero]; rfl) (by kernel_rfl) (by kernel_rfl) (by kernel_rfl) rfl (by exact fun _ _ _ h => h) (by rfl) ?_ (by assumption) ?_
        rotate_left
        · intro w hSw; (try dsimp only at hSw); go_simp; try (with_reducible rfl)
        try simp only [Act.put, List.setIfInBounds_toArray, List.set_cons_zero, List.set_cons_succ]
        refine take_runs (i := 3) (v := ?_) (by simp only [List.getElem?_toArray, List.getElem?_cons_succ, List.getElem?_cons_zero]; rfl) (by kernel_rfl) (by kernel_rfl) (by kernel_rfl) rfl (by exact fun _ _ _ h => h) (by rfl) ?_ (by assumption) ?_
        rotate_left
        · intro w hSw; (try dsimp only at hSw); go_simp; try (with_reducible rfl)
        try simp only [Act.put, List.setIfInBounds_toArray, List.set_cons_zero, List.set_cons_succ]
        refine take_over (i := 4) (by simp only [List.getElem?_toArray, List.getElem?_cons_succ, List.getElem?_cons_zero]; rfl) (by kernel_rfl) (by kernel_rfl) (by kernel_rfl) rfl (by exact fun _ _ _ h => h) (by rfl) (by assumption) ?_
        try simp only [Act.put, List.setIfInBounds_toArray, List.set_cons_zero, List.set_cons_succ]
        refine take_over (i := 5) (by simp only [List.getElem?_toArray, List.getElem?_cons_succ, List.getElem?_cons_zero]; rfl) (by kernel_rfl) (by kernel_rfl) (by kernel_rfl) rfl (by exact fun _ _ _ h => h) (by rfl) (by assumption) ?_
        try simp only [Act.put, List.setIfInBounds_toArray, List.set_cons_zero, List.set_cons_succ]
        refine take_over (i := 6) (by simp only [List.getElem?_toArray, List.getElem?_cons_succ, List.getElem?_cons_zero]; rfl) (by kernel_rfl) (by kernel_rfl) (by kernel_rfl) rfl (by exact fun _ _ _ h => h) (by rfl) (by assumption) ?_
        try simp only [Act.put, List.setIfInBounds_toArray, List.set_cons_zero, List.set_cons_succ]
        refine take_over (i := 7) (by simp only [List.getElem?_toArray, List.getElem?_cons_succ, List.getElem?_cons_zero]; rfl) (by kernel_rfl) (by kernel_rfl) (by kernel_rfl) rfl (by exact fun _ _ _ h => h) (by rfl) (by assumption) ?_
        try simp only [Act.put, List.setIfInBounds_toArray, List.set_cons_zero, List.set_cons_succ]
        refine take_over (i := 8) (by simp only [List.getElem?_toArray, List.getElem?_cons_succ, List.getElem?_cons_zero]; rfl) (by kernel_rfl) (by kernel_rfl) (by kernel_rfl) rfl (by exact fun _ _ _ h => h) (by rfl) (by assumption) ?_
        try simp only [Act.put, List.setIfInBounds_toArray, List.set_cons_zero, List.set_cons_succ]
        refine take_over (i := 9) (by simp only [List.getElem?_toArray, List.getElem?_cons_succ, List.getElem?_cons_zero]; rfl) (by kernel_rfl) (by kernel_rfl) (by kernel_rfl) rfl (by exact fun _ _ _ h => h) (by rfl) (by assumption) ?_
        try simp only [Act.put, List.setIfInBounds_toArray, List.set_cons_zero, List.set_cons_succ]
        refine take_over (i := 10) (by simp only [List.getElem?_toArray, List.getElem?_cons_succ, List.getElem?_cons_zero]; rfl) (by kernel_rfl) (by kernel_rfl) (by kernel_rfl) rfl (by exact fun _ _ _ h => h) (by rfl) (by assumption) ?_
        try simp only [Act.put, List.setIfInBounds_toArray, List.set_cons_zero, List.set_cons_succ]
        refine take_over (i := 11) (by simp only [List.getElem?_toArray, List.getElem?_cons_succ, List.getElem?_cons_zero]; rfl) (by kernel_rfl) (by kernel_rfl) (by kernel_rfl) rfl (by exact fun _ _ _ h => h) (by rfl) (by assumption) ?_
        try simp only [Act.put, List.setIfInBounds_toArray, List.set_cons_zero, List.set_cons_succ]
        refine take_over (i := 12) (by simp only [List.getElem?_toArray, List.getElem?_cons_succ, List.getElem?_cons_zero]; rfl) (by kernel_rfl) (by kernel_rfl) (by kernel_rfl) rfl (by exact fun _ _ _ h => h) (by rfl) (by assumption) ?_
        try simp only [Act.put, List.setIfInBounds_toArray, List.set_cons_zero, List.set_cons_succ]
        refine take_over (i := 13) (by simp only [List.getElem?_toArray, List.getElem?_cons_succ, List.getElem?_cons_zero]; rfl) (by kernel_rfl) (by kernel_rfl) (by kernel_rfl) rfl (by exact fun _ _ _ h => h) (by rfl) (by assumption) ?_
        try simp only [Act.put, List.setIfInBounds_toArray, List.set_cons_zero, List.set_cons_succ]
        refine take_over (i := 14) (by simp only [List.getElem?_toArray, List.getElem?_cons_succ, List.getElem?_cons_zero]; rfl) (by kernel_rfl) (by kernel_rfl) (by kernel_rfl) rfl (by exact fun _ _ _ h => h) (by rfl) (by assumption) ?_
        try simp only [Act.put, List.setIfInBounds_toArray, List.set_cons_zero, List.set_cons_succ]
        refine take_over (i := 15) (by simp only [List.getElem?_toArray, List.getElem?_cons_succ, List.getElem?_cons_zero]; rfl) (by kernel_rfl) (by kernel_rfl) (by kernel_rfl) rfl (by exact fun _ _ _ h => h) (by rfl) (by assumption) ?_
        try simp only [Act.put, List.setIfInBounds_toArray, List.set_cons_zero, List.set_cons_succ]
        refine take_over (i := 16) (by simp only [List.getElem?_toArray, List.getElem?_cons_succ, List.getElem?_cons_zero]; rfl) (by kernel_rfl) (by kernel_rfl) (by kernel_rfl) rfl (by exact fun _ _ _ h => h) (by rfl) (by assumption) ?_
        try simp only [Act.put, List.setIfInBounds_toArray, List.set_cons_zero, List.set_cons_succ]
        refine take_runs (i := 17) (v := ?_) (by simp only [List.getElem?_toArray, List.getElem?_cons_succ, List.getElem?_cons_zero]; rfl) (by kernel_rfl) (by kernel_rfl) (by kernel_rfl) rfl (by exact fun _ _ _ h => h) (by rfl) ?_ (by assumption) ?_
        rotate_left
        · intro w hSw; (try dsimp only at hSw); go_simp; try (with_reducible rfl)
        try simp only [Act.put, List.setIfInBounds_toArray, List.set_cons_zero, List.set_cons_succ]
        refine wpAnyH_done (by kernel_rfl) ?_ _
        have b11 := hbel.trans ((hW.trans (b10.mono hW.size)).mono hbel.size)
        clear s0 s1 s2 hHeld b9 b10
        try clear s3
        go_wp2
        go_ret
        exact ⟨ret_b HF.out.symm, b11⟩
      | true =>
        have HR := Lib.hid (fun w => (HR0.out w))
        rw [hrb] at HR
        clear HR0
        by_cases hz : k = 0
        · have HA := Lib.hid (HSTEP.out hrb (fun g => absurd g (by omega)))
          have hg : decide ((0 : Int) < (k : Int)) = false := decide_eq_false (by omega)
          have hgn : decide (0 < k) = false := decide_eq_false (by omega)
          clear hrb HBAD HSTEP H1 hz
          generalize (cs.getD k c0D).1 = cf at *
          generalize (cs.getD k c0D).2.1 = cl at *
          generalize (cs.getD k c0D).2.2 = ch at *
          go_wp2
          have hW : Below wr.heap.size wr (wr.alloc (.cells #[.int .i64 cf, .int .i64 cl, .int .i64 ch] 115)) := (Below.refl _ wr).alloc (Nat.le_refl _) _
          have g0 := heap_alloc_new wr (.cells #[.int .i64 cf, .int .i64 cl, .int .i64 ch] 115)
          have hlt2 : wr.heap.size < (wr.alloc (.cells #[.int .i64 cf, .int .i64 cl, .int .i64 ch] 115)).heap.size := by simp
          generalize wr.alloc (.cells #[.int .i64 cf, .int .i64 cl, .int .i64 ch] 115) = W at *
          have q0 := cell_of_row W _ 0 _ _ _ g0
          have q1 := cell_of_row W _ 1 _ _ _ g0
          have q2 := cell_of_row W _ 2 _ _ _ g0
          simp at q0 q1 q2
          refine wp_region_held_drew (S := fun w' => w'.cell? ⟨wr.heap.size, 0, none⟩ = some (.int .i64 cf) ∧ w'.cell? ⟨wr.heap.size, 1, none⟩ = some (.int .i64 cl) ∧ w'.cell? ⟨wr.heap.size, 2, none⟩ = some (.int .i64 ch)) (by kernel_rfl) ⟨q0, q1, q2⟩ (fun hHeld => ?_)
          refine take_runs (i := 0) (v := ?_) (by simp only [List.getElem?_toArray, List.getElem?_cons_succ, List.getElem?_cons_zero]; rfl) (by kernel_rfl) (by kernel_rfl) (by kernel_rfl) rfl (by exact fun _ _ _ h => h) (by rfl) ?_ (by assumption) ?_
          rotate_left
          · intro w hSw; (try dsimp only at hSw); go_simp; try (with_reducible rfl)
          try simp only [Act.put, List.setIfInBounds_toArray, List.set_cons_zero, List.set_cons_succ]
          refine wpAnyH_ready (rs := [1]) (by kernel_rfl) (by simp) ?_
          refine AllReadyH.cons (o := _) (by simp only [List.getElem?_toArray, List.getElem?_cons_succ, List.getElem?_cons_zero]; rfl) (fun K hK => ?_) AllReadyH.nil
          go_simp
          refine (HR.out _).mono ?_
          rintro e w8 ⟨rfl, b9⟩
          have b10 : Below W.heap.size W w8 := ⟨b9.os, b9.tape, b9.output, b9.size, b9.block⟩
          have s0 := (b10.cell (p := ⟨wr.heap.size, 0, none⟩) hlt2).trans q0
          have s1 := (b10.cell (p := ⟨wr.heap.size, 1, none⟩) hlt2).trans q1
          have s2 := (b10.cell (p := ⟨wr.heap.size, 2, none⟩) hlt2).trans q2
          refine hK.out _ _ ⟨s0, s1, s2⟩ (fun hHeld => ?_)
          clear hK K
          try simp only [Act.put, List.setIfInBounds_toArray, List.set_cons_zero, List.set_cons_succ]
          refine take_runs (i := 2) (v := ?_) (by simp only [List.getElem?_toArray, List.getElem?_cons_succ, List.getElem?_cons_zero]; rfl) (by kernel_rfl) (by kernel_rfl) (by kernel_rfl) rfl (by exact fun _ _ _ h => h) (by rfl) ?_ (by assumption) ?_
          rotate_left
          · intro w hSw; (try dsimp only at hSw); go_simp; try (with_reducible rfl)
          try simp only [Act.put, List.setIfInBounds_toArray, List.set_cons_zero, List.set_cons_succ]
          refine take_runs (i := 3) (v := ?_) (by simp only [List.getElem?_toArray, List.getElem?_cons_succ, List.getElem?_cons_zero]; rfl) (by kernel_rfl) (by kernel_rfl) (by kernel_rfl) rfl (by exact fun _ _ _ h => h) (by rfl) ?_ (by assumption) ?_
          rotate_left
          · intro w hSw; (try dsimp only at hSw); go_simp; try (with_reducible rfl)
          try simp only [Act.put, List.setIfInBounds_toArray, List.set_cons_zero, List.set_cons_succ]
          refine take_runs (i := 4) (v := ?_) (by simp only [List.getElem?_toArray, List.getElem?_cons_succ, List.getElem?_cons_zero]; rfl) (by kernel_rfl) (by kernel_rfl) (by kernel_rfl) rfl (by exact fun _ _ _ h => h) (by rfl) ?_ (by assumption) ?_
          rotate_left
          · intro w hSw; (try dsimp only at hSw); go_simp; try (with_reducible rfl)
          try simp only [Act.put, List.setIfInBounds_toArray, List.set_cons_zero, List.set_cons_succ]
          refine take_runs (i := 5) (v := ?_) (by simp only [List.getElem?_toArray, List.getElem?_cons_succ, List.getElem?_cons_zero]; rfl) (by kernel_rfl) (by kernel_rfl) (by kernel_rfl) rfl (by exact fun _ _ _ h => h) (by rfl) ?_ (by assumption) ?_
          rotate_left
          · intro w hSw; (try dsimp only at hSw); go_simp; try (with_reducible rfl)
          try simp only [Act.put, List.setIfInBounds_toArray, List.set_cons_zero, List.set_cons_succ]
          refine take_runs (i := 6) (v := ?_) (by simp only [List.getElem?_toArray, List.getElem?_cons_succ, List.getElem?_cons_zero]; rfl) (by kernel_rfl) (by kernel_rfl) (by kernel_rfl) rfl (by exact fun _ _ _ h => h) (by rfl) ?_ (by assumption) ?_
          rotate_left
          · intro w hSw; (try dsimp only at hSw); go_simp; try (with_reducible rfl)
          try simp only [Act.put, List.setIfInBounds_toArray, List.set_cons_zero, List.set_cons_succ]
          refine take_over (i := 7) (by simp only [List.getElem?_toArray, List.getElem?_cons_succ, List.getElem?_cons_zero]; rfl) (by kernel_rfl) (by kernel_rfl) (by kernel_rfl) rfl (by exact fun _ _ _ h => h) (by rfl) (by assumption) ?_
          try simp only [Act.put, List.setIfInBounds_toArray, List.set_cons_zero, List.set_cons_succ]
          refine take_over (i := 8) (by simp only [List.getElem?_toArray, List.getElem?_cons_succ, List.getElem?_cons_zero]; rfl) (by kernel_rfl) (by kernel_rfl) (by kernel_rfl) rfl (by exact fun _ _ _ h => h) (by rfl) (by assumption) ?_
          try simp only [Act.put, List.setIfInBounds_toArray, List.set_cons_zero, List.set_cons_succ]
          refine take_over (i := 9) (by simp only [List.getElem?_toArray, List.getElem?_cons_succ, List.getElem?_cons_zero]; rfl) (by kernel_rfl) (by kernel_rfl) (by kernel_rfl) rfl (by exact fun _ _ _ h => h) (by rfl) (by assumption) ?_
          try simp only [Act.put, List.setIfInBounds_toArray, List.set_cons_zero, List.set_cons_succ]
          refine take_over (i := 10) (by simp only [List.getElem?_toArray, List.getElem?_cons_succ, List.getElem?_cons_zero]; rfl) (by kernel_rfl) (by kernel_rfl) (by kernel_rfl) rfl (by exact fun _ _ _ h => h) (by rfl) (by assumption) ?_
          try simp only [Act.put, List.setIfInBounds_toArray, List.set_cons_zero, List.set_cons_succ]
          refine take_over (i := 11) (by simp only [List.getElem?_toArray, List.getElem?_cons_succ, List.getElem?_cons_zero]; rfl) (by kernel_rfl) (by kernel_rfl) (by kernel_rfl) rfl (by exact fun _ _ _ h => h) (by rfl) (by assumption) ?_
          try simp only [Act.put, List.setIfInBounds_toArray, List.set_cons_zero, List.set_cons_succ]
          refine take_over (i := 12) (by simp only [List.getElem?_toArray, List.getElem?_cons_succ, List.getElem?_cons_zero]; rfl) (by kernel_rfl) (by kernel_rfl) (by kernel_rfl) rfl (by exact fun _ _ _ h => h) (by rfl) (by assumption) ?_
          try simp only [Act.put, List.setIfInBounds_toArray, List.set_cons_zero, List.set_cons_succ]
          refine take_over (i := 13) (by simp only [List.getElem?_toArray, List.getElem?_cons_succ, List.getElem?_cons_zero]; rfl) (by kernel_rfl) (by kernel_rfl) (by kernel_rfl) rfl (by exact fun _ _ _ h => h) (by rfl) (by assumption) ?_
          try simp only [Act.put, List.setIfInBounds_toArray, List.set_cons_zero, List.set_cons_succ]
          refine take_over (i := 14) (by simp only [List.getElem?_toArray, List.getElem?_cons_succ, List.getElem?_cons_zero]; rfl) (by kernel_rfl) (by kernel_rfl) (by kernel_rfl) rfl (by exact fun _ _ _ h => h) (by rfl) (by assumption) ?_
          try simp only [Act.put, List.setIfInBounds_toArray, List.set_cons_zero, List.set_cons_succ]
          refine take_over (i := 15) (by simp only [List.getElem?_toArray, List.getElem?_cons_succ, List.getElem?_cons_zero]; rfl) (by kernel_rfl) (by kernel_rfl) (by kernel_rfl) rfl (by exact fun _ _ _ h => h) (by rfl) (by assumption) ?_
          try simp only [Act.put, List.setIfInBounds_toArray, List.set_cons_zero, List.set_cons_succ]
          refine take_runs (i := 16) (v := ?_) (by simp only [List.getElem?_toArray, List.getElem?_cons_succ, List.getElem?_cons_zero]; rfl) (by kernel_rfl) (by kernel_rfl) (by kernel_rfl) rfl (by exact fun _ _ _ h => h) (by rfl) ?_ (by assumption) ?_
          rotate_left
          · intro w hSw; (try dsimp only at hSw); go_simp; try (with_reducible rfl)
          try simp only [Act.put, List.setIfInBounds_toArray, List.set_cons_zero, List.set_cons_succ]
          refine take_runs (i := 17) (v := ?_) (by simp only [List.getElem?_toArray, List.getElem?_cons_succ, List.getElem?_cons_zero]; rfl) (by kernel_rfl) (by kernel_rfl) (by kernel_rfl) rfl (by exact fun _ _ _ h => h) (by rfl) ?_ (by assumption) ?_
          rotate_left
          · intro w hSw; (try dsimp only at hSw); go_simp; try (with_reducible rfl)
          try simp only [Act.put, List.setIfInBounds_toArray, List.set_cons_zero, List.set_cons_succ]
          refine wpAnyH_done (by kernel_rfl) ?_ _
          have b11 := hbel.trans ((hW.trans (b10.mono hW.size)).mono hbel.size)
          clear s0 s1 s2 hHeld b9 b10
          try clear s3
          go_wp2
          go_roundw
          case rel => exact ⟨k + 1, by omega, by go_num, HA, b11⟩
          case measure => simp [intOf]; omega
        · obtain ⟨m, hkm⟩ : ∃ m, k = m + 1 := ⟨k - 1, by omega⟩
          have hml : m < cs.length := by omega
          obtain ⟨b', off', cap'', hv', _, hc0, _, _⟩ := condsR_at H1.out hml
          simp only [Value.slice.injEq, Option.some.injEq, Addr.mk.injEq] at hv'
          obtain ⟨⟨rfl, rfl, _⟩, _, rfl⟩ := hv'
          have hg : decide ((0 : Int) < (k : Int)) = true := decide_eq_true (by omega)
          have hgn : decide (0 < k) = true := decide_eq_true (by omega)
          have j1 : (0 : Int) ≤ (m : Int) := by omega
          have j2 : (m : Int) < (cs.length : Int) := by omega
          have hsub : IntKind.i64.wrap ((k : Int) - 1) = (m : Int) := by rw [IntWalk.i64_in _ (by omega)]; omega
          rw [show k - 1 = m by omega] at HBAD HSTEP
          by_cases hle : (cs.getD k c0D).1 ≤ (cs.getD m c0D).1
          · have HF := Lib.hid (HBAD.out (Or.inr ⟨by omega, by omega⟩))
            have hd := decide_eq_true hle
            clear hrb HBAD HSTEP H1 hz hle hkm
            generalize (cs.getD k c0D).1 = cf at *
            generalize (cs.getD k c0D).2.1 = cl at *
            generalize (cs.getD k c0D).2.2 = ch at *
            generalize (cs.getD m c0D).1 = fp at *
            go_wp2
            have hW : Below wr.heap.size wr (wr.alloc (.cells #[.int .i64 cf, .int .i64 cl, .int .i64 ch] 115)) := (Below.refl _ wr).alloc (Nat.le_refl _) _
            have g0 := heap_alloc_new wr (.cells #[.int .i64 cf, .int .i64 cl, .int .i64 ch] 115)
            have hlt2 : wr.heap.size < (wr.alloc (.cells #[.int .i64 cf, .int .i64 cl, .int .i64 ch] 115)).heap.size := by simp
            generalize wr.alloc (.cells #[.int .i64 cf, .int .i64 cl, .int .i64 ch] 115) = W at *
            have q0 := cell_of_row W _ 0 _ _ _ g0
            have q1 := cell_of_row W _ 1 _ _ _ g0
            have q2 := cell_of_row W _ 2 _ _ _ g0
            simp at q0 q1 q2
            have p0 := (hW.cell (p := ⟨b, off + m * 3, none⟩) hbl).trans hc0
            refine wp_region_held_drew (S := fun w' => w'.cell? ⟨wr.heap.size, 0, none⟩ = some (.int .i64 cf) ∧ w'.cell? ⟨wr.heap.size, 1, none⟩ = some (.int .i64 cl) ∧ w'.cell? ⟨wr.heap.size, 2, none⟩ = some (.int .i64 ch) ∧ w'.cell? ⟨b, off + m * 3, none⟩ = some (.int .i64 fp)) (by kernel_rfl) ⟨q0, q1, q2, p0⟩ (fun hHeld => ?_)
            refine take_runs (i := 0) (v := ?_) (by simp only [List.getElem?_toArray, List.getElem?_cons_succ, List.getElem?_cons_zero]; rfl) (by kernel_rfl) (by kernel_rfl) (by kernel_rfl) rfl (by exact fun _ _ _ h => h) (by rfl) ?_ (by assumption) ?_
            rotate_left
            · intro w hSw; (try dsimp only at hSw); go_simp; try (with_reducible rfl)
            try simp only [Act.put, List.setIfInBounds_toArray, List.set_cons_zero, List.set_cons_succ]
            refine wpAnyH_ready (rs := [1]) (by kernel_rfl) (by simp) ?_
            refine AllReadyH.cons (o := _) (by simp only [List.getElem?_toArray, List.getElem?_cons_succ, List.getElem?_cons_zero]; rfl) (fun K hK => ?_) AllReadyH.nil
            go_simp
            refine (HR.out _).mono ?_
            rintro e w8 ⟨rfl, b9⟩
            have b10 : Below W.heap.size W w8 := ⟨b9.os, b9.tape, b9.output, b9.size, b9.block⟩
            have s0 := (b10.cell (p := ⟨wr.heap.size, 0, none⟩) hlt2).trans q0
            have s1 := (b10.cell (p := ⟨wr.heap.size, 1, none⟩) hlt2).trans q1
            have s2 := (b10.cell (p := ⟨wr.heap.size, 2, none⟩) hlt2).trans q2
            have s3 := (b10.cell (p := ⟨b, off + m * 3, none⟩) (Nat.lt_of_lt_of_le hbl hW.size)).trans p0
            refine hK.out _ _ ⟨s0, s1, s2, s3⟩ (fun hHeld => ?_)
            clear hK K
            try simp only [Act.put, List.setIfInBounds_toArray, List.set_cons_zero, List.set_cons_succ]
            refine take_runs (i := 2) (v := ?_) (by simp only [List.getElem?_toArray, List.getElem?_cons_succ, List.getElem?_cons_zero]; rfl) (by kernel_rfl) (by kernel_rfl) (by kernel_rfl) rfl (by exact fun _ _ _ h => h) (by rfl) ?_ (by assumption) ?_
            rotate_left
            · intro w hSw; (try dsimp only at hSw); go_simp; try (with_reducible rfl)
            try simp only [Act.put, List.setIfInBounds_toArray, List.set_cons_zero, List.set_cons_succ]
            refine take_runs (i := 3) (v := ?_) (by simp only [List.getElem?_toArray, List.getElem?_cons_succ, List.getElem?_cons_zero]; rfl) (by kernel_rfl) (by kernel_rfl) (by kernel_rfl) rfl (by exact fun _ _ _ h => h) (by rfl) ?_ (by assumption) ?_
            rotate_left
            · intro w hSw; (try dsimp only at hSw); go_simp; try (with_reducible rfl)
            try simp only [Act.put, List.setIfInBounds_toArray, List.set_cons_zero, List.set_cons_succ]
            refine take_runs (i := 4) (v := ?_) (by simp only [List.getElem?_toArray, List.getElem?_cons_succ, List.getElem?_cons_zero]; rfl) (by kernel_rfl) (by kernel_rfl) (by kernel_rfl) rfl (by exact fun _ _ _ h => h) (by rfl) ?_ (by assumption) ?_
            rotate_left
            · intro w hSw; (try dsimp only at hSw); go_simp; try (with_reducible rfl)
            try simp only [Act.put, List.setIfInBounds_toArray, List.set_cons_zero, List.set_cons_succ]
            refine take_runs (i := 5) (v := ?_) (by simp only [List.getElem?_toArray, List.getElem?_cons_succ, List.getElem?_cons_zero]; rfl) (by kernel_rfl) (by kernel_rfl) (by kernel_rfl) rfl (by exact fun _ _ _ h => h) (by rfl) ?_ (by assumption) ?_
            rotate_left
            · intro w hSw; (try dsimp only at hSw); go_simp; try (with_reducible rfl)
            try simp only [Act.put, List.setIfInBounds_toArray, List.set_cons_zero, List.set_cons_succ]
            refine take_runs (i := 6) (v := ?_) (by simp only [List.getElem?_toArray, List.getElem?_cons_succ, List.getElem?_cons_zero]; rfl) (by kernel_rfl) (by kernel_rfl) (by kernel_rfl) rfl (by exact fun _ _ _ h => h) (by rfl) ?_ (by assumption) ?_
            rotate_left
            · intro w hSw; (try dsimp only at hSw); go_simp; try (with_reducible rfl)
            try simp only [Act.put, List.setIfInBounds_toArray, List.set_cons_zero, List.set_cons_succ]
            refine take_runs (i := 7) (v := ?_) (by simp only [List.getElem?_toArray, List.getElem?_cons_succ, List.getElem?_cons_zero]; rfl) (by kernel_rfl) (by kernel_rfl) (by kernel_rfl) rfl (by exact fun _ _ _ h => h) (by rfl) ?_ (by assumption) ?_
            rotate_left
            · intro w hSw; (try dsimp only at hSw); go_simp; try (with_reducible rfl)
            try simp only [Act.put, List.setIfInBounds_toArray, List.set_cons_zero, List.set_cons_succ]
            refine take_runs (i := 8) (v := ?_) (by simp only [List.getElem?_toArray, List.getElem?_cons_succ, List.getElem?_cons_zero]; rfl) (by kernel_rfl) (by kernel_rfl) (by kernel_rfl) rfl (by exact fun _ _ _ h => h) (by rfl) ?_ (by assumption) ?_
            rotate_left
            · intro w hSw; (try dsimp only at hSw); go_simp; try (with_reducible rfl)
            try simp only [Act.put, List.setIfInBounds_toArray, List.set_cons_zero, List.set_cons_succ]
            refine take_runs (i := 9) (v := ?_) (by simp only [List.getElem?_toArray, List.getElem?_cons_succ, List.getElem?_cons_zero]; rfl) (by kernel_rfl) (by kernel_rfl) (by kernel_rfl) rfl (by exact fun _ _ _ h => h) (by rfl) ?_ (by assumption) ?_
            rotate_left
            · intro w hSw; (try dsimp only at hSw); go_simp; try (with_reducible rfl)
            try simp only [Act.put, List.setIfInBounds_toArray, List.set_cons_zero, List.set_cons_succ]
            refine take_runs (i := 10) (v := ?_) (by simp only [List.getElem?_toArray, List.getElem?_cons_succ, List.getElem?_cons_zero]; rfl) (by kernel_rfl) (by kernel_rfl) (by kernel_rfl) rfl (by exact fun _ _ _ h => h) (by rfl) ?_ (by assumption) ?_
            rotate_left
            · intro w hSw; (try dsimp only at hSw); go_simp; try (with_reducible rfl)
            try simp only [Act.put, List.setIfInBounds_toArray, List.set_cons_zero, List.set_cons_succ]
            refine take_runs (i := 11) (v := ?_) (by simp only [List.getElem?_toArray, List.getElem?_cons_succ, List.getElem?_cons_zero]; rfl) (by kernel_rfl) (by kernel_rfl) (by kernel_rfl) rfl (by exact fun _ _ _ h => h) (by rfl) ?_ (by assumption) ?_
            rotate_left
            · intro w hSw; (try dsimp only at hSw); go_simp; try (with_reducible rfl)
            try simp only [Act.put, List.setIfInBounds_toArray, List.set_cons_zero, List.set_cons_succ]
            refine take_runs (i := 12) (v := ?_) (by simp only [List.getElem?_toArray, List.getElem?_cons_succ, List.getElem?_cons_zero]; rfl) (by kernel_rfl) (by kernel_rfl) (by kernel_rfl) rfl (by exact fun _ _ _ h => h) (by rfl) ?_ (by assumption) ?_
            rotate_left
            · intro w hSw; (try dsimp only at hSw); go_simp; try (with_reducible rfl)
            try simp only [Act.put, List.setIfInBounds_toArray, List.set_cons_zero, List.set_cons_succ]
            refine take_runs (i := 13) (v := ?_) (by simp only [List.getElem?_toArray, List.getElem?_cons_succ, List.getElem?_cons_zero]; rfl) (by kernel_rfl) (by kernel_rfl) (by kernel_rfl) rfl (by exact fun _ _ _ h => h) (by rfl) ?_ (by assumption) ?_
            rotate_left
            · intro w hSw; (try dsimp only at hSw); go_simp; try (with_reducible rfl)
            try simp only [Act.put, List.setIfInBounds_toArray, List.set_cons_zero, List.set_cons_succ]
            refine take_runs (i := 14) (v := ?_) (by simp only [List.getElem?_toArray, List.getElem?_cons_succ, List.getElem?_cons_zero]; rfl) (by kernel_rfl) (by kernel_rfl) (by kernel_rfl) rfl (by exact fun _ _ _ h => h) (by rfl) ?_ (by assumption) ?_
            rotate_left
            · intro w hSw; (try dsimp only at hSw); go_simp; try (with_reducible rfl)
            try simp only [Act.put, List.setIfInBounds_toArray, List.set_cons_zero, List.set_cons_succ]
            refine take_runs (i := 15) (v := ?_) (by simp only [List.getElem?_toArray, List.getElem?_cons_succ, List.getElem?_cons_zero]; rfl) (by kernel_rfl) (by kernel_rfl) (by kernel_rfl) rfl (by exact fun _ _ _ h => h) (by rfl) ?_ (by assumption) ?_
            rotate_left
            · intro w hSw; (try dsimp only at hSw); go_simp; try (with_reducible rfl)
            try simp only [Act.put, List.setIfInBounds_toArray, List.set_cons_zero, List.set_cons_succ]
            refine take_runs (i := 16) (v := ?_) (by simp only [List.getElem?_toArray, List.getElem?_cons_succ, List.getElem?_cons_zero]; rfl) (by kernel_rfl) (by kernel_rfl) (by kernel_rfl) rfl (by exact fun _ _ _ h => h) (by rfl) ?_ (by assumption) ?_
            rotate_left
            · intro w hSw; (try dsimp only at hSw); go_simp; try (with_reducible rfl)
            try simp only [Act.put, List.setIfInBounds_toArray, List.set_cons_zero, List.set_cons_succ]
            refine take_runs (i := 17) (v := ?_) (by simp only [List.getElem?_toArray, List.getElem?_cons_succ, List.getElem?_cons_zero]; rfl) (by kernel_rfl) (by kernel_rfl) (by kernel_rfl) rfl (by exact fun _ _ _ h => h) (by rfl) ?_ (by assumption) ?_
            rotate_left
            · intro w hSw; (try dsimp only at hSw); go_simp; try (with_reducible rfl)
            try simp only [Act.put, List.setIfInBounds_toArray, List.set_cons_zero, List.set_cons_succ]
            refine wpAnyH_done (by kernel_rfl) ?_ _
            have b11 := hbel.trans ((hW.trans (b10.mono hW.size)).mono hbel.size)
            clear s0 s1 s2 hHeld b9 b10
            try clear s3
            go_wp2
            go_ret
            exact ⟨ret_b HF.out.symm, b11⟩
          · have HA := Lib.hid (HSTEP.out hrb (fun _ => by omega))
            have hd := decide_eq_false hle
            clear hrb HBAD HSTEP H1 hz hle hkm
            generalize (cs.getD k c0D).1 = cf at *
            generalize (cs.getD k c0D).2.1 = cl at *
            generalize (cs.getD k c0D).2.2 = ch at *
            generalize (cs.getD m c0D).1 = fp at *
            go_wp2
            have hW : Below wr.heap.size wr (wr.alloc (.cells #[.int .i64 cf, .int .i64 cl, .int .i64 ch] 115)) := (Below.refl _ wr).alloc (Nat.le_refl _) _
            have g0 := heap_alloc_new wr (.cells #[.int .i64 cf, .int .i64 cl, .int .i64 ch] 115)
            have hlt2 : wr.heap.size < (wr.alloc (.cells #[.int .i64 cf, .int .i64 cl, .int .i64 ch] 115)).heap.size := by simp
            generalize wr.alloc (.cells #[.int .i64 cf, .int .i64 cl, .int .i64 ch] 115) = W at *
            have q0 := cell_of_row W _ 0 _ _ _ g0
            have q1 := cell_of_row W _ 1 _ _ _ g0
            have q2 := cell_of_row W _ 2 _ _ _ g0
            simp at q0 q1 q2
            have p0 := (hW.cell (p := ⟨b, off + m * 3, none⟩) hbl).trans hc0
            refine wp_region_held_drew (S := fun w' => w'.cell? ⟨wr.heap.size, 0, none⟩ = some (.int .i64 cf) ∧ w'.cell? ⟨wr.heap.size, 1, none⟩ = some (.int .i64 cl) ∧ w'.cell? ⟨wr.heap.size, 2, none⟩ = some (.int .i64 ch) ∧ w'.cell? ⟨b, off + m * 3, none⟩ = some (.int .i64 fp)) (by kernel_rfl) ⟨q0, q1, q2, p0⟩ (fun hHeld => ?_)
            refine take_runs (i := 0) (v := ?_) (by simp only [List.getElem?_toArray, List.getElem?_cons_succ, List.getElem?_cons_zero]; rfl) (by kernel_rfl) (by kernel_rfl) (by kernel_rfl) rfl (by exact fun _ _ _ h => h) (by rfl) ?_ (by assumption) ?_
            rotate_left
            · intro w hSw; (try dsimp only at hSw); go_simp; try (with_reducible rfl)
            try simp only [Act.put, List.setIfInBounds_toArray, List.set_cons_zero, List.set_cons_succ]
            refine wpAnyH_ready (rs := [1]) (by kernel_rfl) (by simp) ?_
            refine AllReadyH.cons (o := _) (by simp only [List.getElem?_toArray, List.getElem?_cons_succ, List.getElem?_cons_zero]; rfl) (fun K hK => ?_) AllReadyH.nil
            go_simp
            refine (HR.out _).mono ?_
            rintro e w8 ⟨rfl, b9⟩
            have b10 : Below W.heap.size W w8 := ⟨b9.os, b9.tape, b9.output, b9.size, b9.block⟩
            have s0 := (b10.cell (p := ⟨wr.heap.size, 0, none⟩) hlt2).trans q0
            have s1 := (b10.cell (p := ⟨wr.heap.size, 1, none⟩) hlt2).trans q1
            have s2 := (b10.cell (p := ⟨wr.heap.size, 2, none⟩) hlt2).trans q2
            have s3 := (b10.cell (p := ⟨b, off + m * 3, none⟩) (Nat.lt_of_lt_of_le hbl hW.size)).trans p0
            refine hK.out _ _ ⟨s0, s1, s2, s3⟩ (fun hHeld => ?_)
            clear hK K
            try simp only [Act.put, List.setIfInBounds_toArray, List.set_cons_zero, List.set_cons_succ]
            refine take_runs (i := 2) (v := ?_) (by simp only [List.getElem?_toArray, List.getElem?_cons_succ, List.getElem?_cons_zero]; rfl) (by kernel_rfl) (by kernel_rfl) (by kernel_rfl) rfl (by exact fun _ _ _ h => h) (by rfl) ?_ (by assumption) ?_
            rotate_left
            · intro w hSw; (try dsimp only at hSw); go_simp; try (with_reducible rfl)
            try simp only [Act.put, List.setIfInBounds_toArray, List.set_cons_zero, List.set_cons_succ]
            refine take_runs (i := 3) (v := ?_) (by simp only [List.getElem?_toArray, List.getElem?_cons_succ, List.getElem?_cons_zero]; rfl) (by kernel_rfl) (by kernel_rfl) (by kernel_rfl) rfl (by exact fun _ _ _ h => h) (by rfl) ?_ (by assumption) ?_
            rotate_left
            · intro w hSw; (try dsimp only at hSw); go_simp; try (with_reducible rfl)
            try simp only [Act.put, List.setIfInBounds_toArray, List.set_cons_zero, List.set_cons_succ]
            refine take_runs (i := 4) (v := ?_) (by simp only [List.getElem?_toArray, List.getElem?_cons_succ, List.getElem?_cons_zero]; rfl) (by kernel_rfl) (by kernel_rfl) (by kernel_rfl) rfl (by exact fun _ _ _ h => h) (by rfl) ?_ (by assumption) ?_
            rotate_left
            · intro w hSw; (try dsimp only at hSw); go_simp; try (with_reducible rfl)
            try simp only [Act.put, List.setIfInBounds_toArray, List.set_cons_zero, List.set_cons_succ]
            refine take_runs (i := 5) (v := ?_) (by simp only [List.getElem?_toArray, List.getElem?_cons_succ, List.getElem?_cons_zero]; rfl) (by kernel_rfl) (by kernel_rfl) (by kernel_rfl) rfl (by exact fun _ _ _ h => h) (by rfl) ?_ (by assumption) ?_
            rotate_left
            · intro w hSw; (try dsimp only at hSw); go_simp; try (with_reducible rfl)
            try simp only [Act.put, List.setIfInBounds_toArray, List.set_cons_zero, List.set_cons_succ]
            refine take_runs (i := 6) (v := ?_) (by simp only [List.getElem?_toArray, List.getElem?_cons_succ, List.getElem?_cons_zero]; rfl) (by kernel_rfl) (by kernel_rfl) (by kernel_rfl) rfl (by exact fun _ _ _ h => h) (by rfl) ?_ (by assumption) ?_
            rotate_left
            · intro w hSw; (try dsimp only at hSw); go_simp; try (with_reducible rfl)
            try simp only [Act.put, List.setIfInBounds_toArray, List.set_cons_zero, List.set_cons_succ]
            refine take_runs (i := 7) (v := ?_) (by simp only [List.getElem?_toArray, List.getElem?_cons_succ, List.getElem?_cons_zero]; rfl) (by kernel_rfl) (by kernel_rfl) (by kernel_rfl) rfl (by exact fun _ _ _ h => h) (by rfl) ?_ (by assumption) ?_
            rotate_left
            · intro w hSw; (try dsimp only at hSw); go_simp; try (with_reducible rfl)
            try simp only [Act.put, List.setIfInBounds_toArray, List.set_cons_zero, List.set_cons_succ]
            refine take_runs (i := 8) (v := ?_) (by simp only [List.getElem?_toArray, List.getElem?_cons_succ, List.getElem?_cons_zero]; rfl) (by kernel_rfl) (by kernel_rfl) (by kernel_rfl) rfl (by exact fun _ _ _ h => h) (by rfl) ?_ (by assumption) ?_
            rotate_left
            · intro w hSw; (try dsimp only at hSw); go_simp; try (with_reducible rfl)
            try simp only [Act.put, List.setIfInBounds_toArray, List.set_cons_zero, List.set_cons_succ]
            refine take_runs (i := 9) (v := ?_) (by simp only [List.getElem?_toArray, List.getElem?_cons_succ, List.getElem?_cons_zero]; rfl) (by kernel_rfl) (by kernel_rfl) (by kernel_rfl) rfl (by exact fun _ _ _ h => h) (by rfl) ?_ (by assumption) ?_
            rotate_left
            · intro w hSw; (try dsimp only at hSw); go_simp; try (with_reducible rfl)
            try simp only [Act.put, List.setIfInBounds_toArray, List.set_cons_zero, List.set_cons_succ]
            refine take_runs (i := 10) (v := ?_) (by simp only [List.getElem?_toArray, List.getElem?_cons_succ, List.getElem?_cons_zero]; rfl) (by kernel_rfl) (by kernel_rfl) (by kernel_rfl) rfl (by exact fun _ _ _ h => h) (by rfl) ?_ (by assumption) ?_
            rotate_left
            · intro w hSw; (try dsimp only at hSw); go_simp; try (with_reducible rfl)
            try simp only [Act.put, List.setIfInBounds_toArray, List.set_cons_zero, List.set_cons_succ]
            refine take_runs (i := 11) (v := ?_) (by simp only [List.getElem?_toArray, List.getElem?_cons_succ, List.getElem?_cons_zero]; rfl) (by kernel_rfl) (by kernel_rfl) (by kernel_rfl) rfl (by exact fun _ _ _ h => h) (by rfl) ?_ (by assumption) ?_
            rotate_left
            · intro w hSw; (try dsimp only at hSw); go_simp; try (with_reducible rfl)
            try simp only [Act.put, List.setIfInBounds_toArray, List.set_cons_zero, List.set_cons_succ]
            refine take_runs (i := 12) (v := ?_) (by simp only [List.getElem?_toArray, List.getElem?_cons_succ, List.getElem?_cons_zero]; rfl) (by kernel_rfl) (by kernel_rfl) (by kernel_rfl) rfl (by exact fun _ _ _ h => h) (by rfl) ?_ (by assumption) ?_
            rotate_left
            · intro w hSw; (try dsimp only at hSw); go_simp; try (with_reducible rfl)
            try simp only [Act.put, List.setIfInBounds_toArray, List.set_cons_zero, List.set_cons_succ]
            refine take_runs (i := 13) (v := ?_) (by simp only [List.getElem?_toArray, List.getElem?_cons_succ, List.getElem?_cons_zero]; rfl) (by kernel_rfl) (by kernel_rfl) (by kernel_rfl) rfl (by exact fun _ _ _ h => h) (by rfl) ?_ (by assumption) ?_
            rotate_left
            · intro w hSw; (try dsimp only at hSw); go_simp; try (with_reducible rfl)
            try simp only [Act.put, List.setIfInBounds_toArray, List.set_cons_zero, List.set_cons_succ]
            refine take_runs (i := 14) (v := ?_) (by simp only [List.getElem?_toArray, List.getElem?_cons_succ, List.getElem?_cons_zero]; rfl) (by kernel_rfl) (by kernel_rfl) (by kernel_rfl) rfl (by exact fun _ _ _ h => h) (by rfl) ?_ (by assumption) ?_
            rotate_left
            · intro w hSw; (try dsimp only at hSw); go_simp; try (with_reducible rfl)
            try simp only [Act.put, List.setIfInBounds_toArray, List.set_cons_zero, List.set_cons_succ]
            refine take_runs (i := 15) (v := ?_) (by simp only [List.getElem?_toArray, List.getElem?_cons_succ, List.getElem?_cons_zero]; rfl) (by kernel_rfl) (by kernel_rfl) (by kernel_rfl) rfl (by exact fun _ _ _ h => h) (by rfl) ?_ (by assumption) ?_
            rotate_left
            · intro w hSw; (try dsimp only at hSw); go_simp; try (with_reducible rfl)
            try simp only [Act.put, List.setIfInBounds_toArray, List.set_cons_zero, List.set_cons_succ]
            refine take_runs (i := 16) (v := ?_) (by simp only [List.getElem?_toArray, List.getElem?_cons_succ, List.getElem?_cons_zero]; rfl) (by kernel_rfl) (by kernel_rfl) (by kernel_rfl) rfl (by exact fun _ _ _ h => h) (by rfl) ?_ (by assumption) ?_
            rotate_left
            · intro w hSw; (try dsimp only at hSw); go_simp; try (with_reducible rfl)
            try simp only [Act.put, List.setIfInBounds_toArray, List.set_cons_zero, List.set_cons_succ]
            refine take_runs (i := 17) (v := ?_) (by simp only [List.getElem?_toArray, List.getElem?_cons_succ, List.getElem?_cons_zero]; rfl) (by kernel_rfl) (by kernel_rfl) (by kernel_rfl) rfl (by exact fun _ _ _ h => h) (by rfl) ?_ (by assumption) ?_
            rotate_left
            · intro w hSw; (try dsimp only at hSw); go_simp; try (with_reducible rfl)
            try simp only [Act.put, List.setIfInBounds_toArray, List.set_cons_zero, List.set_cons_succ]
            refine wpAnyH_done (by kernel_rfl) ?_ _
            have b11 := hbel.trans ((hW.trans (b10.mono hW.size)).mono hbel.size)
            clear s0 s1 s2 hHeld b9 b10
            try clear s3
            go_wp2
            go_roundw
            case rel => exact ⟨k + 1, by omega, by go_num, HA, b11⟩
            case measure => simp [intOf]; omega
    · obtain rfl : k = cs.length := by omega
      have HA := Lib.hid (HT.out hall.out)
      clear hall
      go_wp2
      go_ret
      exact ⟨ret_b HA.out.symm, hbel⟩
set_option maxHeartbeats 4000000 in
set_option maxRecDepth 100000 in
theorem isOut_any (v : Value) (os : List Int) (w : World) (h : Ints w v os) (hn : os.length ≤ 1048576) :
    Calls Tryd.prog 150 #[v] w fun e w' => e = .returned (.bool (fieldsB os)) ∧ Below w.heap.size w w' := by
  have H := Lib.hid h
  obtain ⟨a, cap, rfl⟩ := ints_len h
  clear h
  by_cases hl : os.length < 1
  · have HF : Hid (fieldsB os = false) := Lib.hid (by unfold fieldsB; rw [decide_eq_false (by omega : ¬ (1 ≤ os.length ∧ os.length ≤ 3)), Bool.and_false])
    have e0 : (os.length : Int) < 1 := by omega
    go_enter Tryd.func150, Tryd.ntmps150
    go_wp2
    go_ret
    exact ⟨ret_b HF.out.symm, Below.refl _ _⟩
  by_cases hg : 3 < os.length
  · have HF : Hid (fieldsB os = false) := Lib.hid (by unfold fieldsB; rw [decide_eq_false (by omega : ¬ (1 ≤ os.length ∧ os.length ≤ 3)), Bool.and_false])
    have e0 : ¬ (os.length : Int) < 1 := by omega
    have e1 : (3 : Int) < (os.length : Int) := by omega
    go_enter Tryd.func150, Tryd.ntmps150
    go_wp2
    go_ret
    exact ⟨ret_b HF.out.symm, Below.refl _ _⟩
  have HT : Hid ((∀ k, k < os.length → 0 ≤ os.getD k 0 ∧ os.getD k 0 ≤ 2) → fieldsB os = true) := Lib.hid (fun g => by rw [fieldsB_all g]; exact decide_eq_true (by omega))
  have e0 : ¬ (os.length : Int) < 1 := by omega
  have e1 : ¬ (3 : Int) < (os.length : Int) := by omega
  go_enter Tryd.func150, Tryd.ntmps150
  go_wp2
  clear e0 e1 hl hg
  go_loopw [15] (fun i wr => ∃ k : Nat, k ≤ os.length ∧ i = .int .i64 k ∧ Hid (∀ j, j < k → 0 ≤ os.getD j 0 ∧ os.getD j 0 ≤ 2) ∧ wr = w) (fun i _ => os.length - (intOf i).toNat)
  case atStart => exact ⟨0, Nat.zero_le _, rfl, Lib.hid (fun j hj => by omega), rfl⟩
  case round =>
    obtain ⟨k, hk, rfl, hall, rfl⟩ := hrel
    by_cases hlt : k < os.length
    · obtain ⟨b, off, cap', hv, hbl, hc⟩ := ints_cell H.out (by omega)
      simp only [Value.slice.injEq] at hv
      obtain ⟨rfl, _, rfl⟩ := hv
      have hcell := hc k hlt
      have i1 : (0 : Int) ≤ (k : Int) := by omega
      have i2 : (k : Int) < (os.length : Int) := by omega
      clear hc
      by_cases hi : 0 ≤ os.getD k 0 ∧ os.getD k 0 ≤ 2
      · have HA : Hid (∀ j, j < k + 1 → 0 ≤ os.getD j 0 ∧ os.getD j 0 ≤ 2) := Lib.hid (fun j hj => by
          by_cases e : j = k
          · subst e; exact hi
          · exact hall.out j (by omega))
        have HI := Lib.hid (fun w => isField_yes (os.getD k 0) w hi.1 (by omega))
        clear hi hall
        generalize os.getD k 0 = x at *
        go_wp2_with fail
        refine (HI.out _).mono ?_
        rintro e w1 ⟨rfl, rfl⟩
        go_wp2
        go_roundw
        case rel => exact ⟨k + 1, by omega, by go_num, HA, by simp⟩
        case measure => simp [intOf]; omega
      · have HF := Lib.hid (fieldsB_bad hlt hi)
        have HI := Lib.hid (fun w => isField_no (os.getD k 0) w (by omega))
        clear hi hall
        generalize os.getD k 0 = x at *
        go_wp2_with fail
        refine (HI.out _).mono ?_
        rintro e w1 ⟨rfl, rfl⟩
        go_wp2
        go_ret
        exact ⟨ret_b HF.out.symm, Below.refl _ _⟩
    · obtain rfl : k = os.length := by omega
      have HE := Lib.hid (HT.out hall.out)
      clear hall
      go_wp2
      go_ret
      exact ⟨ret_b HE.out.symm, Below.refl _ _⟩
set_option maxHeartbeats 4000000 in
set_option maxRecDepth 100000 in
theorem implIsQuery (id tn : Int) (cv ov : Value) (cs : List CondD) (os : List Int) (w : World) (h : CondsR w cv cs) (hn : cs.length ≤ 1048576) (g : Ints w ov os) (hm : os.length ≤ 1048576) :
    Calls Tryd.prog 118 #[qV id tn cv ov] w fun e w' => e = .returned (.bool (queryB id tn cs os)) ∧ Below w.heap.size w w' := by
  obtain ⟨va, vcap, rfl⟩ := condsR_len h
  obtain ⟨oa, ocap, rfl⟩ := ints_len g
  have hb0 : Below w.heap.size w (w.alloc (.cells #[.int .i64 id, .int .i64 tn, .slice va cs.length vcap, .slice oa os.length ocap] 44)) := (Below.refl _ w).alloc (Nat.le_refl _) _
  have HB0 := Lib.hid hb0
  have HG0 := Lib.hid (heap_alloc_new w (.cells #[.int .i64 id, .int .i64 tn, .slice va cs.length vcap, .slice oa os.length ocap] 44))
  have HH := Lib.hid (condsR_below h hb0)
  have HO := Lib.hid (ints_below g hb0)
  have HV := Lib.hid (fun w h => areValid_any (.slice va cs.length vcap) cs w h hn)
  have HU := Lib.hid (fun w h => isOut_any (.slice oa os.length ocap) os w h hm)
  clear h g hn hm hb0
  have HQ : Hid (queryB id tn cs os = (decide (0 ≤ id ∧ id < 24) && (decide (0 ≤ tn ∧ tn < 4) && (condsV cs && fieldsB os)))) := Lib.hid (by
    unfold queryB condsV
    rw [show decide (0 ≤ id ∧ id < 24) = decide (0 ≤ id ∧ id ≤ 23) by congr 1; apply propext; omega, show decide (0 ≤ tn ∧ tn < 4) = decide (0 ≤ tn ∧ tn ≤ 3) by congr 1; apply propext; omega]
    cases condsB cs <;> cases decide (0 ≤ id ∧ id ≤ 23) <;> cases decide (0 ≤ tn ∧ tn ≤ 3) <;> cases decide (cs.length ≤ 3) <;> cases fieldsB os <;> rfl)
  by_cases h1 : 0 ≤ id ∧ id < 24
  · have H1 := Lib.hid (fun w => isQNum_yes id w h1.1 h1.2)
    rw [decide_eq_true h1, Bool.true_and] at HQ
    clear h1
    by_cases h2 : 0 ≤ tn ∧ tn < 4
    · have H2 := Lib.hid (fun w => isTenant_yes tn w h2.1 h2.2)
      rw [decide_eq_true h2, Bool.true_and] at HQ
      clear h2
      cases h3 : condsV cs with
      | false =>
        have HT : Hid (queryB id tn cs os = false) := Lib.hid (by rw [HQ.out, h3, Bool.false_and])
        rw [h3] at HV
        clear h3 HQ
        go_enter Tryd.func118, Tryd.ntmps118
        go_wp2_with fail
        generalize w.alloc (.cells #[.int .i64 id, .int .i64 tn, .slice va cs.length vcap, .slice oa os.length ocap] 44) = W at *
        obtain ⟨p0, p1, p2, p3⟩ := box_cells4 HG0.out (Below.refl _ _)
        refine (H1.out _).mono ?_
        rintro e w1 ⟨rfl, rfl⟩
        go_wp2_with fail
        refine (H2.out _).mono ?_
        rintro e w2 ⟨rfl, rfl⟩
        go_wp2_with fail
        refine (HV.out _ HH.out).mono ?_
        rintro e w3 ⟨rfl, b3⟩
        have c3 := HB0.out.trans (b3.mono HB0.out.size)
        go_wp2
        go_ret
        exact ⟨ret_b HT.out.symm, c3⟩
      | true =>
        have HT : Hid (queryB id tn cs os = fieldsB os) := Lib.hid (by rw [HQ.out, h3, Bool.true_and])
        rw [h3] at HV
        clear h3 HQ
        generalize fieldsB os = r at *
        go_enter Tryd.func118, Tryd.ntmps118
        go_wp2_with fail
        generalize w.alloc (.cells #[.int .i64 id, .int .i64 tn, .slice va cs.length vcap, .slice oa os.length ocap] 44) = W at *
        obtain ⟨p0, p1, p2, p3⟩ := box_cells4 HG0.out (Below.refl _ _)
        refine (H1.out _).mono ?_
        rintro e w1 ⟨rfl, rfl⟩
        go_wp2_with fail
        refine (H2.out _).mono ?_
        rintro e w2 ⟨rfl, rfl⟩
        go_wp2_with fail
        refine (HV.out _ HH.out).mono ?_
        rintro e w3 ⟨rfl, b3⟩
        have c3 := HB0.out.trans (b3.mono HB0.out.size)
        clear p0 p1 p2 p3
        obtain ⟨p0, p1, p2, p3⟩ := box_cells4 HG0.out b3
        have I3 := Lib.hid (ints_below HO.out b3)
        clear b3
        go_wp2_with fail
        refine (HU.out _ I3.out).mono ?_
        rintro e w4 ⟨rfl, b4⟩
        have c4 := c3.trans (b4.mono c3.size)
        go_wp2
        go_ret
        exact ⟨ret_b HT.out.symm, c4⟩
    · have H2 := Lib.hid (fun w => isTenant_no tn w h2)
      have HT : Hid (queryB id tn cs os = false) := Lib.hid (by rw [HQ.out, decide_eq_false h2, Bool.false_and])
      clear h2 HQ
      go_enter Tryd.func118, Tryd.ntmps118
      go_wp2_with fail
      generalize w.alloc (.cells #[.int .i64 id, .int .i64 tn, .slice va cs.length vcap, .slice oa os.length ocap] 44) = W at *
      obtain ⟨p0, p1, p2, p3⟩ := box_cells4 HG0.out (Below.refl _ _)
      refine (H1.out _).mono ?_
      rintro e w1 ⟨rfl, rfl⟩
      go_wp2_with fail
      refine (H2.out _).mono ?_
      rintro e w2 ⟨rfl, rfl⟩
      go_wp2
      go_ret
      exact ⟨ret_b HT.out.symm, HB0.out⟩
  · have H1 := Lib.hid (fun w => isQNum_no id w h1)
    have HT : Hid (queryB id tn cs os = false) := Lib.hid (by rw [HQ.out, decide_eq_false h1, Bool.false_and])
    clear h1 HQ
    go_enter Tryd.func118, Tryd.ntmps118
    go_wp2_with fail
    generalize w.alloc (.cells #[.int .i64 id, .int .i64 tn, .slice va cs.length vcap, .slice oa os.length ocap] 44) = W at *
    obtain ⟨p0, p1, p2, p3⟩ := box_cells4 HG0.out (Below.refl _ _)
    refine (H1.out _).mono ?_
    rintro e w1 ⟨rfl, rfl⟩
    go_wp2
    go_ret
    exact ⟨ret_b HT.out.symm, HB0.out⟩
end Go.Proofs.YtidhmgboknffkaaDoor
