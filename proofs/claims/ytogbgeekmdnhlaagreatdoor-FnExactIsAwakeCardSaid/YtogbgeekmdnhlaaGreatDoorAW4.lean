/-
 Texts of the proof, merged: TRow, TRowS, TActive, TActiveS, TFinished.
-/
import Derived.Test.YtogbgeekmdnhlaaGreatDoorAW1
import Derived.BigQuiet
import Derived.Deep.QuietTactic
import Derived.Deep.RegionHeld3
namespace Go.Proofs.YtogbgeekmdnhlaaGreatDoor
open Go.RowKit
set_option maxRecDepth 100000
set_option linter.unusedVariables false
set_option linter.unusedSimpArgs false
def tRow : Ty (Int × List Int) := tPair tInt tIntS
theorem tRow_law : tRow.Law := tPair_law tInt_law tIntS_law
theorem tRow_R {w : World} {cs : List Value} {a0 : Int} {x1 : List Int} (h : tRow.R w cs (a0, x1)) : ∃ v1, cs = [.int .i64 a0, v1] ∧ SlR tInt w v1 x1 := by
 obtain ⟨_, _, rfl, rfl, ⟨v1, rfl, h1⟩⟩ := h
 exact ⟨_, rfl, h1⟩
theorem tRow_sz {a0 : Int} {x1 : List Int} : tRow.sz (a0, x1) = zL tInt x1 := by
 simp only [tRow, tPair_sz, tPair_nd, tPair_nv, tInt_sz, tInt_nd, tInt_nv, tSl_sz, tSl_nd, tSl_nv]
 try omega
theorem tRow_nd {a0 : Int} {x1 : List Int} : tRow.nd (a0, x1) = 1 + ndL tInt x1 := by
 simp only [tRow, tPair_sz, tPair_nd, tPair_nv, tInt_sz, tInt_nd, tInt_nv, tSl_sz, tSl_nd, tSl_nv]
 try omega
theorem tRow_md {a0 : Int} {x1 : List Int} {k : Int} : tRow.md (a0, x1) k = ((k), mAll tInt x1 (k + 1)) := by
 simp only [tRow, tPair_md, tPair_mv, tPair_nd, tPair_nv, tInt_md, tInt_mv, tInt_nd, tInt_nv, tSl_md, tSl_mv, tSl_nd, tSl_nv, Int.natCast_add, Int.natCast_zero, Int.natCast_one, Int.add_zero, Int.zero_add, Int.add_assoc]
theorem tRow_O {w : World} {F : Nat → Prop} {cs : List Value} {a0 : Int} {x1 : List Int} (h : tRow.O w F cs (a0, x1)) : ∃ v1, ∃ F1 : Nat → Prop, cs = [.int .i64 a0, v1] ∧ SlO 3 tInt w F1 v1 x1 ∧ (∀ b, F1 b → F b) := by
 obtain ⟨_, _, F0_1, F0_2, rfl, rfl, ⟨v1, rfl, h1⟩, s0_1, s0_2, d0⟩ := h
 exact ⟨v1, F0_2, rfl, h1, fun b h => (s0_2 b h)⟩
theorem tRow_mkO {w : World} {F : Nat → Prop} {a0 : Int} {x1 : List Int} {v1 : Value} {F1 : Nat → Prop} (h1 : SlO 3 tInt w F1 v1 x1) (s1 : ∀ b, F1 b → F b)  : tRow.O w F [.int .i64 a0, v1] (a0, x1) := ⟨[.int .i64 a0], [v1], fun _ => False, F1, rfl, rfl, ⟨_, rfl, h1⟩, (fun b h => (False.elim h)), (fun b h => s1 b h), (fun b h g => (False.elim h))⟩
set_option maxHeartbeats 8000000 in
theorem szRow_Y (a0 : Int) (v1 : Value) (x1 : List Int) (k0 : Int) (w : World) (h1 : SlR tInt w v1 x1) (hs : ((zL tInt x1 : Nat) : Int) ≤ k0) (hk : k0 ≤ 1048576) :
  Calls Tryz.prog 103 #[.agg #[.int .i64 a0, v1], .int .i64 k0] w fun e w' => e = .returned (.int .i64 (k0 - ((zL tInt x1 : Nat) : Int))) ∧ Below w.heap.size w w' := by
 have H1 := hd h1
 clear h1
 have HZ1 : Hid (((zL tInt x1 : Nat) : Int) ≤ k0) := hd (by omega)
 have HK1 : Hid (k0 ≤ 1048576) := hd (by omega)
 have hn1 : ¬ k0 - ((zL tInt x1 : Nat) : Int) < 0 := by omega
 clear hs hk
 have hb : Below w.heap.size w (w.alloc (.cells #[.int .i64 a0, v1] 74)) := (Below.refl _ w).alloc (Nat.le_refl _) _
 have g0 : (w.alloc (.cells #[.int .i64 a0, v1] 74)).heap[w.heap.size]? = some (.cells #[.int .i64 a0, v1] 74 (0, 0)) := heap_alloc_new w _
 have hz0 : w.heap.size < (w.alloc (.cells #[.int .i64 a0, v1] 74)).heap.size := by simp
 go_enter Tryz.func103, Tryz.ntmps103
 go_wp2_with fail
 generalize (w.alloc (.cells #[.int .i64 a0, v1] 74)) = W at *
 refine (szIntS_Y v1 x1 (k0) W (slR_below tInt_law H1.out hb) HZ1.out HK1.out).mono ?_
 rintro e W1 ⟨rfl, b1⟩
 replace g0 := (b1.block w.heap.size hz0).trans g0
 replace hz0 := Nat.lt_of_lt_of_le hz0 b1.size
 replace hb := hb.trans (b1.mono hb.size)
 clear b1
 go_wp2
 go_ret
 exact ⟨rfl, hb⟩
set_option maxHeartbeats 8000000 in
theorem szRow_N (a0 : Int) (v1 : Value) (x1 : List Int) (k0 : Int) (w : World) (h1 : SlR tInt w v1 x1) (hs : k0 < ((zL tInt x1 : Nat) : Int)) (hk : k0 ≤ 1048576) (hp : 0 ≤ k0) (o1 : tIntS.ok x1) :
  Calls Tryz.prog 103 #[.agg #[.int .i64 a0, v1], .int .i64 k0] w fun e w' => e = .returned (.int .i64 (-1)) ∧ Below w.heap.size w w' := by
 have H1 := hd h1
 clear h1
 have HO1 := hd o1
 clear o1
 have HZ1 : Hid (k0 < ((zL tInt x1 : Nat) : Int)) := hd (by omega)
 have HP1 : Hid (0 ≤ k0) := hd (by omega)
 have HK1 : Hid (k0 ≤ 1048576) := hd (by omega)
 clear hs hk
 clear hp
 have hb : Below w.heap.size w (w.alloc (.cells #[.int .i64 a0, v1] 74)) := (Below.refl _ w).alloc (Nat.le_refl _) _
 have g0 : (w.alloc (.cells #[.int .i64 a0, v1] 74)).heap[w.heap.size]? = some (.cells #[.int .i64 a0, v1] 74 (0, 0)) := heap_alloc_new w _
 have hz0 : w.heap.size < (w.alloc (.cells #[.int .i64 a0, v1] 74)).heap.size := by simp
 go_enter Tryz.func103, Tryz.ntmps103
 go_wp2_with fail
 generalize (w.alloc (.cells #[.int .i64 a0, v1] 74)) = W at *
 refine (szIntS_N v1 x1 (k0) W (slR_below tInt_law H1.out hb) HZ1.out HK1.out HP1.out HO1.out).mono ?_
 rintro e W1 ⟨rfl, b1⟩
 replace g0 := (b1.block w.heap.size hz0).trans g0
 replace hz0 := Nat.lt_of_lt_of_le hz0 b1.size
 replace hb := hb.trans (b1.mono hb.size)
 clear b1
 go_wp2
 go_ret
 exact ⟨rfl, hb⟩
set_option maxHeartbeats 8000000 in
theorem toRow_T (a0 : Int) (v1 : Value) (x1 : List Int) (w : World) (h1 : SlR tInt w v1 x1) (s1 : zL tInt x1 ≤ 1048576) :
  Calls Tryz.prog 105 #[.agg #[.int .i64 a0, v1]] w (FreshT tRow (fun cs => .agg cs.toArray) w (a0, x1)) := by
 have H1 := hd h1
 clear h1
 have S1 := hd s1
 clear s1
 go_enter Tryz.func105, Tryz.ntmps105
 go_wp2_with fail
 have hb : Below w.heap.size w (((w.alloc (.cells #[.int .i64 a0, v1] 74)).alloc (.cells #[.int .i64 0, .slice none 0 0] 79)).alloc (.cells #[.int .i64 a0, .slice none 0 0] 79)) := (((Below.refl _ w).alloc (Nat.le_refl _) _).alloc (by simp) _).alloc (by simp; omega) _
 have g2 : (((w.alloc (.cells #[.int .i64 a0, v1] 74)).alloc (.cells #[.int .i64 0, .slice none 0 0] 79)).alloc (.cells #[.int .i64 a0, .slice none 0 0] 79)).heap[w.heap.size + 1 + 1]? = some (.cells #[.int .i64 a0, .slice none 0 0] 79 (0, 0)) := by
  have := heap_alloc_new ((w.alloc (.cells #[.int .i64 a0, v1] 74)).alloc (.cells #[.int .i64 0, .slice none 0 0] 79)) (.cells #[.int .i64 a0, .slice none 0 0] 79)
  simpa only [World.size_alloc] using this
 have g1 : (((w.alloc (.cells #[.int .i64 a0, v1] 74)).alloc (.cells #[.int .i64 0, .slice none 0 0] 79)).alloc (.cells #[.int .i64 a0, .slice none 0 0] 79)).heap[w.heap.size + 1]? = some (.cells #[.int .i64 0, .slice none 0 0] 79 (0, 0)) := by
  have := heap_alloc_new (w.alloc (.cells #[.int .i64 a0, v1] 74)) (.cells #[.int .i64 0, .slice none 0 0] 79)
  rw [Below.heap_alloc _ _ _ (by simp)]
  simpa only [World.size_alloc] using this
 have g0 : (((w.alloc (.cells #[.int .i64 a0, v1] 74)).alloc (.cells #[.int .i64 0, .slice none 0 0] 79)).alloc (.cells #[.int .i64 a0, .slice none 0 0] 79)).heap[w.heap.size]? = some (.cells #[.int .i64 a0, v1] 74 (0, 0)) := by
  rw [Below.heap_alloc _ _ _ (by simp; omega), Below.heap_alloc _ _ _ (by simp)]
  exact heap_alloc_new w _
 have hz : w.heap.size + 2 < (((w.alloc (.cells #[.int .i64 a0, v1] 74)).alloc (.cells #[.int .i64 0, .slice none 0 0] 79)).alloc (.cells #[.int .i64 a0, .slice none 0 0] 79)).heap.size := by simp [World.size_alloc]
 generalize (((w.alloc (.cells #[.int .i64 a0, v1] 74)).alloc (.cells #[.int .i64 0, .slice none 0 0] 79)).alloc (.cells #[.int .i64 a0, .slice none 0 0] 79)) = W at *
 refine (toIntS_S v1 x1 W (slR_below tInt_law H1.out hb) S1.out).mono ?_
 rintro e w1 ⟨u1, rfl, o1, b1⟩
 obtain ⟨ua1, uc1, rfl⟩ := slO_len o1
 replace o1 := slO_mono (slO_lt tInt_law o1) (F' := fun b => W.heap.size ≤ b ∧ b < w1.heap.size) (fun b h => h)
 replace g0 := (b1.block _ (by omega)).trans g0
 replace g1 := (b1.block _ (by omega)).trans g1
 replace g2 := (b1.block _ (by omega)).trans g2
 have zz1 := b1.size
 replace hb := hb.trans (b1.mono (by omega))
 clear b1
 have c2_0 := cr 0 (Value.int .i64 a0) g2
 have f2_0 := frozen_of_row w1 _ 0 _ _ g2
 have c2_1 := cr 1 (Value.slice none 0 0) g2
 have f2_1 := frozen_of_row w1 _ 1 _ _ g2
 have ne1 : ¬ w.heap.size = w.heap.size + 1 + 1 := by omega
 have ne2 : ¬ w.heap.size + 1 = w.heap.size + 1 + 1 := by omega
 have ne3 : ¬ w.heap.size + 1 + 1 = w.heap.size + 1 := by omega
 have c1_0 := cr 0 (Value.int .i64 0) g1
 have f1_0 := frozen_of_row w1 _ 0 _ _ g1
 have c1_1 := cr 1 (Value.slice none 0 0) g1
 have f1_1 := frozen_of_row w1 _ 1 _ _ g1
 go_wp2
 clear c2_0 f2_0 c2_1 f2_1 ne1 ne2 ne3 c1_0 f1_0 c1_1 f1_1
 have hw : Turn (fun b => b = w.heap.size + 1 ∨ b = w.heap.size + 1 + 1) w1 (((w1.setCell ⟨w.heap.size + 1 + 1, 1, none⟩ (.slice ua1 x1.length uc1)).setCell ⟨w.heap.size + 1, 0, none⟩ (.int .i64 a0)).setCell ⟨w.heap.size + 1, 1, none⟩ (.slice ua1 x1.length uc1)) := by
  first | exact ((((Turn.refl _ _).trans (turn_set (g := w.heap.size + 1 + 1) (j := 1) (u := .slice ua1 x1.length uc1) (Or.inr rfl))).trans (turn_set (g := w.heap.size + 1) (j := 0) (u := .int .i64 a0) (Or.inl rfl))).trans (turn_set (g := w.heap.size + 1) (j := 1) (u := .slice ua1 x1.length uc1) (Or.inl rfl))) | skip
 have r := (heap_setCell_same _ (w.heap.size + 1) 1 _ _ (.slice ua1 x1.length uc1) (heap_setCell_same _ (w.heap.size + 1) 0 _ _ (.int .i64 a0) ((heap_setCell_other _ ⟨w.heap.size + 1 + 1, 1, none⟩ (w.heap.size + 1) (.slice ua1 x1.length uc1) (by simp)).trans g1)))
 have e0 := cell_of_row _ _ 0 _ _ _ r
 have e1 := cell_of_row _ _ 1 _ _ _ r
 simp at e0 e1
 replace o1 := slO_turn tInt_law o1 hw (fun b h1 h2 => by have := h1.1; omega)
 replace hb := below_turn hb hw (fun b h => by omega) (by omega)
 refine bodyPost_ret (v := .agg #[.int .i64 a0, .slice ua1 x1.length uc1]) ?_ rfl ?_
 ·
  simp [results, Tryz.f105, go_sem, e0, e1]
 ·
  exact ⟨[.int .i64 a0, .slice ua1 x1.length uc1], rfl, tRow_mkO o1 (fun b h => by show w.heap.size ≤ b; have := h.1; omega) , hb⟩
set_option maxHeartbeats 8000000 in
theorem eqRow_T (a0 : Int) (v1 : Value) (x1 : List Int) (u1 : Value) (w : World) (h1 : SlR tInt w v1 x1) (g1 : SlR tInt w u1 x1) (s1 : zL tInt x1 ≤ 1048576) :
  Calls Tryz.prog 107 #[.agg #[.int .i64 a0, v1], .agg #[.int .i64 a0, u1]] w fun e w' => e = .returned (.bool true) ∧ Below w.heap.size w w' := by
 have H1 := hd h1; have G1 := hd g1; have S1 := hd s1
 clear h1 g1 s1
 have e0 : (a0 != a0) = false := by simp
 go_enter Tryz.func107, Tryz.ntmps107
 go_wp2_with fail
 have hb : Below w.heap.size w ((w.alloc (.cells #[.int .i64 a0, v1] 79)).alloc (.cells #[.int .i64 a0, u1] 79)) := ((Below.refl _ w).alloc (Nat.le_refl _) _).alloc (by simp) _
 have g1 : ((w.alloc (.cells #[.int .i64 a0, v1] 79)).alloc (.cells #[.int .i64 a0, u1] 79)).heap[w.heap.size + 1]? = some (.cells #[.int .i64 a0, u1] 79 (0, 0)) := by
  have := heap_alloc_new (w.alloc (.cells #[.int .i64 a0, v1] 79)) (.cells #[.int .i64 a0, u1] 79)
  simpa only [World.size_alloc] using this
 have g0 : ((w.alloc (.cells #[.int .i64 a0, v1] 79)).alloc (.cells #[.int .i64 a0, u1] 79)).heap[w.heap.size]? = some (.cells #[.int .i64 a0, v1] 79 (0, 0)) := by
  rw [Below.heap_alloc _ _ _ (by simp)]
  exact heap_alloc_new w _
 have hz : w.heap.size + 1 < ((w.alloc (.cells #[.int .i64 a0, v1] 79)).alloc (.cells #[.int .i64 a0, u1] 79)).heap.size := by simp [World.size_alloc]
 generalize ((w.alloc (.cells #[.int .i64 a0, v1] 79)).alloc (.cells #[.int .i64 a0, u1] 79)) = W at *
 refine (eqIntS_S v1 u1 x1 W (slR_below tInt_law H1.out hb) (slR_below tInt_law G1.out hb) S1.out).mono ?_
 rintro e w1 ⟨rfl, b1⟩
 replace g0 := (b1.block _ (by omega)).trans g0
 replace g1 := (b1.block _ (by omega)).trans g1
 have zz0 := b1.size
 replace hb := hb.trans (b1.mono (by omega))
 clear b1
 go_wp2
 go_ret
 exact ⟨rfl, hb⟩
abbrev tRowS : Ty (List (Int × List Int)) := tSl 79 tRow
theorem tRowS_law : tRowS.Law := tSl_law tRow_law (by decide)
set_option maxHeartbeats 8000000 in
theorem szRowS_Y (v : Value) (xs : List (Int × List Int)) (k0 : Int) (w : World) (h : SlR tRow w v xs) (hs : ((zL tRow xs : Nat) : Int) ≤ k0) (hk : k0 ≤ 1048576) :
  Calls Tryz.prog 172 #[v, .int .i64 k0] w fun e w' => e = .returned (.int .i64 (k0 - ((zL tRow xs : Nat) : Int))) ∧ Below w.heap.size w w' := by
 have H := hd h
 obtain ⟨a, cap, rfl⟩ := slR_len h
 clear h
 have h00 := zTo_le (T := tRow) (xs := xs) (Nat.zero_le _)
 rw [zTo_zero] at h00
 have HS := hd hs
 go_enter Tryz.func172, Tryz.ntmps172
 have hneg : ¬ k0 - (xs.length : Int) < 0 := by omega
 go_wp2
 clear hneg
 go_loopw [1, 5] (fun l i wr => ∃ k : Nat, k ≤ xs.length ∧ i = .int .i64 k ∧ l = .int .i64 (k0 - (zTo tRow xs k : Int)) ∧ Below w.heap.size w wr) (fun _ i _ => xs.length - (intOf i).toNat)
 case atStart => exact ⟨0, Nat.zero_le _, rfl, by rw [zTo_zero], Below.refl _ _⟩
 case round =>
  obtain ⟨k, hk', rfl, rfl, hbel⟩ := hrel
  by_cases hlt : k < xs.length
  ·
   have HST := hd (zTo_step (T := tRow) hlt)
   have HLE := hd (zTo_le (T := tRow) (xs := xs) (k := k + 1) (by omega))
   have i1 : (0 : Int) ≤ (k : Int) := by omega
   have i2 : (k : Int) < (xs.length : Int) := by omega
   obtain ⟨b, off, cap', cs, hv, hbl, hcs, hR⟩ := slR_at (slR_below tRow_law H.out hbel) hlt
   simp only [Value.slice.injEq] at hv
   obtain ⟨rfl, _, rfl⟩ := hv
   generalize xs.getD k tRow.d = x at *
   obtain ⟨a0, x1⟩ := x
   obtain ⟨v1, hR'⟩ := tRow_R hR
   obtain ⟨rfl, h1⟩ := hR'
   have p0 : wr.cell? ⟨b, off + k * 2, none⟩ = some (Value.int .i64 a0) := hcs 0 (by decide)
   have p1 : wr.cell? ⟨b, off + k * 2 + 1, none⟩ = some (v1) := hcs 1 (by decide)
   clear hcs
   have HQ : Hid (tRow.sz (a0, x1) = zL tInt x1) := hd tRow_sz
   have hx1 : ((zL tInt x1 : Nat) : Int) ≤ k0 - (zTo tRow xs k : Int) := by have := HST.out; have := HLE.out; have := HQ.out; omega
   have hx2 : k0 - (zTo tRow xs k : Int) ≤ 1048576 := by omega
   have hneg : ¬ k0 - (zTo tRow xs k : Int) - ((zL tInt x1 : Nat) : Int) < 0 := by omega
   have HC := hd (fun W b => szRow_Y a0 v1 x1 (k0 - (zTo tRow xs k : Int)) W (slR_below tInt_law h1 b) hx1 hx2)
   go_wp2_with fail
   refine (HC.out _ (Below.refl _ _)).mono ?_
   rintro e w1 ⟨rfl, b1⟩
   have b2 := hbel.trans (b1.mono hbel.size)
   go_wp2
   go_roundw
   case rel => exact ⟨k + 1, by omega, by go_num, by rw [HST.out, HQ.out]; go_num, b2⟩
   case measure => simp [intOf]; omega
  ·
   obtain rfl : k = xs.length := by omega
   go_wp2
   go_ret
   exact ⟨rfl, hbel⟩
set_option maxHeartbeats 8000000 in
theorem szRowS_N (v : Value) (xs : List (Int × List Int)) (k0 : Int) (w : World) (h : SlR tRow w v xs) (hs : k0 < ((zL tRow xs : Nat) : Int)) (hk : k0 ≤ 1048576) (hp : 0 ≤ k0) (ho : tRowS.ok xs) :
  Calls Tryz.prog 172 #[v, .int .i64 k0] w fun e w' => e = .returned (.int .i64 (-1)) ∧ Below w.heap.size w w' := by
 have H := hd h
 have HX := hd ho.2
 have hn := ho.1
 have HS := hd hs
 obtain ⟨a, cap, rfl⟩ := slR_len h
 clear h ho hs
 by_cases h1 : k0 < (xs.length : Int)
 ·
  have hneg : k0 - (xs.length : Int) < 0 := by omega
  go_enter Tryz.func172, Tryz.ntmps172
  go_wp2
  go_ret
  exact ⟨rfl, Below.refl _ _⟩
 ·
  go_enter Tryz.func172, Tryz.ntmps172
  have hneg : ¬ k0 - (xs.length : Int) < 0 := by omega
  go_wp2
  clear hneg
  go_loopw [1, 5] (fun l i wr => ∃ k : Nat, k ≤ xs.length ∧ i = .int .i64 k ∧ l = .int .i64 (k0 - (zTo tRow xs k : Int)) ∧ (zTo tRow xs k : Int) ≤ k0 ∧ Below w.heap.size w wr) (fun _ i _ => xs.length - (intOf i).toNat)
  case atStart => exact ⟨0, Nat.zero_le _, rfl, by rw [zTo_zero], by rw [zTo_zero]; omega, Below.refl _ _⟩
  case round =>
   obtain ⟨k, hk', rfl, rfl, hle, hbel⟩ := hrel
   by_cases hlt : k < xs.length
   ·
    have HST := hd (zTo_step (T := tRow) hlt)
    have hx := HX.out k hlt
    have i1 : (0 : Int) ≤ (k : Int) := by omega
    have i2 : (k : Int) < (xs.length : Int) := by omega
    obtain ⟨b, off, cap', cs, hv, hbl, hcs, hR⟩ := slR_at (slR_below tRow_law H.out hbel) hlt
    simp only [Value.slice.injEq] at hv
    obtain ⟨rfl, _, rfl⟩ := hv
    generalize xs.getD k tRow.d = x at *
    obtain ⟨a0, x1⟩ := x
    obtain ⟨v1, hR'⟩ := tRow_R hR
    obtain ⟨rfl, h1⟩ := hR'
    have p0 : wr.cell? ⟨b, off + k * 2, none⟩ = some (Value.int .i64 a0) := hcs 0 (by decide)
    have p1 : wr.cell? ⟨b, off + k * 2 + 1, none⟩ = some (v1) := hcs 1 (by decide)
    clear hcs
    have HQ : Hid (tRow.sz (a0, x1) = zL tInt x1) := hd tRow_sz
    obtain ⟨_, o1⟩ := hx
    have hz0 : (0 : Int) ≤ (zTo tRow xs k : Int) := by omega
    by_cases hg : ((zL tInt x1 : Nat) : Int) ≤ k0 - (zTo tRow xs k : Int)
    ·
     have hx2 : k0 - (zTo tRow xs k : Int) ≤ 1048576 := by omega
     have hneg : ¬ k0 - (zTo tRow xs k : Int) - ((zL tInt x1 : Nat) : Int) < 0 := by omega
     have HC := hd (fun W b => szRow_Y a0 v1 x1 (k0 - (zTo tRow xs k : Int)) W (slR_below tInt_law h1 b) hg hx2)
     go_wp2_with fail
     refine (HC.out _ (Below.refl _ _)).mono ?_
     rintro e w1 ⟨rfl, b1⟩
     have b2 := hbel.trans (b1.mono hbel.size)
     go_wp2
     go_roundw
     case rel => exact ⟨k + 1, by omega, by go_num, by rw [HST.out, HQ.out]; go_num, by rw [HST.out, HQ.out]; omega, b2⟩
     case measure => simp [intOf]; omega
    ·
     have hx1 : k0 - (zTo tRow xs k : Int) < ((zL tInt x1 : Nat) : Int) := by omega
     have hx0 : 0 ≤ k0 - (zTo tRow xs k : Int) := by omega
     have hx2 : k0 - (zTo tRow xs k : Int) ≤ 1048576 := by omega
     have HC := hd (fun W b => szRow_N a0 v1 x1 (k0 - (zTo tRow xs k : Int)) W (slR_below tInt_law h1 b) hx1 hx2 hx0 o1)
     clear hg
     go_wp2_with fail
     refine (HC.out _ (Below.refl _ _)).mono ?_
     rintro e w1 ⟨rfl, b1⟩
     have b2 := hbel.trans (b1.mono hbel.size)
     go_wp2
     go_ret
     exact ⟨rfl, b2⟩
   ·
    obtain rfl : k = xs.length := by omega
    exact absurd HS.out (by show ¬ k0 < ((zTo tRow xs xs.length : Nat) : Int); omega)
theorem Tryz.info_Row : (Tryz.prog.info? 79).map (fun i => (i.zero, i.size)) = some (some (.agg #[.int .i64 0, .slice none 0 0]), 2) := by kernel_rfl
theorem Tryz.bytes_Row : ((Tryz.prog.info? 79).map (fun i => decide (i.bytes ≤ 512))) = some true := by kernel_rfl
theorem tRow_zero (w : World) : tRow.O w (fun _ => False) #[.int .i64 0, .slice none 0 0].toList tRow.d := tRow_mkO (slO_nil _ _ _ (fun _ => False)) (fun b h => h) 
set_option maxHeartbeats 8000000 in
theorem toRowS_S (v : Value) (xs : List (Int × List Int)) (w : World) (h : SlR tRow w v xs) (hs : zL tRow xs ≤ 1048576) :
  Calls Tryz.prog 180 #[v] w (FreshS 79 tRow w xs) := by
 obtain ⟨i0, hi, hz0, hz1⟩ : ∃ i0, Tryz.prog.info? 79 = some i0 ∧ i0.zero = some (.agg #[.int .i64 0, .slice none 0 0]) ∧ i0.size = 2 := by
  have h0 := Tryz.info_Row
  cases q : Tryz.prog.info? 79 with
  | none => rw [q] at h0; simp at h0
  | some i => rw [q] at h0; simp only [Option.map_some, Option.some.injEq, Prod.mk.injEq] at h0; exact ⟨i, rfl, h0.1, h0.2⟩
 have hz2 : i0.bytes ≤ 512 := by
  have h0 := Tryz.bytes_Row
  rw [hi] at h0
  simpa using h0
 have HI := hd hi; have HZ0 := hd hz0; have HZ1 := hd hz1; have HZ2 := hd hz2
 clear hi hz0 hz1 hz2
 have H := hd h
 have hlen := zL_len hs
 have HS := hd hs
 obtain ⟨a, cap, rfl⟩ := slR_len h
 clear h hs
 go_enter Tryz.func180, Tryz.ntmps180
 go_wp2_with (at_make; refine wpList_make_full _ rfl (.tmp 6) (.tmp 6) 52 rfl w.heap.size 79 i0 (.agg #[.int .i64 0, .slice none 0 0]) 2 Tryz.underlying52 HI.out HZ0.out HZ1.out _ _ _ _ xs.length rfl rfl rfl rfl (by have h9 := Nat.mul_le_mul HZ2.out hlen; have h8 := Nat.mul_le_mul hlen HZ2.out; omega) (by unfold maxLen; omega) (Nat.le_refl _) ?_)
 intro w1 hown0 hg0
 have hown1 : SlO 79 tRow w1 (since w) (.slice (some ⟨w.heap.size, 0, none⟩) xs.length xs.length) (List.replicate xs.length tRow.d) := slO_made (z := #[.int .i64 0, .slice none 0 0]) tRow_law rfl (tRow_zero w1) (Nat.le_refl _) hown0
 have hbel1 := (Below.refl w.heap.size w).grown hg0 (Nat.le_refl _) (fun k hk => by cases hk)
 clear hown0 hg0
 go_wp2
 go_loopw [4] (fun i wr => ∃ k : Nat, k ≤ xs.length ∧ i = .int .i64 k ∧ SlO 79 tRow wr (since w) (.slice (some ⟨w.heap.size, 0, none⟩) xs.length xs.length) (xs.take k ++ List.replicate (xs.length - k) tRow.d) ∧ Below w.heap.size w wr) (fun i _ => xs.length - (intOf i).toNat)
 case atStart => exact ⟨0, Nat.zero_le _, rfl, by simpa using hown1, hbel1⟩
 case round =>
  obtain ⟨k, hk, rfl, hown, hbel⟩ := hrel
  by_cases hlt : k < xs.length
  ·
   have HSET := hd (cTo_step (d := tRow.d) hlt)
   have HKL : Hid (k < (xs.take k ++ List.replicate (xs.length - k) tRow.d).length) := hd (by rw [cTo_len hk]; exact hlt)
   have HLL := hd (cTo_len (d := tRow.d) hk)
   have i1 : (0 : Int) ≤ (k : Int) := by omega
   have i2 : (k : Int) < (xs.length : Int) := by omega
   have hzx := zL_at HS.out hlt
   obtain ⟨b, off, cap', cs, hv, hbl, hcs, hR⟩ := slR_at (slR_below tRow_law H.out hbel) hlt
   simp only [Value.slice.injEq] at hv
   obtain ⟨rfl, _, rfl⟩ := hv
   obtain ⟨hme, hFg, hgl, cj, Fj, Lc, hrow, hLc, hO, hFj, hput⟩ := slO_open tRow_law hown HKL.out
   clear hme
   clear hown1 hbel1
   generalize xs.getD k tRow.d = x at *
   generalize xs.take k ++ List.replicate (xs.length - k) tRow.d = ys at *
   obtain ⟨a0, x1⟩ := x
   obtain ⟨v1, hR'⟩ := tRow_R hR
   obtain ⟨rfl, h1⟩ := hR'
   have p0 : wr.cell? ⟨b, off + k * 2, none⟩ = some (Value.int .i64 a0) := hcs 0 (by decide)
   have p1 : wr.cell? ⟨b, off + k * 2 + 1, none⟩ = some (v1) := hcs 1 (by decide)
   rw [tRow_sz] at hzx
   have S1 := hd (show zL tInt x1 ≤ 1048576 by omega)
   have HC := hd (fun w g1 => toRow_T a0 v1 x1 w g1 S1.out)
   have G1 := hd h1
   clear hcs hzx h1
   go_wp2_with fail
   refine (HC.out _ G1.out).mono ?_
   rintro e w2 ⟨cv, rfl, ow, b2⟩
   replace ow := tRow_law.lt ow
   have ow2 := ow
   obtain ⟨u1, K1, rfl, o1, _⟩ := tRow_O ow2
   obtain ⟨ua1, uc1, rfl⟩ := slO_len o1
   clear o1
   have r0 := row_turn (G := fun _ => False) hrow (turn_below b2) (fun _ _ => not_false)
   rw [HLL.out] at r0
   have q0 : ∃ x, w2.cell? ⟨w.heap.size, k * 2, none⟩ = some x := zq r0 (k * 2) (by have := HKL.out; rw [HLL.out] at this; show _ < xs.length * 2; omega)
   obtain ⟨y0, q0⟩ := q0
   have f0 := World.ownsRow.frozenAt r0 (k * 2)
   have q1 : ∃ x, w2.cell? ⟨w.heap.size, k * 2 + 1, none⟩ = some x := zq r0 (k * 2 + 1) (by have := HKL.out; rw [HLL.out] at this; show _ < xs.length * 2; omega)
   obtain ⟨y1, q1⟩ := q1
   have f1 := World.ownsRow.frozenAt r0 (k * 2 + 1)
   have b3 := hbel.trans (b2.mono hbel.size)
   have B3 := hd ((b3.setCell (p := ⟨w.heap.size, k * 2, none⟩) (Nat.le_refl _) (.int .i64 a0)).setCell (p := ⟨w.heap.size, k * 2 + 1, none⟩) (Nat.le_refl _) (.slice ua1 x1.length uc1))
   have hT : Turn (fun b => b = w.heap.size ∨ Fj b ∨ wr.heap.size ≤ b) wr ((w2.setCell ⟨w.heap.size, k * 2, none⟩ (.int .i64 a0)).setCell ⟨w.heap.size, k * 2 + 1, none⟩ (.slice ua1 x1.length uc1)) := (((turn_below b2).trans (turn_set (j := k * 2) (u := .int .i64 a0) (Or.inl rfl))).trans (turn_set (j := k * 2 + 1) (u := .slice ua1 x1.length uc1) (Or.inl rfl)))
   have hT2 : Turn (fun b => b = w.heap.size) w2 ((w2.setCell ⟨w.heap.size, k * 2, none⟩ (.int .i64 a0)).setCell ⟨w.heap.size, k * 2 + 1, none⟩ (.slice ua1 x1.length uc1)) := (((Turn.refl (fun b => b = w.heap.size) _).trans (turn_set (G := fun b => b = w.heap.size) (j := k * 2) (u := .int .i64 a0) rfl)).trans (turn_set (G := fun b => b = w.heap.size) (j := k * 2 + 1) (u := .slice ua1 x1.length uc1) rfl))
   have hO2 := tRow_law.turn ow hT2 (fun b h1 h2 => by have := h1.1; simp only [since] at this; omega)
   have r9 := (World.ownsRow.stored (World.ownsRow.stored r0 (k * 2) (.int .i64 a0)).1 (k * 2 + 1) (.slice ua1 x1.length uc1)).1
   have hLl : Lc.length = xs.length * 2 := r0.1
   have hst := hd (hput ((w2.setCell ⟨w.heap.size, k * 2, none⟩ (.int .i64 a0)).setCell ⟨w.heap.size, k * 2 + 1, none⟩ (.slice ua1 x1.length uc1)) ((Lc.set (k * 2) (.int .i64 a0)).set (k * 2 + 1) (.slice ua1 x1.length uc1)) [.int .i64 a0, .slice ua1 x1.length uc1] _ (a0, x1) (by rw [HLL.out]; exact r9) (fun p hp => by have hp2 : p < k * 2 ∨ k * 2 + 2 ≤ p := hp; rw [List.getElem?_set_ne (by omega)]; rw [List.getElem?_set_ne (by omega)]) (fun i hi => by have hi' : i < 2 := hi; match i, hi' with | 0, _ => (show (((Lc.set (k * 2) (.int .i64 a0)).set (k * 2 + 1) (.slice ua1 x1.length uc1)))[k * 2]? = _; rw [List.getElem?_set_ne (by omega)]; rw [List.getElem?_set_self (by first | omega | (simp only [List.length_set]; omega))]; rfl) | 1, _ => (show (((Lc.set (k * 2) (.int .i64 a0)).set (k * 2 + 1) (.slice ua1 x1.length uc1)))[k * 2 + 1]? = _; rw [List.getElem?_set_self (by first | omega | (simp only [List.length_set]; omega))]; rfl)) hO2 (fun b hb => ⟨Nat.le_trans hbel.size hb.1, Or.inr hb.1⟩) hT)
   have hst2 : SlO 79 tRow ((w2.setCell ⟨w.heap.size, k * 2, none⟩ (.int .i64 a0)).setCell ⟨w.heap.size, k * 2 + 1, none⟩ (.slice ua1 x1.length uc1)) (since w) (.slice (some ⟨w.heap.size, 0, none⟩) xs.length xs.length) (xs.take (k + 1) ++ List.replicate (xs.length - (k + 1)) tRow.d) := by have := hst.out; rw [HSET.out] at this; exact this
   have HST := hd hst2
   clear hst hst2 hT hT2 hO2 r9 r0 hrow hO hput hown hbel b2 ow b3 hLl hLc hFj
   go_wp2
   go_roundw
   case rel => exact ⟨k + 1, by omega, by go_num, HST.out, B3.out⟩
   case measure => simp [intOf]; omega
  ·
   obtain rfl : k = xs.length := by omega
   have HE : Hid (xs.take xs.length ++ List.replicate (xs.length - xs.length) tRow.d = xs) := hd (by simp)
   rw [HE.out] at hown
   go_wp2
   go_ret
   exact ⟨_, rfl, hown, hbel⟩
set_option maxHeartbeats 8000000 in
theorem eqRowS_S (v u : Value) (xs : List (Int × List Int)) (w : World) (h : SlR tRow w v xs) (g : SlR tRow w u xs) (hs : zL tRow xs ≤ 1048576) :
  Calls Tryz.prog 76 #[v, u] w fun e w' => e = .returned (.bool true) ∧ Below w.heap.size w w' := by
 have H := hd h
 have G := hd g
 have HS := hd hs
 have hlen := zL_len hs
 obtain ⟨a, cap, rfl⟩ := slR_len h
 obtain ⟨a2, cap2, rfl⟩ := slR_len g
 clear h g hs
 go_enter Tryz.func76, Tryz.ntmps76
 go_wp2
 go_loopw [5] (fun i wr => ∃ k : Nat, k ≤ xs.length ∧ i = .int .i64 k ∧ Below w.heap.size w wr) (fun i _ => xs.length - (intOf i).toNat)
 case atStart => exact ⟨0, Nat.zero_le _, rfl, Below.refl _ _⟩
 case round =>
  obtain ⟨k, hk, rfl, hbel⟩ := hrel
  by_cases hlt : k < xs.length
  ·
   obtain ⟨b, off, cap', cs, hv, hbl, hcs, hR⟩ := slR_at (slR_below tRow_law H.out hbel) hlt
   simp only [Value.slice.injEq] at hv
   obtain ⟨rfl, _, rfl⟩ := hv
   obtain ⟨b2, off2, cap2', ds, hv2, hbl2, hds, hQ⟩ := slR_at (slR_below tRow_law G.out hbel) hlt
   simp only [Value.slice.injEq] at hv2
   obtain ⟨rfl, _, rfl⟩ := hv2
   have hzx := zL_at HS.out hlt
   have i1 : (0 : Int) ≤ (k : Int) := by omega
   have i2 : (k : Int) < (xs.length : Int) := by omega
   generalize xs.getD k tRow.d = x at *
   obtain ⟨a0, x1⟩ := x
   obtain ⟨v1, hR'⟩ := tRow_R hR
   obtain ⟨rfl, h1⟩ := hR'
   obtain ⟨u1, hQ'⟩ := tRow_R hQ
   obtain ⟨rfl, g1⟩ := hQ'
   rw [tRow_sz] at hzx
   have S1 := hd (show zL tInt x1 ≤ 1048576 by omega)
   have p0 : wr.cell? ⟨b, off + k * 2, none⟩ = some (Value.int .i64 a0) := hcs 0 (by decide)
   have q0 : wr.cell? ⟨b2, off2 + k * 2, none⟩ = some (Value.int .i64 a0) := hds 0 (by decide)
   have p1 : wr.cell? ⟨b, off + k * 2 + 1, none⟩ = some (v1) := hcs 1 (by decide)
   have q1 : wr.cell? ⟨b2, off2 + k * 2 + 1, none⟩ = some (u1) := hds 1 (by decide)
   clear hcs hds hzx
   go_wp2
   go_region_with (first | (go_at_call 107; refine (eqRow_T a0 v1 x1 u1 _ (by exact slR_same tInt_law h1 rfl rfl rfl rfl) (by exact slR_same tInt_law g1 rfl rfl rfl rfl) S1.out).mono ?_; rintro e w8 ⟨rfl, b9⟩; have b10 : Below wr.heap.size wr w8 := ⟨b9.os, b9.tape, b9.output, b9.size, b9.block⟩))
   all_goals
    have b11 := hbel.trans (b10.mono hbel.size)
    go_wp2
    go_roundw
    case rel => exact ⟨k + 1, by omega, by go_num, b11⟩
    case measure => simp [intOf]; omega
  ·
   go_wp2
   go_ret
   exact ⟨rfl, hbel⟩
set_option maxHeartbeats 8000000 in
theorem markRowS_S (v : Value) (xs : List (Int × List Int)) (F : Nat → Prop) (k : Int) (w : World) (h : SlO 79 tRow w F v xs) (hs : zL tRow xs ≤ 1048576) (k0 : 0 ≤ k) (k1 : k ≤ 1006632960) :
  Calls Tryz.prog 77 #[v, .int .i64 k] w fun e w' => e = .returned (.int .i64 (k + (ndL tRow xs : Int))) ∧ SlO 79 tRow w' F v (mAll tRow xs k) ∧ Turn F w w' := by
 rw [← kAt_all]
 have HS := hd hs
 have hlen := zL_len hs
 rcases slO_form h with ⟨rfl, rfl⟩ | ⟨g, cap, rfl, hFg, hgw⟩
 ·
  have H := hd h
  clear h hs
  go_enter Tryz.func77, Tryz.ntmps77
  go_wp2
  go_loop [1, 5] (fun m i => i = .int .i64 0 ∧ m = .int .i64 k) (fun _ _ => 0)
  case atStart => exact ⟨rfl, rfl⟩
  case round =>
   obtain ⟨rfl, rfl⟩ := hrel
   go_wp2
   go_ret
   exact ⟨by simp [kAt, sumN], by rw [show mAll tRow [] k = [] from rfl]; exact H.out, Turn.refl _ _⟩
 ·
  have H := hd h
  clear h hs
  go_enter Tryz.func77, Tryz.ntmps77
  go_wp2
  go_loopw [1, 5] (fun m i wr => ∃ j : Nat, j ≤ xs.length ∧ i = .int .i64 j ∧ m = .int .i64 (kAt tRow xs k j) ∧ SlO 79 tRow wr (fun b => F b ∧ b < w.heap.size) (.slice (some ⟨g, 0, none⟩) xs.length cap) (mTo tRow xs k j) ∧ Turn F w wr) (fun _ i _ => xs.length - (intOf i).toNat)
  case atStart => exact ⟨0, Nat.zero_le _, rfl, by rw [kAt_zero], by rw [mTo_zero]; exact slO_lt tRow_law H.out, Turn.refl _ _⟩
  case round =>
   obtain ⟨j, hj, rfl, rfl, hown, hon⟩ := hrel
   by_cases hlt : j < xs.length
   ·
    have i1 : (0 : Int) ≤ (j : Int) := by omega
    have i2 : (j : Int) < (xs.length : Int) := by omega
    have hjl : j < (mTo tRow xs k j).length := by rw [mTo_len hj]; exact hlt
    have HLL := hd (mTo_len (T := tRow) (k := k) hj)
    obtain ⟨r1, r2⟩ := kAt_range tRow_law (by decide) (k := k) HS.out hj
    obtain ⟨r3, r4⟩ := kAt_range tRow_law (by decide) (k := k) (j := j + 1) HS.out (by omega)
    have hzx := zL_at HS.out hlt
    have hstep := kAt_step (T := tRow) (k := k) hlt
    have hset := mTo_step (T := tRow) (k := k) hlt
    have hsz := hon.size
    obtain ⟨hme, hFg2, hgl, cj, Fj, Lc, hrow, hLc, hO, hFj, hput⟩ := slO_open tRow_law hown hjl
    clear hme hFg2
    rw [mTo_at hlt] at hO
    have HM : Hid (∃ m', kAt tRow xs k (j + 1) = m') := hd ⟨_, rfl⟩
    obtain ⟨m', hm'⟩ := HM.out
    rw [hm'] at hstep r3 r4
    have HM' := hd hm'
    clear hm' HM H hown hjl
    generalize kAt tRow xs k j = m at *
    generalize xs.getD j tRow.d = x at *
    rw [HLL.out] at hrow hput
    obtain ⟨a0, x1⟩ := x
    rw [tRow_md] at hset
    rw [tRow_nd] at hstep
    rw [tRow_sz] at hzx
    obtain ⟨v1, K1, rfl, o1, q1⟩ := tRow_O hO
    have S1 := hd (show zL tInt x1 ≤ 1048576 by omega)
    have N1 := ndL_le tInt_law (by decide) x1
    have R1 : Hid (0 ≤ m + 1 ∧ m + 1 ≤ 1073741824) := hd (by omega)
    have hmm : m + 1 + (ndL tInt x1 : Int) = m' := by omega
    have HMM := hd hmm
    have hm0 : 0 ≤ m := by omega
    have hm1 : m ≤ 1073741824 := by omega
    clear hmm hstep hzx N1
    have hLl : Lc.length = xs.length * 2 := hrow.1
    have HSET := hd hset
    clear hset
    have tt : Turn (fun b => b = g ∨ Fj b ∨ wr.heap.size ≤ b) wr wr := Turn.refl _ _
    have rr := hrow
    have c0 : ∃ x, wr.cell? ⟨g, j * 2, none⟩ = some x := ⟨_, (World.ownsRow.cellAt rr (j * 2) (by show j * 2 < xs.length * 2; omega)).trans (List.getElem?_eq_getElem (by have h9 := rr.1; have h8 : xs.length * tRow.n = xs.length * 2 := rfl; omega))⟩
    obtain ⟨y0, c0⟩ := c0
    have f0 := World.ownsRow.frozenAt rr (j * 2)
    have cv1 : wr.cell? ⟨g, j * 2 + 1, none⟩ = some v1 := (World.ownsRow.cellAt rr (j * 2 + 1) (by show j * 2 + 1 < xs.length * 2; omega)).trans (by exact hLc 1 (by decide))
    go_wp2_with fail
    clear c0 f0 cv1
    have ts : Turn (fun b => b = g) wr (wr.setCell ⟨g, j * 2, none⟩ (.int .i64 (m))) := ((Turn.refl (fun b => b = g) _).trans (turn_set (G := fun b => b = g) (g := g) (j := j * 2) (u := .int .i64 (m)) rfl))
    replace rr := (World.ownsRow.stored rr (j * 2) (.int .i64 (m))).1
    replace o1 := slO_turn tInt_law o1 ts (fun b h1 h2 => (hFj b (q1 b h1)).2.1 h2)
    replace tt := tt.trans (ts.mono (fun b h => Or.inl h))
    clear ts
    generalize (wr.setCell ⟨g, j * 2, none⟩ (.int .i64 (m))) = W0 at *
    refine (markIntS_S v1 x1 _ (m + 1) W0 o1 S1.out R1.out.1 (by have := R1.out.2; omega)).mono ?_
    rintro e w1 ⟨rfl, m1, t1⟩
    replace rr := row_turn rr t1 (fun b hb h => by simp [Value.ownBlock] at hb; exact (hFj b (q1 b h)).2.1 hb.symm)
    replace o1 := m1
    replace tt := tt.trans (t1.mono (fun b h => Or.inr (Or.inl (q1 b h))))
    clear t1
    have hO2 := tRow_mkO (F := Fj) (a0 := m) o1 q1 
    have hst := hput w1 (Lc.set (j * 2) (.int .i64 (m))) [.int .i64 (m), v1] Fj _ rr (fun p hp => by have hp2 : p < j * 2 ∨ j * 2 + 2 ≤ p := hp; rw [List.getElem?_set_ne (by omega)]) (fun i hi => by have hi' : i < 2 := hi; match i, hi' with | 0, _ => (show ((Lc.set (j * 2) (.int .i64 (m))))[j * 2]? = _; rw [List.getElem?_set_self (by first | omega | (simp only [List.length_set]; omega))]; rfl) | 1, _ => (show ((Lc.set (j * 2) (.int .i64 (m))))[j * 2 + 1]? = _; rw [List.getElem?_set_ne (by omega)]; exact hLc 1 (by decide))) hO2 (fun b hb => ⟨(hFj b hb).1, Or.inl hb⟩) tt
    rw [HSET.out] at hst
    have HST := hd hst
    have hon2 := hon.trans (Turn.mono (G := fun b => F b ∧ b < w.heap.size) (G' := F) ⟨tt.os, tt.tape, tt.output, tt.size, fun b hb hn => tt.block b hb (fun h => hn (h.elim (fun h => by rw [h]; exact ⟨hFg, hgw⟩) (fun h => h.elim (fun h => (hFj b h).1) (fun h => absurd hb (Nat.not_lt.2 h)))))⟩ (fun b h => h.1))
    clear hst hput tt rr hO2 hon hFj hLc hLl o1
    rw [HMM.out]
    go_wp2
    go_roundw
    case rel => exact ⟨j + 1, by omega, by go_num, by rw [HM'.out], HST.out, hon2⟩
    case measure => simp [intOf]; omega
   ·
    obtain rfl : j = xs.length := by omega
    rw [mTo_all] at hown
    go_wp2
    go_ret
    exact ⟨rfl, slO_mono hown (fun b h => h.1), hon⟩
def tActive : Ty ((Int × Int × List (Int × Int × Int) × List Int) × Int × List Int × Int × Int × Int × List (Int × List Int)) := tPair tQuery (tPair tInt (tPair tIntS (tPair tInt (tPair tInt (tPair tInt tRowS)))))
theorem tActive_law : tActive.Law := tPair_law tQuery_law (tPair_law tInt_law (tPair_law tIntS_law (tPair_law tInt_law (tPair_law tInt_law (tPair_law tInt_law tRowS_law)))))
theorem tActive_R {w : World} {cs : List Value} {a0 : Int} {a1 : Int} {x2 : List (Int × Int × Int)} {x3 : List Int} {a4 : Int} {x5 : List Int} {a6 : Int} {a7 : Int} {a8 : Int} {x9 : List (Int × List Int)} (h : tActive.R w cs ((a0, a1, x2, x3), a4, x5, a6, a7, a8, x9)) : ∃ v2 v3 v5 v9, cs = [.int .i64 a0, .int .i64 a1, v2, v3, .int .i64 a4, v5, .int .i64 a6, .int .i64 a7, .int .i64 a8, v9] ∧ SlR tCond w v2 x2 ∧ SlR tInt w v3 x3 ∧ SlR tInt w v5 x5 ∧ SlR tRow w v9 x9 := by
 obtain ⟨_, _, rfl, ⟨_, _, rfl, rfl, ⟨_, _, rfl, rfl, ⟨_, _, rfl, ⟨v2, rfl, h2⟩, ⟨v3, rfl, h3⟩⟩⟩⟩, ⟨_, _, rfl, rfl, ⟨_, _, rfl, ⟨v5, rfl, h5⟩, ⟨_, _, rfl, rfl, ⟨_, _, rfl, rfl, ⟨_, _, rfl, rfl, ⟨v9, rfl, h9⟩⟩⟩⟩⟩⟩⟩ := h
 exact ⟨_, _, _, _, rfl, h2, h3, h5, h9⟩
theorem tActive_sz {a0 : Int} {a1 : Int} {x2 : List (Int × Int × Int)} {x3 : List Int} {a4 : Int} {x5 : List Int} {a6 : Int} {a7 : Int} {a8 : Int} {x9 : List (Int × List Int)} : tActive.sz ((a0, a1, x2, x3), a4, x5, a6, a7, a8, x9) = zL tCond x2 + zL tInt x3 + zL tInt x5 + zL tRow x9 := by
 simp only [tActive, tPair_sz, tPair_nd, tPair_nv, tInt_sz, tInt_nd, tInt_nv, tSl_sz, tSl_nd, tSl_nv, tQuery]
 try omega
theorem tActive_nd {a0 : Int} {a1 : Int} {x2 : List (Int × Int × Int)} {x3 : List Int} {a4 : Int} {x5 : List Int} {a6 : Int} {a7 : Int} {a8 : Int} {x9 : List (Int × List Int)} : tActive.nd ((a0, a1, x2, x3), a4, x5, a6, a7, a8, x9) = 6 + ndL tCond x2 + ndL tInt x3 + ndL tInt x5 + ndL tRow x9 := by
 simp only [tActive, tPair_sz, tPair_nd, tPair_nv, tInt_sz, tInt_nd, tInt_nv, tSl_sz, tSl_nd, tSl_nv, tQuery]
 try omega
theorem tActive_md {a0 : Int} {a1 : Int} {x2 : List (Int × Int × Int)} {x3 : List Int} {a4 : Int} {x5 : List Int} {a6 : Int} {a7 : Int} {a8 : Int} {x9 : List (Int × List Int)} {k : Int} : tActive.md ((a0, a1, x2, x3), a4, x5, a6, a7, a8, x9) k = (((k), (k + 1), mAll tCond x2 (k + 1 + 1), mAll tInt x3 (k + 1 + 1 + (ndL tCond x2 : Int))), (k + 1 + 1 + (ndL tCond x2 : Int) + (ndL tInt x3 : Int)), mAll tInt x5 (k + 1 + 1 + (ndL tCond x2 : Int) + (ndL tInt x3 : Int) + 1), (k + 1 + 1 + (ndL tCond x2 : Int) + (ndL tInt x3 : Int) + 1 + (ndL tInt x5 : Int)), (k + 1 + 1 + (ndL tCond x2 : Int) + (ndL tInt x3 : Int) + 1 + (ndL tInt x5 : Int) + 1), (k + 1 + 1 + (ndL tCond x2 : Int) + (ndL tInt x3 : Int) + 1 + (ndL tInt x5 : Int) + 1 + 1), mAll tRow x9 (k + 1 + 1 + (ndL tCond x2 : Int) + (ndL tInt x3 : Int) + 1 + (ndL tInt x5 : Int) + 1 + 1 + 1)) := by
 simp only [tActive, tPair_md, tPair_mv, tPair_nd, tPair_nv, tInt_md, tInt_mv, tInt_nd, tInt_nv, tSl_md, tSl_mv, tSl_nd, tSl_nv, tQuery, Int.natCast_add, Int.natCast_zero, Int.natCast_one, Int.add_zero, Int.zero_add, Int.add_assoc]
theorem tActive_O {w : World} {F : Nat → Prop} {cs : List Value} {a0 : Int} {a1 : Int} {x2 : List (Int × Int × Int)} {x3 : List Int} {a4 : Int} {x5 : List Int} {a6 : Int} {a7 : Int} {a8 : Int} {x9 : List (Int × List Int)} (h : tActive.O w F cs ((a0, a1, x2, x3), a4, x5, a6, a7, a8, x9)) : ∃ v2 v3 v5 v9, ∃ F2 F3 F5 F9 : Nat → Prop, cs = [.int .i64 a0, .int .i64 a1, v2, v3, .int .i64 a4, v5, .int .i64 a6, .int .i64 a7, .int .i64 a8, v9] ∧ SlO 182 tCond w F2 v2 x2 ∧ SlO 3 tInt w F3 v3 x3 ∧ SlO 3 tInt w F5 v5 x5 ∧ SlO 79 tRow w F9 v9 x9 ∧ (∀ b, F2 b → F b) ∧ (∀ b, F3 b → F b) ∧ (∀ b, F5 b → F b) ∧ (∀ b, F9 b → F b) ∧ (∀ b, F2 b → ¬ F3 b) ∧ (∀ b, F2 b → ¬ F5 b) ∧ (∀ b, F2 b → ¬ F9 b) ∧ (∀ b, F3 b → ¬ F5 b) ∧ (∀ b, F3 b → ¬ F9 b) ∧ (∀ b, F5 b → ¬ F9 b) := by
 obtain ⟨_, _, F0_1, F0_2, rfl, ⟨_, _, F1_1, F1_2, rfl, rfl, ⟨_, _, F2_1, F2_2, rfl, rfl, ⟨_, _, F3_1, F3_2, rfl, ⟨v2, rfl, h2⟩, ⟨v3, rfl, h3⟩, s3_1, s3_2, d3⟩, s2_1, s2_2, d2⟩, s1_1, s1_2, d1⟩, ⟨_, _, F4_1, F4_2, rfl, rfl, ⟨_, _, F5_1, F5_2, rfl, ⟨v5, rfl, h5⟩, ⟨_, _, F6_1, F6_2, rfl, rfl, ⟨_, _, F7_1, F7_2, rfl, rfl, ⟨_, _, F8_1, F8_2, rfl, rfl, ⟨v9, rfl, h9⟩, s8_1, s8_2, d8⟩, s7_1, s7_2, d7⟩, s6_1, s6_2, d6⟩, s5_1, s5_2, d5⟩, s4_1, s4_2, d4⟩, s0_1, s0_2, d0⟩ := h
 exact ⟨v2, v3, v5, v9, F3_1, F3_2, F5_1, F8_2, rfl, h2, h3, h5, h9, fun b h => (s0_1 b (s1_2 b (s2_2 b (s3_1 b h)))), fun b h => (s0_1 b (s1_2 b (s2_2 b (s3_2 b h)))), fun b h => (s0_2 b (s4_2 b (s5_1 b h))), fun b h => (s0_2 b (s4_2 b (s5_2 b (s6_2 b (s7_2 b (s8_2 b h)))))), fun b h h2 => d3 b h h2, fun b h h2 => d0 b (s1_2 b (s2_2 b (s3_1 b h))) (s4_2 b (s5_1 b h2)), fun b h h2 => d0 b (s1_2 b (s2_2 b (s3_1 b h))) (s4_2 b (s5_2 b (s6_2 b (s7_2 b (s8_2 b h2))))), fun b h h2 => d0 b (s1_2 b (s2_2 b (s3_2 b h))) (s4_2 b (s5_1 b h2)), fun b h h2 => d0 b (s1_2 b (s2_2 b (s3_2 b h))) (s4_2 b (s5_2 b (s6_2 b (s7_2 b (s8_2 b h2))))), fun b h h2 => d5 b h (s6_2 b (s7_2 b (s8_2 b h2)))⟩
theorem tActive_mkO {w : World} {F : Nat → Prop} {a0 : Int} {a1 : Int} {x2 : List (Int × Int × Int)} {x3 : List Int} {a4 : Int} {x5 : List Int} {a6 : Int} {a7 : Int} {a8 : Int} {x9 : List (Int × List Int)} {v2 v3 v5 v9 : Value} {F2 F3 F5 F9 : Nat → Prop} (h2 : SlO 182 tCond w F2 v2 x2) (h3 : SlO 3 tInt w F3 v3 x3) (h5 : SlO 3 tInt w F5 v5 x5) (h9 : SlO 79 tRow w F9 v9 x9) (s2 : ∀ b, F2 b → F b) (s3 : ∀ b, F3 b → F b) (s5 : ∀ b, F5 b → F b) (s9 : ∀ b, F9 b → F b) (d2_3 : ∀ b, F2 b → ¬ F3 b) (d2_5 : ∀ b, F2 b → ¬ F5 b) (d2_9 : ∀ b, F2 b → ¬ F9 b) (d3_5 : ∀ b, F3 b → ¬ F5 b) (d3_9 : ∀ b, F3 b → ¬ F9 b) (d5_9 : ∀ b, F5 b → ¬ F9 b) : tActive.O w F [.int .i64 a0, .int .i64 a1, v2, v3, .int .i64 a4, v5, .int .i64 a6, .int .i64 a7, .int .i64 a8, v9] ((a0, a1, x2, x3), a4, x5, a6, a7, a8, x9) := ⟨[.int .i64 a0, .int .i64 a1, v2, v3], [.int .i64 a4, v5, .int .i64 a6, .int .i64 a7, .int .i64 a8, v9], fun b => F2 b ∨ (F3 b), fun b => F5 b ∨ (F9 b), rfl, ⟨[.int .i64 a0], [.int .i64 a1, v2, v3], fun _ => False, fun b => F2 b ∨ (F3 b), rfl, rfl, ⟨[.int .i64 a1], [v2, v3], fun _ => False, fun b => F2 b ∨ (F3 b), rfl, rfl, ⟨[v2], [v3], F2, F3, rfl, ⟨_, rfl, h2⟩, ⟨_, rfl, h3⟩, (fun b h => (Or.inl h)), (fun b h => (Or.inr h)), (fun b h g => d2_3 b h g)⟩, (fun b h => (False.elim h)), (fun b h => (h.elim (fun q0 => (Or.inl q0)) (fun q0 => (Or.inr q0)))), (fun b h g => (False.elim h))⟩, (fun b h => (False.elim h)), (fun b h => (h.elim (fun q0 => (Or.inl q0)) (fun q0 => (Or.inr q0)))), (fun b h g => (False.elim h))⟩, ⟨[.int .i64 a4], [v5, .int .i64 a6, .int .i64 a7, .int .i64 a8, v9], fun _ => False, fun b => F5 b ∨ (F9 b), rfl, rfl, ⟨[v5], [.int .i64 a6, .int .i64 a7, .int .i64 a8, v9], F5, F9, rfl, ⟨_, rfl, h5⟩, ⟨[.int .i64 a6], [.int .i64 a7, .int .i64 a8, v9], fun _ => False, F9, rfl, rfl, ⟨[.int .i64 a7], [.int .i64 a8, v9], fun _ => False, F9, rfl, rfl, ⟨[.int .i64 a8], [v9], fun _ => False, F9, rfl, rfl, ⟨_, rfl, h9⟩, (fun b h => (False.elim h)), (fun b h => h), (fun b h g => (False.elim h))⟩, (fun b h => (False.elim h)), (fun b h => h), (fun b h g => (False.elim h))⟩, (fun b h => (False.elim h)), (fun b h => h), (fun b h g => (False.elim h))⟩, (fun b h => (Or.inl h)), (fun b h => (Or.inr h)), (fun b h g => d5_9 b h g)⟩, (fun b h => (False.elim h)), (fun b h => (h.elim (fun q0 => (Or.inl q0)) (fun q0 => (Or.inr q0)))), (fun b h g => (False.elim h))⟩, (fun b h => (h.elim (fun q0 => s2 b q0) (fun q0 => s3 b q0))), (fun b h => (h.elim (fun q0 => s5 b q0) (fun q0 => s9 b q0))), (fun b h g => (h.elim (fun q0 => (g.elim (fun q10 => d2_5 b q0 q10) (fun q10 => d2_9 b q0 q10))) (fun q0 => (g.elim (fun q10 => d3_5 b q0 q10) (fun q10 => d3_9 b q0 q10)))))⟩
set_option maxHeartbeats 8000000 in
theorem szActive_Y (a0 a1 a4 a6 a7 a8 : Int) (v2 v3 v5 v9 : Value) (x2 : List (Int × Int × Int)) (x3 : List Int) (x5 : List Int) (x9 : List (Int × List Int)) (k0 : Int) (w : World) (h2 : SlR tCond w v2 x2) (h3 : SlR tInt w v3 x3) (h5 : SlR tInt w v5 x5) (h9 : SlR tRow w v9 x9) (hs : ((zL tCond x2 + zL tInt x3 + zL tInt x5 + zL tRow x9 : Nat) : Int) ≤ k0) (hk : k0 ≤ 1048576) :
  Calls Tryz.prog 110 #[.agg #[.int .i64 a0, .int .i64 a1, v2, v3, .int .i64 a4, v5, .int .i64 a6, .int .i64 a7, .int .i64 a8, v9], .int .i64 k0] w fun e w' => e = .returned (.int .i64 (k0 - ((zL tCond x2 + zL tInt x3 + zL tInt x5 + zL tRow x9 : Nat) : Int))) ∧ Below w.heap.size w w' := by
 have H2 := hd h2
 have H3 := hd h3
 have H5 := hd h5
 have H9 := hd h9
 clear h2 h3 h5 h9
 have HZ0 : Hid (((zL tCond x2 + zL tInt x3 : Nat) : Int) ≤ k0) := hd (by omega)
 have HK0 : Hid (k0 ≤ 1048576) := hd (by omega)
 have hn0 : ¬ k0 - ((zL tCond x2 + zL tInt x3 : Nat) : Int) < 0 := by omega
 have HZ5 : Hid (((zL tInt x5 : Nat) : Int) ≤ k0 - ((zL tCond x2 + zL tInt x3 : Nat) : Int)) := hd (by omega)
 have HK5 : Hid (k0 - ((zL tCond x2 + zL tInt x3 : Nat) : Int) ≤ 1048576) := hd (by omega)
 have hn5 : ¬ k0 - ((zL tCond x2 + zL tInt x3 : Nat) : Int) - ((zL tInt x5 : Nat) : Int) < 0 := by omega
 have HZ9 : Hid (((zL tRow x9 : Nat) : Int) ≤ k0 - ((zL tCond x2 + zL tInt x3 : Nat) : Int) - ((zL tInt x5 : Nat) : Int)) := hd (by omega)
 have HK9 : Hid (k0 - ((zL tCond x2 + zL tInt x3 : Nat) : Int) - ((zL tInt x5 : Nat) : Int) ≤ 1048576) := hd (by omega)
 have hn9 : ¬ k0 - ((zL tCond x2 + zL tInt x3 : Nat) : Int) - ((zL tInt x5 : Nat) : Int) - ((zL tRow x9 : Nat) : Int) < 0 := by omega
 have HE : Hid (k0 - ((zL tCond x2 + zL tInt x3 : Nat) : Int) - ((zL tInt x5 : Nat) : Int) - ((zL tRow x9 : Nat) : Int) = k0 - ((zL tCond x2 + zL tInt x3 + zL tInt x5 + zL tRow x9 : Nat) : Int)) := hd (by omega)
 clear hs hk
 have hb : Below w.heap.size w (w.alloc (.cells #[.int .i64 a0, .int .i64 a1, v2, v3, .int .i64 a4, v5, .int .i64 a6, .int .i64 a7, .int .i64 a8, v9] 142)) := (Below.refl _ w).alloc (Nat.le_refl _) _
 have g0 : (w.alloc (.cells #[.int .i64 a0, .int .i64 a1, v2, v3, .int .i64 a4, v5, .int .i64 a6, .int .i64 a7, .int .i64 a8, v9] 142)).heap[w.heap.size]? = some (.cells #[.int .i64 a0, .int .i64 a1, v2, v3, .int .i64 a4, v5, .int .i64 a6, .int .i64 a7, .int .i64 a8, v9] 142 (0, 0)) := heap_alloc_new w _
 have hz0 : w.heap.size < (w.alloc (.cells #[.int .i64 a0, .int .i64 a1, v2, v3, .int .i64 a4, v5, .int .i64 a6, .int .i64 a7, .int .i64 a8, v9] 142)).heap.size := by simp
 go_enter Tryz.func110, Tryz.ntmps110
 go_wp2_with fail
 generalize (w.alloc (.cells #[.int .i64 a0, .int .i64 a1, v2, v3, .int .i64 a4, v5, .int .i64 a6, .int .i64 a7, .int .i64 a8, v9] 142)) = W at *
 refine (szQuery_Y a0 a1 v2 v3 x2 x3 (k0) W (slR_below tCond_law H2.out hb) (slR_below tInt_law H3.out hb) HZ0.out HK0.out).mono ?_
 rintro e W1 ⟨rfl, b1⟩
 replace g0 := (b1.block w.heap.size hz0).trans g0
 replace hz0 := Nat.lt_of_lt_of_le hz0 b1.size
 replace hb := hb.trans (b1.mono hb.size)
 clear b1
 have p5 := cr 5 (v5) g0
 go_wp2_with fail
 clear p5
 refine (szIntS_Y v5 x5 (k0 - ((zL tCond x2 + zL tInt x3 : Nat) : Int)) W1 (slR_below tInt_law H5.out hb) HZ5.out HK5.out).mono ?_
 rintro e W2 ⟨rfl, b1⟩
 replace g0 := (b1.block w.heap.size hz0).trans g0
 replace hz0 := Nat.lt_of_lt_of_le hz0 b1.size
 replace hb := hb.trans (b1.mono hb.size)
 clear b1
 have p9 := cr 9 (v9) g0
 go_wp2_with fail
 clear p9
 refine (szRowS_Y v9 x9 (k0 - ((zL tCond x2 + zL tInt x3 : Nat) : Int) - ((zL tInt x5 : Nat) : Int)) W2 (slR_below tRow_law H9.out hb) HZ9.out HK9.out).mono ?_
 rintro e W3 ⟨rfl, b1⟩
 replace g0 := (b1.block w.heap.size hz0).trans g0
 replace hz0 := Nat.lt_of_lt_of_le hz0 b1.size
 replace hb := hb.trans (b1.mono hb.size)
 clear b1
 go_wp2
 go_ret
 exact ⟨ty_ret HE.out, hb⟩
set_option maxHeartbeats 8000000 in
theorem szActive_N (a0 a1 a4 a6 a7 a8 : Int) (v2 v3 v5 v9 : Value) (x2 : List (Int × Int × Int)) (x3 : List Int) (x5 : List Int) (x9 : List (Int × List Int)) (k0 : Int) (w : World) (h2 : SlR tCond w v2 x2) (h3 : SlR tInt w v3 x3) (h5 : SlR tInt w v5 x5) (h9 : SlR tRow w v9 x9) (hs : k0 < ((zL tCond x2 + zL tInt x3 + zL tInt x5 + zL tRow x9 : Nat) : Int)) (hk : k0 ≤ 1048576) (hp : 0 ≤ k0) (o2 : tCondS.ok x2) (o3 : tIntS.ok x3) (o5 : tIntS.ok x5) (o9 : tRowS.ok x9) :
  Calls Tryz.prog 110 #[.agg #[.int .i64 a0, .int .i64 a1, v2, v3, .int .i64 a4, v5, .int .i64 a6, .int .i64 a7, .int .i64 a8, v9], .int .i64 k0] w fun e w' => e = .returned (.int .i64 (-1)) ∧ Below w.heap.size w w' := by
 have H2 := hd h2
 have H3 := hd h3
 have H5 := hd h5
 have H9 := hd h9
 clear h2 h3 h5 h9
 have HO2 := hd o2
 have HO3 := hd o3
 have HO5 := hd o5
 have HO9 := hd o9
 clear o2 o3 o5 o9
 by_cases c0 : k0 < ((zL tCond x2 + zL tInt x3 : Nat) : Int)
 ·
  have HZ0 : Hid (k0 < ((zL tCond x2 + zL tInt x3 : Nat) : Int)) := hd (by omega)
  have HP0 : Hid (0 ≤ k0) := hd (by omega)
  have HK0 : Hid (k0 ≤ 1048576) := hd (by omega)
  clear hs hk
  clear c0 hp
  have hb : Below w.heap.size w (w.alloc (.cells #[.int .i64 a0, .int .i64 a1, v2, v3, .int .i64 a4, v5, .int .i64 a6, .int .i64 a7, .int .i64 a8, v9] 142)) := (Below.refl _ w).alloc (Nat.le_refl _) _
  have g0 : (w.alloc (.cells #[.int .i64 a0, .int .i64 a1, v2, v3, .int .i64 a4, v5, .int .i64 a6, .int .i64 a7, .int .i64 a8, v9] 142)).heap[w.heap.size]? = some (.cells #[.int .i64 a0, .int .i64 a1, v2, v3, .int .i64 a4, v5, .int .i64 a6, .int .i64 a7, .int .i64 a8, v9] 142 (0, 0)) := heap_alloc_new w _
  have hz0 : w.heap.size < (w.alloc (.cells #[.int .i64 a0, .int .i64 a1, v2, v3, .int .i64 a4, v5, .int .i64 a6, .int .i64 a7, .int .i64 a8, v9] 142)).heap.size := by simp
  go_enter Tryz.func110, Tryz.ntmps110
  go_wp2_with fail
  generalize (w.alloc (.cells #[.int .i64 a0, .int .i64 a1, v2, v3, .int .i64 a4, v5, .int .i64 a6, .int .i64 a7, .int .i64 a8, v9] 142)) = W at *
  refine (szQuery_N a0 a1 v2 v3 x2 x3 (k0) W (slR_below tCond_law H2.out hb) (slR_below tInt_law H3.out hb) HZ0.out HK0.out HP0.out HO2.out HO3.out).mono ?_
  rintro e W1 ⟨rfl, b1⟩
  replace g0 := (b1.block w.heap.size hz0).trans g0
  replace hz0 := Nat.lt_of_lt_of_le hz0 b1.size
  replace hb := hb.trans (b1.mono hb.size)
  clear b1
  go_wp2
  go_ret
  exact ⟨rfl, hb⟩
 ·
  by_cases c1 : k0 - ((zL tCond x2 + zL tInt x3 : Nat) : Int) < ((zL tInt x5 : Nat) : Int)
  ·
   have HZ0 : Hid (((zL tCond x2 + zL tInt x3 : Nat) : Int) ≤ k0) := hd (by omega)
   have hn0 : ¬ k0 - ((zL tCond x2 + zL tInt x3 : Nat) : Int) < 0 := by omega
   have HK0 : Hid (k0 ≤ 1048576) := hd (by omega)
   have HZ5 : Hid (k0 - ((zL tCond x2 + zL tInt x3 : Nat) : Int) < ((zL tInt x5 : Nat) : Int)) := hd (by omega)
   have HP5 : Hid (0 ≤ k0 - ((zL tCond x2 + zL tInt x3 : Nat) : Int)) := hd (by omega)
   have HK5 : Hid (k0 - ((zL tCond x2 + zL tInt x3 : Nat) : Int) ≤ 1048576) := hd (by omega)
   clear hs hk
   clear c1 hp c0
   have hb : Below w.heap.size w (w.alloc (.cells #[.int .i64 a0, .int .i64 a1, v2, v3, .int .i64 a4, v5, .int .i64 a6, .int .i64 a7, .int .i64 a8, v9] 142)) := (Below.refl _ w).alloc (Nat.le_refl _) _
   have g0 : (w.alloc (.cells #[.int .i64 a0, .int .i64 a1, v2, v3, .int .i64 a4, v5, .int .i64 a6, .int .i64 a7, .int .i64 a8, v9] 142)).heap[w.heap.size]? = some (.cells #[.int .i64 a0, .int .i64 a1, v2, v3, .int .i64 a4, v5, .int .i64 a6, .int .i64 a7, .int .i64 a8, v9] 142 (0, 0)) := heap_alloc_new w _
   have hz0 : w.heap.size < (w.alloc (.cells #[.int .i64 a0, .int .i64 a1, v2, v3, .int .i64 a4, v5, .int .i64 a6, .int .i64 a7, .int .i64 a8, v9] 142)).heap.size := by simp
   go_enter Tryz.func110, Tryz.ntmps110
   go_wp2_with fail
   generalize (w.alloc (.cells #[.int .i64 a0, .int .i64 a1, v2, v3, .int .i64 a4, v5, .int .i64 a6, .int .i64 a7, .int .i64 a8, v9] 142)) = W at *
   refine (szQuery_Y a0 a1 v2 v3 x2 x3 (k0) W (slR_below tCond_law H2.out hb) (slR_below tInt_law H3.out hb) HZ0.out HK0.out).mono ?_
   rintro e W1 ⟨rfl, b1⟩
   replace g0 := (b1.block w.heap.size hz0).trans g0
   replace hz0 := Nat.lt_of_lt_of_le hz0 b1.size
   replace hb := hb.trans (b1.mono hb.size)
   clear b1
   have p5 := cr 5 (v5) g0
   go_wp2_with fail
   clear p5
   refine (szIntS_N v5 x5 (k0 - ((zL tCond x2 + zL tInt x3 : Nat) : Int)) W1 (slR_below tInt_law H5.out hb) HZ5.out HK5.out HP5.out HO5.out).mono ?_
   rintro e W2 ⟨rfl, b1⟩
   replace g0 := (b1.block w.heap.size hz0).trans g0
   replace hz0 := Nat.lt_of_lt_of_le hz0 b1.size
   replace hb := hb.trans (b1.mono hb.size)
   clear b1
   go_wp2
   go_ret
   exact ⟨rfl, hb⟩
  ·
   have HZ0 : Hid (((zL tCond x2 + zL tInt x3 : Nat) : Int) ≤ k0) := hd (by omega)
   have hn0 : ¬ k0 - ((zL tCond x2 + zL tInt x3 : Nat) : Int) < 0 := by omega
   have HK0 : Hid (k0 ≤ 1048576) := hd (by omega)
   have HZ5 : Hid (((zL tInt x5 : Nat) : Int) ≤ k0 - ((zL tCond x2 + zL tInt x3 : Nat) : Int)) := hd (by omega)
   have hn5 : ¬ k0 - ((zL tCond x2 + zL tInt x3 : Nat) : Int) - ((zL tInt x5 : Nat) : Int) < 0 := by omega
   have HK5 : Hid (k0 - ((zL tCond x2 + zL tInt x3 : Nat) : Int) ≤ 1048576) := hd (by omega)
   have HZ9 : Hid (k0 - ((zL tCond x2 + zL tInt x3 : Nat) : Int) - ((zL tInt x5 : Nat) : Int) < ((zL tRow x9 : Nat) : Int)) := hd (by omega)
   have HP9 : Hid (0 ≤ k0 - ((zL tCond x2 + zL tInt x3 : Nat) : Int) - ((zL tInt x5 : Nat) : Int)) := hd (by omega)
   have HK9 : Hid (k0 - ((zL tCond x2 + zL tInt x3 : Nat) : Int) - ((zL tInt x5 : Nat) : Int) ≤ 1048576) := hd (by omega)
   clear hs hk
   clear hp c0 c1
   have hb : Below w.heap.size w (w.alloc (.cells #[.int .i64 a0, .int .i64 a1, v2, v3, .int .i64 a4, v5, .int .i64 a6, .int .i64 a7, .int .i64 a8, v9] 142)) := (Below.refl _ w).alloc (Nat.le_refl _) _
   have g0 : (w.alloc (.cells #[.int .i64 a0, .int .i64 a1, v2, v3, .int .i64 a4, v5, .int .i64 a6, .int .i64 a7, .int .i64 a8, v9] 142)).heap[w.heap.size]? = some (.cells #[.int .i64 a0, .int .i64 a1, v2, v3, .int .i64 a4, v5, .int .i64 a6, .int .i64 a7, .int .i64 a8, v9] 142 (0, 0)) := heap_alloc_new w _
   have hz0 : w.heap.size < (w.alloc (.cells #[.int .i64 a0, .int .i64 a1, v2, v3, .int .i64 a4, v5, .int .i64 a6, .int .i64 a7, .int .i64 a8, v9] 142)).heap.size := by simp
   go_enter Tryz.func110, Tryz.ntmps110
   go_wp2_with fail
   generalize (w.alloc (.cells #[.int .i64 a0, .int .i64 a1, v2, v3, .int .i64 a4, v5, .int .i64 a6, .int .i64 a7, .int .i64 a8, v9] 142)) = W at *
   refine (szQuery_Y a0 a1 v2 v3 x2 x3 (k0) W (slR_below tCond_law H2.out hb) (slR_below tInt_law H3.out hb) HZ0.out HK0.out).mono ?_
   rintro e W1 ⟨rfl, b1⟩
   replace g0 := (b1.block w.heap.size hz0).trans g0
   replace hz0 := Nat.lt_of_lt_of_le hz0 b1.size
   replace hb := hb.trans (b1.mono hb.size)
   clear b1
   have p5 := cr 5 (v5) g0
   go_wp2_with fail
   clear p5
   refine (szIntS_Y v5 x5 (k0 - ((zL tCond x2 + zL tInt x3 : Nat) : Int)) W1 (slR_below tInt_law H5.out hb) HZ5.out HK5.out).mono ?_
   rintro e W2 ⟨rfl, b1⟩
   replace g0 := (b1.block w.heap.size hz0).trans g0
   replace hz0 := Nat.lt_of_lt_of_le hz0 b1.size
   replace hb := hb.trans (b1.mono hb.size)
   clear b1
   have p9 := cr 9 (v9) g0
   go_wp2_with fail
   clear p9
   refine (szRowS_N v9 x9 (k0 - ((zL tCond x2 + zL tInt x3 : Nat) : Int) - ((zL tInt x5 : Nat) : Int)) W2 (slR_below tRow_law H9.out hb) HZ9.out HK9.out HP9.out HO9.out).mono ?_
   rintro e W3 ⟨rfl, b1⟩
   replace g0 := (b1.block w.heap.size hz0).trans g0
   replace hz0 := Nat.lt_of_lt_of_le hz0 b1.size
   replace hb := hb.trans (b1.mono hb.size)
   clear b1
   go_wp2
   go_ret
   exact ⟨rfl, hb⟩
set_option maxHeartbeats 8000000 in
theorem toActive_T (a0 a1 a4 a6 a7 a8 : Int) (v2 v3 v5 v9 : Value) (x2 : List (Int × Int × Int)) (x3 : List Int) (x5 : List Int) (x9 : List (Int × List Int)) (w : World) (h2 : SlR tCond w v2 x2) (h3 : SlR tInt w v3 x3) (h5 : SlR tInt w v5 x5) (h9 : SlR tRow w v9 x9) (s2 : zL tCond x2 ≤ 1048576) (s3 : zL tInt x3 ≤ 1048576) (s5 : zL tInt x5 ≤ 1048576) (s9 : zL tRow x9 ≤ 1048576) :
  Calls Tryz.prog 119 #[.agg #[.int .i64 a0, .int .i64 a1, v2, v3, .int .i64 a4, v5, .int .i64 a6, .int .i64 a7, .int .i64 a8, v9]] w (FreshT tActive (fun cs => .agg cs.toArray) w ((a0, a1, x2, x3), a4, x5, a6, a7, a8, x9)) := by
 have H2 := hd h2
 have H3 := hd h3
 have H5 := hd h5
 have H9 := hd h9
 clear h2 h3 h5 h9
 have S2 := hd s2
 have S3 := hd s3
 have S5 := hd s5
 have S9 := hd s9
 clear s2 s3 s5 s9
 go_enter Tryz.func119, Tryz.ntmps119
 go_wp2_with fail
 have hb : Below w.heap.size w (((w.alloc (.cells #[.int .i64 a0, .int .i64 a1, v2, v3, .int .i64 a4, v5, .int .i64 a6, .int .i64 a7, .int .i64 a8, v9] 142)).alloc (.cells #[.int .i64 0, .int .i64 0, .slice none 0 0, .slice none 0 0, .int .i64 0, .slice none 0 0, .int .i64 0, .int .i64 0, .int .i64 0, .slice none 0 0] 93)).alloc (.cells #[.int .i64 0, .int .i64 0, .slice none 0 0, .slice none 0 0, .int .i64 0, .slice none 0 0, .int .i64 0, .int .i64 0, .int .i64 0, .slice none 0 0] 93)) := (((Below.refl _ w).alloc (Nat.le_refl _) _).alloc (by simp) _).alloc (by simp; omega) _
 have g2 : (((w.alloc (.cells #[.int .i64 a0, .int .i64 a1, v2, v3, .int .i64 a4, v5, .int .i64 a6, .int .i64 a7, .int .i64 a8, v9] 142)).alloc (.cells #[.int .i64 0, .int .i64 0, .slice none 0 0, .slice none 0 0, .int .i64 0, .slice none 0 0, .int .i64 0, .int .i64 0, .int .i64 0, .slice none 0 0] 93)).alloc (.cells #[.int .i64 0, .int .i64 0, .slice none 0 0, .slice none 0 0, .int .i64 0, .slice none 0 0, .int .i64 0, .int .i64 0, .int .i64 0, .slice none 0 0] 93)).heap[w.heap.size + 1 + 1]? = some (.cells #[.int .i64 0, .int .i64 0, .slice none 0 0, .slice none 0 0, .int .i64 0, .slice none 0 0, .int .i64 0, .int .i64 0, .int .i64 0, .slice none 0 0] 93 (0, 0)) := by
  have := heap_alloc_new ((w.alloc (.cells #[.int .i64 a0, .int .i64 a1, v2, v3, .int .i64 a4, v5, .int .i64 a6, .int .i64 a7, .int .i64 a8, v9] 142)).alloc (.cells #[.int .i64 0, .int .i64 0, .slice none 0 0, .slice none 0 0, .int .i64 0, .slice none 0 0, .int .i64 0, .int .i64 0, .int .i64 0, .slice none 0 0] 93)) (.cells #[.int .i64 0, .int .i64 0, .slice none 0 0, .slice none 0 0, .int .i64 0, .slice none 0 0, .int .i64 0, .int .i64 0, .int .i64 0, .slice none 0 0] 93)
  simpa only [World.size_alloc] using this
 have g1 : (((w.alloc (.cells #[.int .i64 a0, .int .i64 a1, v2, v3, .int .i64 a4, v5, .int .i64 a6, .int .i64 a7, .int .i64 a8, v9] 142)).alloc (.cells #[.int .i64 0, .int .i64 0, .slice none 0 0, .slice none 0 0, .int .i64 0, .slice none 0 0, .int .i64 0, .int .i64 0, .int .i64 0, .slice none 0 0] 93)).alloc (.cells #[.int .i64 0, .int .i64 0, .slice none 0 0, .slice none 0 0, .int .i64 0, .slice none 0 0, .int .i64 0, .int .i64 0, .int .i64 0, .slice none 0 0] 93)).heap[w.heap.size + 1]? = some (.cells #[.int .i64 0, .int .i64 0, .slice none 0 0, .slice none 0 0, .int .i64 0, .slice none 0 0, .int .i64 0, .int .i64 0, .int .i64 0, .slice none 0 0] 93 (0, 0)) := by
  have := heap_alloc_new (w.alloc (.cells #[.int .i64 a0, .int .i64 a1, v2, v3, .int .i64 a4, v5, .int .i64 a6, .int .i64 a7, .int .i64 a8, v9] 142)) (.cells #[.int .i64 0, .int .i64 0, .slice none 0 0, .slice none 0 0, .int .i64 0, .slice none 0 0, .int .i64 0, .int .i64 0, .int .i64 0, .slice none 0 0] 93)
  rw [Below.heap_alloc _ _ _ (by simp)]
  simpa only [World.size_alloc] using this
 have g0 : (((w.alloc (.cells #[.int .i64 a0, .int .i64 a1, v2, v3, .int .i64 a4, v5, .int .i64 a6, .int .i64 a7, .int .i64 a8, v9] 142)).alloc (.cells #[.int .i64 0, .int .i64 0, .slice none 0 0, .slice none 0 0, .int .i64 0, .slice none 0 0, .int .i64 0, .int .i64 0, .int .i64 0, .slice none 0 0] 93)).alloc (.cells #[.int .i64 0, .int .i64 0, .slice none 0 0, .slice none 0 0, .int .i64 0, .slice none 0 0, .int .i64 0, .int .i64 0, .int .i64 0, .slice none 0 0] 93)).heap[w.heap.size]? = some (.cells #[.int .i64 a0, .int .i64 a1, v2, v3, .int .i64 a4, v5, .int .i64 a6, .int .i64 a7, .int .i64 a8, v9] 142 (0, 0)) := by
  rw [Below.heap_alloc _ _ _ (by simp; omega), Below.heap_alloc _ _ _ (by simp)]
  exact heap_alloc_new w _
 have hz : w.heap.size + 2 < (((w.alloc (.cells #[.int .i64 a0, .int .i64 a1, v2, v3, .int .i64 a4, v5, .int .i64 a6, .int .i64 a7, .int .i64 a8, v9] 142)).alloc (.cells #[.int .i64 0, .int .i64 0, .slice none 0 0, .slice none 0 0, .int .i64 0, .slice none 0 0, .int .i64 0, .int .i64 0, .int .i64 0, .slice none 0 0] 93)).alloc (.cells #[.int .i64 0, .int .i64 0, .slice none 0 0, .slice none 0 0, .int .i64 0, .slice none 0 0, .int .i64 0, .int .i64 0, .int .i64 0, .slice none 0 0] 93)).heap.size := by simp [World.size_alloc]
 generalize (((w.alloc (.cells #[.int .i64 a0, .int .i64 a1, v2, v3, .int .i64 a4, v5, .int .i64 a6, .int .i64 a7, .int .i64 a8, v9] 142)).alloc (.cells #[.int .i64 0, .int .i64 0, .slice none 0 0, .slice none 0 0, .int .i64 0, .slice none 0 0, .int .i64 0, .int .i64 0, .int .i64 0, .slice none 0 0] 93)).alloc (.cells #[.int .i64 0, .int .i64 0, .slice none 0 0, .slice none 0 0, .int .i64 0, .slice none 0 0, .int .i64 0, .int .i64 0, .int .i64 0, .slice none 0 0] 93)) = W at *
 refine (toQuery_T a0 a1 v2 v3 x2 x3 W (slR_below tCond_law H2.out hb) (slR_below tInt_law H3.out hb) S2.out S3.out).mono ?_
 rintro e w1 ⟨cs, rfl, ow, b1⟩
 replace ow := tQuery_law.mono (tQuery_law.lt ow) (F' := fun b => W.heap.size ≤ b ∧ b < w1.heap.size) (fun b h => h)
 obtain ⟨u2, u3, F2, F3, rfl, o2, o3, q2, q3, d2_3⟩ := tQuery_O ow
 obtain ⟨ua2, uc2, rfl⟩ := slO_len o2
 obtain ⟨ua3, uc3, rfl⟩ := slO_len o3
 replace g0 := (b1.block _ (by omega)).trans g0
 replace g1 := (b1.block _ (by omega)).trans g1
 replace g2 := (b1.block _ (by omega)).trans g2
 have zz1 := b1.size
 replace hb := hb.trans (b1.mono (by omega))
 clear b1
 have c2_0 := cr 0 (Value.int .i64 0) g2
 have f2_0 := frozen_of_row w1 _ 0 _ _ g2
 have c2_1 := cr 1 (Value.int .i64 0) g2
 have f2_1 := frozen_of_row w1 _ 1 _ _ g2
 have c2_2 := cr 2 (Value.slice none 0 0) g2
 have f2_2 := frozen_of_row w1 _ 2 _ _ g2
 have c2_3 := cr 3 (Value.slice none 0 0) g2
 have f2_3 := frozen_of_row w1 _ 3 _ _ g2
 have c2_4 := cr 4 (Value.int .i64 0) g2
 have f2_4 := frozen_of_row w1 _ 4 _ _ g2
 have ne1 : ¬ w.heap.size = w.heap.size + 1 + 1 := by omega
 have ne2 : ¬ w.heap.size + 1 = w.heap.size + 1 + 1 := by omega
 have ne3 : ¬ w.heap.size + 1 + 1 = w.heap.size + 1 := by omega
 have c0_4 := cr 4 (Value.int .i64 a4) g0
 have c0_5 := cr 5 (v5) g0
 have l0_4 : ((((w1.setCell ⟨w.heap.size + 1 + 1, 0, none⟩ (.int .i64 a0)).setCell ⟨w.heap.size + 1 + 1, 1, none⟩ (.int .i64 a1)).setCell ⟨w.heap.size + 1 + 1, 2, none⟩ (.slice ua2 x2.length uc2)).setCell ⟨w.heap.size + 1 + 1, 3, none⟩ (.slice ua3 x3.length uc3)).cell? ⟨w.heap.size, 4, none⟩ = some (Value.int .i64 a4) := by
  have m : ((((w1.setCell ⟨w.heap.size + 1 + 1, 0, none⟩ (.int .i64 a0)).setCell ⟨w.heap.size + 1 + 1, 1, none⟩ (.int .i64 a1)).setCell ⟨w.heap.size + 1 + 1, 2, none⟩ (.slice ua2 x2.length uc2)).setCell ⟨w.heap.size + 1 + 1, 3, none⟩ (.slice ua3 x3.length uc3)).heap[w.heap.size]? = some (.cells #[.int .i64 a0, .int .i64 a1, v2, v3, .int .i64 a4, v5, .int .i64 a6, .int .i64 a7, .int .i64 a8, v9] 142 (0, 0)) := by
   repeat rw [heap_setCell_other _ _ _ _ (by simp <;> omega)]
   exact g0
  exact (cell_of_row _ _ 4 _ _ _ m).trans rfl
 have l0_5 : (((((w1.setCell ⟨w.heap.size + 1 + 1, 0, none⟩ (.int .i64 a0)).setCell ⟨w.heap.size + 1 + 1, 1, none⟩ (.int .i64 a1)).setCell ⟨w.heap.size + 1 + 1, 2, none⟩ (.slice ua2 x2.length uc2)).setCell ⟨w.heap.size + 1 + 1, 3, none⟩ (.slice ua3 x3.length uc3)).setCell ⟨w.heap.size + 1 + 1, 4, none⟩ (.int .i64 a4)).cell? ⟨w.heap.size, 5, none⟩ = some (v5) := by
  have m : (((((w1.setCell ⟨w.heap.size + 1 + 1, 0, none⟩ (.int .i64 a0)).setCell ⟨w.heap.size + 1 + 1, 1, none⟩ (.int .i64 a1)).setCell ⟨w.heap.size + 1 + 1, 2, none⟩ (.slice ua2 x2.length uc2)).setCell ⟨w.heap.size + 1 + 1, 3, none⟩ (.slice ua3 x3.length uc3)).setCell ⟨w.heap.size + 1 + 1, 4, none⟩ (.int .i64 a4)).heap[w.heap.size]? = some (.cells #[.int .i64 a0, .int .i64 a1, v2, v3, .int .i64 a4, v5, .int .i64 a6, .int .i64 a7, .int .i64 a8, v9] 142 (0, 0)) := by
   repeat rw [heap_setCell_other _ _ _ _ (by simp <;> omega)]
   exact g0
  exact (cell_of_row _ _ 5 _ _ _ m).trans rfl
 go_wp2_with fail
 clear c2_0 f2_0 c2_1 f2_1 c2_2 f2_2 c2_3 f2_3 c2_4 f2_4 ne1 ne2 ne3 c0_4 c0_5 l0_4 l0_5
 have hw := ts5 w1 (w.heap.size + 1 + 1) (.int .i64 a0) (.int .i64 a1) (.slice ua2 x2.length uc2) (.slice ua3 x3.length uc3) (.int .i64 a4)
 replace g0 := (hw.block _ (by omega) (by omega)).trans g0
 replace g1 := (hw.block _ (by omega) (by omega)).trans g1
 have g2n := (heap_setCell_same _ (w.heap.size + 1 + 1) 4 _ _ (.int .i64 a4) (heap_setCell_same _ (w.heap.size + 1 + 1) 3 _ _ (.slice ua3 x3.length uc3) (heap_setCell_same _ (w.heap.size + 1 + 1) 2 _ _ (.slice ua2 x2.length uc2) (heap_setCell_same _ (w.heap.size + 1 + 1) 1 _ _ (.int .i64 a1) (heap_setCell_same _ (w.heap.size + 1 + 1) 0 _ _ (.int .i64 a0) g2)))))
 replace g2 : (((((w1.setCell ⟨w.heap.size + 1 + 1, 0, none⟩ (.int .i64 a0)).setCell ⟨w.heap.size + 1 + 1, 1, none⟩ (.int .i64 a1)).setCell ⟨w.heap.size + 1 + 1, 2, none⟩ (.slice ua2 x2.length uc2)).setCell ⟨w.heap.size + 1 + 1, 3, none⟩ (.slice ua3 x3.length uc3)).setCell ⟨w.heap.size + 1 + 1, 4, none⟩ (.int .i64 a4)).heap[w.heap.size + 1 + 1]? = some (.cells #[.int .i64 a0, .int .i64 a1, .slice ua2 x2.length uc2, .slice ua3 x3.length uc3, .int .i64 a4, .slice none 0 0, .int .i64 0, .int .i64 0, .int .i64 0, .slice none 0 0] 93 (0, 0)) := by simpa using g2n
 clear g2n
 replace o2 := slO_turn tCond_law o2 hw (fun b h1 h2 => by first | (have := h1.1; omega) | (have := q2 b h1; omega))
 replace o3 := slO_turn tInt_law o3 hw (fun b h1 h2 => by first | (have := h1.1; omega) | (have := q3 b h1; omega))
 replace hb := below_turn hb hw (fun b h => by omega) (by omega)
 have hz0 := hw.size
 clear hw
 generalize (((((w1.setCell ⟨w.heap.size + 1 + 1, 0, none⟩ (.int .i64 a0)).setCell ⟨w.heap.size + 1 + 1, 1, none⟩ (.int .i64 a1)).setCell ⟨w.heap.size + 1 + 1, 2, none⟩ (.slice ua2 x2.length uc2)).setCell ⟨w.heap.size + 1 + 1, 3, none⟩ (.slice ua3 x3.length uc3)).setCell ⟨w.heap.size + 1 + 1, 4, none⟩ (.int .i64 a4)) = W1 at *
 refine (toIntS_S v5 x5 W1 (slR_below tInt_law H5.out hb) S5.out).mono ?_
 rintro e w2 ⟨u5, rfl, o5, b1⟩
 obtain ⟨ua5, uc5, rfl⟩ := slO_len o5
 replace o5 := slO_mono (slO_lt tInt_law o5) (F' := fun b => W1.heap.size ≤ b ∧ b < w2.heap.size) (fun b h => h)
 replace g0 := (b1.block _ (by omega)).trans g0
 replace g1 := (b1.block _ (by omega)).trans g1
 replace g2 := (b1.block _ (by omega)).trans g2
 replace o2 := slO_fresh tCond_law o2 b1
 replace o3 := slO_fresh tInt_law o3 b1
 have zz2 := b1.size
 replace hb := hb.trans (b1.mono (by omega))
 clear b1
 have c2_0 := cr 0 (Value.int .i64 a0) g2
 have f2_0 := frozen_of_row w2 _ 0 _ _ g2
 have c2_1 := cr 1 (Value.int .i64 a1) g2
 have f2_1 := frozen_of_row w2 _ 1 _ _ g2
 have c2_2 := cr 2 (Value.slice ua2 x2.length uc2) g2
 have f2_2 := frozen_of_row w2 _ 2 _ _ g2
 have c2_3 := cr 3 (Value.slice ua3 x3.length uc3) g2
 have f2_3 := frozen_of_row w2 _ 3 _ _ g2
 have c2_4 := cr 4 (Value.int .i64 a4) g2
 have f2_4 := frozen_of_row w2 _ 4 _ _ g2
 have c2_5 := cr 5 (Value.slice none 0 0) g2
 have f2_5 := frozen_of_row w2 _ 5 _ _ g2
 have c2_6 := cr 6 (Value.int .i64 0) g2
 have f2_6 := frozen_of_row w2 _ 6 _ _ g2
 have c2_7 := cr 7 (Value.int .i64 0) g2
 have f2_7 := frozen_of_row w2 _ 7 _ _ g2
 have c2_8 := cr 8 (Value.int .i64 0) g2
 have f2_8 := frozen_of_row w2 _ 8 _ _ g2
 have ne1 : ¬ w.heap.size = w.heap.size + 1 + 1 := by omega
 have ne2 : ¬ w.heap.size + 1 = w.heap.size + 1 + 1 := by omega
 have ne3 : ¬ w.heap.size + 1 + 1 = w.heap.size + 1 := by omega
 have c0_6 := cr 6 (Value.int .i64 a6) g0
 have c0_7 := cr 7 (Value.int .i64 a7) g0
 have c0_8 := cr 8 (Value.int .i64 a8) g0
 have c0_9 := cr 9 (v9) g0
 have l0_6 : (w2.setCell ⟨w.heap.size + 1 + 1, 5, none⟩ (.slice ua5 x5.length uc5)).cell? ⟨w.heap.size, 6, none⟩ = some (Value.int .i64 a6) := by
  have m : (w2.setCell ⟨w.heap.size + 1 + 1, 5, none⟩ (.slice ua5 x5.length uc5)).heap[w.heap.size]? = some (.cells #[.int .i64 a0, .int .i64 a1, v2, v3, .int .i64 a4, v5, .int .i64 a6, .int .i64 a7, .int .i64 a8, v9] 142 (0, 0)) := by
   repeat rw [heap_setCell_other _ _ _ _ (by simp <;> omega)]
   exact g0
  exact (cell_of_row _ _ 6 _ _ _ m).trans rfl
 have l0_7 : ((w2.setCell ⟨w.heap.size + 1 + 1, 5, none⟩ (.slice ua5 x5.length uc5)).setCell ⟨w.heap.size + 1 + 1, 6, none⟩ (.int .i64 a6)).cell? ⟨w.heap.size, 7, none⟩ = some (Value.int .i64 a7) := by
  have m : ((w2.setCell ⟨w.heap.size + 1 + 1, 5, none⟩ (.slice ua5 x5.length uc5)).setCell ⟨w.heap.size + 1 + 1, 6, none⟩ (.int .i64 a6)).heap[w.heap.size]? = some (.cells #[.int .i64 a0, .int .i64 a1, v2, v3, .int .i64 a4, v5, .int .i64 a6, .int .i64 a7, .int .i64 a8, v9] 142 (0, 0)) := by
   repeat rw [heap_setCell_other _ _ _ _ (by simp <;> omega)]
   exact g0
  exact (cell_of_row _ _ 7 _ _ _ m).trans rfl
 have l0_8 : (((w2.setCell ⟨w.heap.size + 1 + 1, 5, none⟩ (.slice ua5 x5.length uc5)).setCell ⟨w.heap.size + 1 + 1, 6, none⟩ (.int .i64 a6)).setCell ⟨w.heap.size + 1 + 1, 7, none⟩ (.int .i64 a7)).cell? ⟨w.heap.size, 8, none⟩ = some (Value.int .i64 a8) := by
  have m : (((w2.setCell ⟨w.heap.size + 1 + 1, 5, none⟩ (.slice ua5 x5.length uc5)).setCell ⟨w.heap.size + 1 + 1, 6, none⟩ (.int .i64 a6)).setCell ⟨w.heap.size + 1 + 1, 7, none⟩ (.int .i64 a7)).heap[w.heap.size]? = some (.cells #[.int .i64 a0, .int .i64 a1, v2, v3, .int .i64 a4, v5, .int .i64 a6, .int .i64 a7, .int .i64 a8, v9] 142 (0, 0)) := by
   repeat rw [heap_setCell_other _ _ _ _ (by simp <;> omega)]
   exact g0
  exact (cell_of_row _ _ 8 _ _ _ m).trans rfl
 have l0_9 : ((((w2.setCell ⟨w.heap.size + 1 + 1, 5, none⟩ (.slice ua5 x5.length uc5)).setCell ⟨w.heap.size + 1 + 1, 6, none⟩ (.int .i64 a6)).setCell ⟨w.heap.size + 1 + 1, 7, none⟩ (.int .i64 a7)).setCell ⟨w.heap.size + 1 + 1, 8, none⟩ (.int .i64 a8)).cell? ⟨w.heap.size, 9, none⟩ = some (v9) := by
  have m : ((((w2.setCell ⟨w.heap.size + 1 + 1, 5, none⟩ (.slice ua5 x5.length uc5)).setCell ⟨w.heap.size + 1 + 1, 6, none⟩ (.int .i64 a6)).setCell ⟨w.heap.size + 1 + 1, 7, none⟩ (.int .i64 a7)).setCell ⟨w.heap.size + 1 + 1, 8, none⟩ (.int .i64 a8)).heap[w.heap.size]? = some (.cells #[.int .i64 a0, .int .i64 a1, v2, v3, .int .i64 a4, v5, .int .i64 a6, .int .i64 a7, .int .i64 a8, v9] 142 (0, 0)) := by
   repeat rw [heap_setCell_other _ _ _ _ (by simp <;> omega)]
   exact g0
  exact (cell_of_row _ _ 9 _ _ _ m).trans rfl
 go_wp2_with fail
 clear c2_0 f2_0 c2_1 f2_1 c2_2 f2_2 c2_3 f2_3 c2_4 f2_4 c2_5 f2_5 c2_6 f2_6 c2_7 f2_7 c2_8 f2_8 ne1 ne2 ne3 c0_6 c0_7 c0_8 c0_9 l0_6 l0_7 l0_8 l0_9
 have hw : Turn (fun b => b = w.heap.size + 1 + 1) w2 ((((w2.setCell ⟨w.heap.size + 1 + 1, 5, none⟩ (.slice ua5 x5.length uc5)).setCell ⟨w.heap.size + 1 + 1, 6, none⟩ (.int .i64 a6)).setCell ⟨w.heap.size + 1 + 1, 7, none⟩ (.int .i64 a7)).setCell ⟨w.heap.size + 1 + 1, 8, none⟩ (.int .i64 a8)) := by
  first | exact (((((Turn.refl (fun b => b = w.heap.size + 1 + 1) _).trans (turn_set (G := fun b => b = w.heap.size + 1 + 1) (g := w.heap.size + 1 + 1) (j := 5) (u := .slice ua5 x5.length uc5) rfl)).trans (turn_set (G := fun b => b = w.heap.size + 1 + 1) (g := w.heap.size + 1 + 1) (j := 6) (u := .int .i64 a6) rfl)).trans (turn_set (G := fun b => b = w.heap.size + 1 + 1) (g := w.heap.size + 1 + 1) (j := 7) (u := .int .i64 a7) rfl)).trans (turn_set (G := fun b => b = w.heap.size + 1 + 1) (g := w.heap.size + 1 + 1) (j := 8) (u := .int .i64 a8) rfl)) | skip
 replace g0 := (hw.block _ (by omega) (by omega)).trans g0
 replace g1 := (hw.block _ (by omega) (by omega)).trans g1
 have g2n := (heap_setCell_same _ (w.heap.size + 1 + 1) 8 _ _ (.int .i64 a8) (heap_setCell_same _ (w.heap.size + 1 + 1) 7 _ _ (.int .i64 a7) (heap_setCell_same _ (w.heap.size + 1 + 1) 6 _ _ (.int .i64 a6) (heap_setCell_same _ (w.heap.size + 1 + 1) 5 _ _ (.slice ua5 x5.length uc5) g2))))
 replace g2 : ((((w2.setCell ⟨w.heap.size + 1 + 1, 5, none⟩ (.slice ua5 x5.length uc5)).setCell ⟨w.heap.size + 1 + 1, 6, none⟩ (.int .i64 a6)).setCell ⟨w.heap.size + 1 + 1, 7, none⟩ (.int .i64 a7)).setCell ⟨w.heap.size + 1 + 1, 8, none⟩ (.int .i64 a8)).heap[w.heap.size + 1 + 1]? = some (.cells #[.int .i64 a0, .int .i64 a1, .slice ua2 x2.length uc2, .slice ua3 x3.length uc3, .int .i64 a4, .slice ua5 x5.length uc5, .int .i64 a6, .int .i64 a7, .int .i64 a8, .slice none 0 0] 93 (0, 0)) := by simpa using g2n
 clear g2n
 replace o2 := slO_turn tCond_law o2 hw (fun b h1 h2 => by first | (have := h1.1; omega) | (have := q2 b h1; omega))
 replace o3 := slO_turn tInt_law o3 hw (fun b h1 h2 => by first | (have := h1.1; omega) | (have := q3 b h1; omega))
 replace o5 := slO_turn tInt_law o5 hw (fun b h1 h2 => by first | (have := h1.1; omega) | (have := q5 b h1; omega))
 replace hb := below_turn hb hw (fun b h => by omega) (by omega)
 have hz1 := hw.size
 clear hw
 generalize ((((w2.setCell ⟨w.heap.size + 1 + 1, 5, none⟩ (.slice ua5 x5.length uc5)).setCell ⟨w.heap.size + 1 + 1, 6, none⟩ (.int .i64 a6)).setCell ⟨w.heap.size + 1 + 1, 7, none⟩ (.int .i64 a7)).setCell ⟨w.heap.size + 1 + 1, 8, none⟩ (.int .i64 a8)) = W2 at *
 refine (toRowS_S v9 x9 W2 (slR_below tRow_law H9.out hb) S9.out).mono ?_
 rintro e w3 ⟨u9, rfl, o9, b1⟩
 obtain ⟨ua9, uc9, rfl⟩ := slO_len o9
 replace o9 := slO_mono (slO_lt tRow_law o9) (F' := fun b => W2.heap.size ≤ b ∧ b < w3.heap.size) (fun b h => h)
 replace g0 := (b1.block _ (by omega)).trans g0
 replace g1 := (b1.block _ (by omega)).trans g1
 replace g2 := (b1.block _ (by omega)).trans g2
 replace o2 := slO_fresh tCond_law o2 b1
 replace o3 := slO_fresh tInt_law o3 b1
 replace o5 := slO_fresh tInt_law o5 b1
 have zz3 := b1.size
 replace hb := hb.trans (b1.mono (by omega))
 clear b1
 have c2_0 := cr 0 (Value.int .i64 a0) g2
 have f2_0 := frozen_of_row w3 _ 0 _ _ g2
 have c2_1 := cr 1 (Value.int .i64 a1) g2
 have f2_1 := frozen_of_row w3 _ 1 _ _ g2
 have c2_2 := cr 2 (Value.slice ua2 x2.length uc2) g2
 have f2_2 := frozen_of_row w3 _ 2 _ _ g2
 have c2_3 := cr 3 (Value.slice ua3 x3.length uc3) g2
 have f2_3 := frozen_of_row w3 _ 3 _ _ g2
 have c2_4 := cr 4 (Value.int .i64 a4) g2
 have f2_4 := frozen_of_row w3 _ 4 _ _ g2
 have c2_5 := cr 5 (Value.slice ua5 x5.length uc5) g2
 have f2_5 := frozen_of_row w3 _ 5 _ _ g2
 have c2_6 := cr 6 (Value.int .i64 a6) g2
 have f2_6 := frozen_of_row w3 _ 6 _ _ g2
 have c2_7 := cr 7 (Value.int .i64 a7) g2
 have f2_7 := frozen_of_row w3 _ 7 _ _ g2
 have c2_8 := cr 8 (Value.int .i64 a8) g2
 have f2_8 := frozen_of_row w3 _ 8 _ _ g2
 have c2_9 := cr 9 (Value.slice none 0 0) g2
 have f2_9 := frozen_of_row w3 _ 9 _ _ g2
 have ne1 : ¬ w.heap.size = w.heap.size + 1 + 1 := by omega
 have ne2 : ¬ w.heap.size + 1 = w.heap.size + 1 + 1 := by omega
 have ne3 : ¬ w.heap.size + 1 + 1 = w.heap.size + 1 := by omega
 have c1_0 := cr 0 (Value.int .i64 0) g1
 have f1_0 := frozen_of_row w3 _ 0 _ _ g1
 have c1_1 := cr 1 (Value.int .i64 0) g1
 have f1_1 := frozen_of_row w3 _ 1 _ _ g1
 have c1_2 := cr 2 (Value.slice none 0 0) g1
 have f1_2 := frozen_of_row w3 _ 2 _ _ g1
 have c1_3 := cr 3 (Value.slice none 0 0) g1
 have f1_3 := frozen_of_row w3 _ 3 _ _ g1
 have c1_4 := cr 4 (Value.int .i64 0) g1
 have f1_4 := frozen_of_row w3 _ 4 _ _ g1
 have c1_5 := cr 5 (Value.slice none 0 0) g1
 have f1_5 := frozen_of_row w3 _ 5 _ _ g1
 have c1_6 := cr 6 (Value.int .i64 0) g1
 have f1_6 := frozen_of_row w3 _ 6 _ _ g1
 have c1_7 := cr 7 (Value.int .i64 0) g1
 have f1_7 := frozen_of_row w3 _ 7 _ _ g1
 have c1_8 := cr 8 (Value.int .i64 0) g1
 have f1_8 := frozen_of_row w3 _ 8 _ _ g1
 have c1_9 := cr 9 (Value.slice none 0 0) g1
 have f1_9 := frozen_of_row w3 _ 9 _ _ g1
 go_wp2
 clear c2_0 f2_0 c2_1 f2_1 c2_2 f2_2 c2_3 f2_3 c2_4 f2_4 c2_5 f2_5 c2_6 f2_6 c2_7 f2_7 c2_8 f2_8 c2_9 f2_9 ne1 ne2 ne3 c1_0 f1_0 c1_1 f1_1 c1_2 f1_2 c1_3 f1_3 c1_4 f1_4 c1_5 f1_5 c1_6 f1_6 c1_7 f1_7 c1_8 f1_8 c1_9 f1_9
 have hw : Turn (fun b => b = w.heap.size + 1 ∨ b = w.heap.size + 1 + 1) w3 (((((((((((w3.setCell ⟨w.heap.size + 1 + 1, 9, none⟩ (.slice ua9 x9.length uc9)).setCell ⟨w.heap.size + 1, 0, none⟩ (.int .i64 a0)).setCell ⟨w.heap.size + 1, 1, none⟩ (.int .i64 a1)).setCell ⟨w.heap.size + 1, 2, none⟩ (.slice ua2 x2.length uc2)).setCell ⟨w.heap.size + 1, 3, none⟩ (.slice ua3 x3.length uc3)).setCell ⟨w.heap.size + 1, 4, none⟩ (.int .i64 a4)).setCell ⟨w.heap.size + 1, 5, none⟩ (.slice ua5 x5.length uc5)).setCell ⟨w.heap.size + 1, 6, none⟩ (.int .i64 a6)).setCell ⟨w.heap.size + 1, 7, none⟩ (.int .i64 a7)).setCell ⟨w.heap.size + 1, 8, none⟩ (.int .i64 a8)).setCell ⟨w.heap.size + 1, 9, none⟩ (.slice ua9 x9.length uc9)) := by
  first | exact ((((((((((((Turn.refl _ _).trans (turn_set (g := w.heap.size + 1 + 1) (j := 9) (u := .slice ua9 x9.length uc9) (Or.inr rfl))).trans (turn_set (g := w.heap.size + 1) (j := 0) (u := .int .i64 a0) (Or.inl rfl))).trans (turn_set (g := w.heap.size + 1) (j := 1) (u := .int .i64 a1) (Or.inl rfl))).trans (turn_set (g := w.heap.size + 1) (j := 2) (u := .slice ua2 x2.length uc2) (Or.inl rfl))).trans (turn_set (g := w.heap.size + 1) (j := 3) (u := .slice ua3 x3.length uc3) (Or.inl rfl))).trans (turn_set (g := w.heap.size + 1) (j := 4) (u := .int .i64 a4) (Or.inl rfl))).trans (turn_set (g := w.heap.size + 1) (j := 5) (u := .slice ua5 x5.length uc5) (Or.inl rfl))).trans (turn_set (g := w.heap.size + 1) (j := 6) (u := .int .i64 a6) (Or.inl rfl))).trans (turn_set (g := w.heap.size + 1) (j := 7) (u := .int .i64 a7) (Or.inl rfl))).trans (turn_set (g := w.heap.size + 1) (j := 8) (u := .int .i64 a8) (Or.inl rfl))).trans (turn_set (g := w.heap.size + 1) (j := 9) (u := .slice ua9 x9.length uc9) (Or.inl rfl))) | skip
 have r := (heap_setCell_same _ (w.heap.size + 1) 9 _ _ (.slice ua9 x9.length uc9) (heap_setCell_same _ (w.heap.size + 1) 8 _ _ (.int .i64 a8) (heap_setCell_same _ (w.heap.size + 1) 7 _ _ (.int .i64 a7) (heap_setCell_same _ (w.heap.size + 1) 6 _ _ (.int .i64 a6) (heap_setCell_same _ (w.heap.size + 1) 5 _ _ (.slice ua5 x5.length uc5) (heap_setCell_same _ (w.heap.size + 1) 4 _ _ (.int .i64 a4) (heap_setCell_same _ (w.heap.size + 1) 3 _ _ (.slice ua3 x3.length uc3) (heap_setCell_same _ (w.heap.size + 1) 2 _ _ (.slice ua2 x2.length uc2) (heap_setCell_same _ (w.heap.size + 1) 1 _ _ (.int .i64 a1) (heap_setCell_same _ (w.heap.size + 1) 0 _ _ (.int .i64 a0) ((heap_setCell_other _ ⟨w.heap.size + 1 + 1, 9, none⟩ (w.heap.size + 1) (.slice ua9 x9.length uc9) (by simp)).trans g1)))))))))))
 have e0 := cell_of_row _ _ 0 _ _ _ r
 have e1 := cell_of_row _ _ 1 _ _ _ r
 have e2 := cell_of_row _ _ 2 _ _ _ r
 have e3 := cell_of_row _ _ 3 _ _ _ r
 have e4 := cell_of_row _ _ 4 _ _ _ r
 have e5 := cell_of_row _ _ 5 _ _ _ r
 have e6 := cell_of_row _ _ 6 _ _ _ r
 have e7 := cell_of_row _ _ 7 _ _ _ r
 have e8 := cell_of_row _ _ 8 _ _ _ r
 have e9 := cell_of_row _ _ 9 _ _ _ r
 simp at e0 e1 e2 e3 e4 e5 e6 e7 e8 e9
 replace o2 := slO_turn tCond_law o2 hw (fun b h1 h2 => by first | (have := h1.1; omega) | (have := q2 b h1; omega))
 replace o3 := slO_turn tInt_law o3 hw (fun b h1 h2 => by first | (have := h1.1; omega) | (have := q3 b h1; omega))
 replace o5 := slO_turn tInt_law o5 hw (fun b h1 h2 => by first | (have := h1.1; omega) | (have := q5 b h1; omega))
 replace o9 := slO_turn tRow_law o9 hw (fun b h1 h2 => by first | (have := h1.1; omega) | (have := q9 b h1; omega))
 replace hb := below_turn hb hw (fun b h => by omega) (by omega)
 refine bodyPost_ret (v := .agg #[.int .i64 a0, .int .i64 a1, .slice ua2 x2.length uc2, .slice ua3 x3.length uc3, .int .i64 a4, .slice ua5 x5.length uc5, .int .i64 a6, .int .i64 a7, .int .i64 a8, .slice ua9 x9.length uc9]) ?_ rfl ?_
 ·
  simp [results, Tryz.f119, go_sem, e0, e1, e2, e3, e4, e5, e6, e7, e8, e9]
 ·
  exact ⟨[.int .i64 a0, .int .i64 a1, .slice ua2 x2.length uc2, .slice ua3 x3.length uc3, .int .i64 a4, .slice ua5 x5.length uc5, .int .i64 a6, .int .i64 a7, .int .i64 a8, .slice ua9 x9.length uc9], rfl, tActive_mkO o2 o3 o5 o9 (fun b h => by show w.heap.size ≤ b; first | (have := h.1; omega) | (have := q2 b h; omega)) (fun b h => by show w.heap.size ≤ b; first | (have := h.1; omega) | (have := q3 b h; omega)) (fun b h => by show w.heap.size ≤ b; first | (have := h.1; omega) | (have := q5 b h; omega)) (fun b h => by show w.heap.size ≤ b; first | (have := h.1; omega) | (have := q9 b h; omega)) (fun b h1 h2 => by first | exact d2_3 b h1 h2 | (have := h1.1; have := h1.2; have := h2.1; have := h2.2; omega) | (have := q2 b h1; have := h2.1; have := h2.2; omega) | (have := h1.1; have := h1.2; have := q3 b h2; omega) | (have := q2 b h1; have := q3 b h2; omega)) (fun b h1 h2 => by first | exact d2_5 b h1 h2 | (have := h1.1; have := h1.2; have := h2.1; have := h2.2; omega) | (have := q2 b h1; have := h2.1; have := h2.2; omega) | (have := h1.1; have := h1.2; have := q5 b h2; omega) | (have := q2 b h1; have := q5 b h2; omega)) (fun b h1 h2 => by first | exact d2_9 b h1 h2 | (have := h1.1; have := h1.2; have := h2.1; have := h2.2; omega) | (have := q2 b h1; have := h2.1; have := h2.2; omega) | (have := h1.1; have := h1.2; have := q9 b h2; omega) | (have := q2 b h1; have := q9 b h2; omega)) (fun b h1 h2 => by first | exact d3_5 b h1 h2 | (have := h1.1; have := h1.2; have := h2.1; have := h2.2; omega) | (have := q3 b h1; have := h2.1; have := h2.2; omega) | (have := h1.1; have := h1.2; have := q5 b h2; omega) | (have := q3 b h1; have := q5 b h2; omega)) (fun b h1 h2 => by first | exact d3_9 b h1 h2 | (have := h1.1; have := h1.2; have := h2.1; have := h2.2; omega) | (have := q3 b h1; have := h2.1; have := h2.2; omega) | (have := h1.1; have := h1.2; have := q9 b h2; omega) | (have := q3 b h1; have := q9 b h2; omega)) (fun b h1 h2 => by first | exact d5_9 b h1 h2 | (have := h1.1; have := h1.2; have := h2.1; have := h2.2; omega) | (have := q5 b h1; have := h2.1; have := h2.2; omega) | (have := h1.1; have := h1.2; have := q9 b h2; omega) | (have := q5 b h1; have := q9 b h2; omega)), hb⟩
set_option maxHeartbeats 8000000 in
theorem eqActive_T (a0 a1 a4 a6 a7 a8 : Int) (v2 v3 v5 v9 : Value) (x2 : List (Int × Int × Int)) (x3 : List Int) (x5 : List Int) (x9 : List (Int × List Int)) (u2 u3 u5 u9 : Value) (w : World) (h2 : SlR tCond w v2 x2) (h3 : SlR tInt w v3 x3) (h5 : SlR tInt w v5 x5) (h9 : SlR tRow w v9 x9) (g2 : SlR tCond w u2 x2) (g3 : SlR tInt w u3 x3) (g5 : SlR tInt w u5 x5) (g9 : SlR tRow w u9 x9) (s2 : zL tCond x2 ≤ 1048576) (s3 : zL tInt x3 ≤ 1048576) (s5 : zL tInt x5 ≤ 1048576) (s9 : zL tRow x9 ≤ 1048576) :
  Calls Tryz.prog 131 #[.agg #[.int .i64 a0, .int .i64 a1, v2, v3, .int .i64 a4, v5, .int .i64 a6, .int .i64 a7, .int .i64 a8, v9], .agg #[.int .i64 a0, .int .i64 a1, u2, u3, .int .i64 a4, u5, .int .i64 a6, .int .i64 a7, .int .i64 a8, u9]] w fun e w' => e = .returned (.bool true) ∧ Below w.heap.size w w' := by
 have H2 := hd h2; have G2 := hd g2; have S2 := hd s2
 have H3 := hd h3; have G3 := hd g3; have S3 := hd s3
 have H5 := hd h5; have G5 := hd g5; have S5 := hd s5
 have H9 := hd h9; have G9 := hd g9; have S9 := hd s9
 clear h2 g2 s2 h3 g3 s3 h5 g5 s5 h9 g9 s9
 have e0 : (a0 != a0) = false := by simp
 have e1 : (a1 != a1) = false := by simp
 have e4 : (a4 != a4) = false := by simp
 have e6 : (a6 != a6) = false := by simp
 have e7 : (a7 != a7) = false := by simp
 have e8 : (a8 != a8) = false := by simp
 go_enter Tryz.func131, Tryz.ntmps131
 go_wp2_with fail
 have hb : Below w.heap.size w ((w.alloc (.cells #[.int .i64 a0, .int .i64 a1, v2, v3, .int .i64 a4, v5, .int .i64 a6, .int .i64 a7, .int .i64 a8, v9] 93)).alloc (.cells #[.int .i64 a0, .int .i64 a1, u2, u3, .int .i64 a4, u5, .int .i64 a6, .int .i64 a7, .int .i64 a8, u9] 93)) := ((Below.refl _ w).alloc (Nat.le_refl _) _).alloc (by simp) _
 have g1 : ((w.alloc (.cells #[.int .i64 a0, .int .i64 a1, v2, v3, .int .i64 a4, v5, .int .i64 a6, .int .i64 a7, .int .i64 a8, v9] 93)).alloc (.cells #[.int .i64 a0, .int .i64 a1, u2, u3, .int .i64 a4, u5, .int .i64 a6, .int .i64 a7, .int .i64 a8, u9] 93)).heap[w.heap.size + 1]? = some (.cells #[.int .i64 a0, .int .i64 a1, u2, u3, .int .i64 a4, u5, .int .i64 a6, .int .i64 a7, .int .i64 a8, u9] 93 (0, 0)) := by
  have := heap_alloc_new (w.alloc (.cells #[.int .i64 a0, .int .i64 a1, v2, v3, .int .i64 a4, v5, .int .i64 a6, .int .i64 a7, .int .i64 a8, v9] 93)) (.cells #[.int .i64 a0, .int .i64 a1, u2, u3, .int .i64 a4, u5, .int .i64 a6, .int .i64 a7, .int .i64 a8, u9] 93)
  simpa only [World.size_alloc] using this
 have g0 : ((w.alloc (.cells #[.int .i64 a0, .int .i64 a1, v2, v3, .int .i64 a4, v5, .int .i64 a6, .int .i64 a7, .int .i64 a8, v9] 93)).alloc (.cells #[.int .i64 a0, .int .i64 a1, u2, u3, .int .i64 a4, u5, .int .i64 a6, .int .i64 a7, .int .i64 a8, u9] 93)).heap[w.heap.size]? = some (.cells #[.int .i64 a0, .int .i64 a1, v2, v3, .int .i64 a4, v5, .int .i64 a6, .int .i64 a7, .int .i64 a8, v9] 93 (0, 0)) := by
  rw [Below.heap_alloc _ _ _ (by simp)]
  exact heap_alloc_new w _
 have hz : w.heap.size + 1 < ((w.alloc (.cells #[.int .i64 a0, .int .i64 a1, v2, v3, .int .i64 a4, v5, .int .i64 a6, .int .i64 a7, .int .i64 a8, v9] 93)).alloc (.cells #[.int .i64 a0, .int .i64 a1, u2, u3, .int .i64 a4, u5, .int .i64 a6, .int .i64 a7, .int .i64 a8, u9] 93)).heap.size := by simp [World.size_alloc]
 generalize ((w.alloc (.cells #[.int .i64 a0, .int .i64 a1, v2, v3, .int .i64 a4, v5, .int .i64 a6, .int .i64 a7, .int .i64 a8, v9] 93)).alloc (.cells #[.int .i64 a0, .int .i64 a1, u2, u3, .int .i64 a4, u5, .int .i64 a6, .int .i64 a7, .int .i64 a8, u9] 93)) = W at *
 refine (eqQuery_T a0 a1 v2 v3 x2 x3 u2 u3 W (slR_below tCond_law H2.out hb) (slR_below tInt_law H3.out hb) (slR_below tCond_law G2.out hb) (slR_below tInt_law G3.out hb) S2.out S3.out).mono ?_
 rintro e w1 ⟨rfl, b1⟩
 replace g0 := (b1.block _ (by omega)).trans g0
 replace g1 := (b1.block _ (by omega)).trans g1
 have zz0 := b1.size
 replace hb := hb.trans (b1.mono (by omega))
 clear b1
 have p0_4 := cr 4 (Value.int .i64 a4) g0
 have p1_4 := cr 4 (Value.int .i64 a4) g1
 have p0_5 := cr 5 (v5) g0
 have p1_5 := cr 5 (u5) g1
 go_wp2_with fail
 clear p0_4 p1_4 p0_5 p1_5
 refine (eqIntS_S v5 u5 x5 w1 (slR_below tInt_law H5.out hb) (slR_below tInt_law G5.out hb) S5.out).mono ?_
 rintro e w2 ⟨rfl, b1⟩
 replace g0 := (b1.block _ (by omega)).trans g0
 replace g1 := (b1.block _ (by omega)).trans g1
 have zz1 := b1.size
 replace hb := hb.trans (b1.mono (by omega))
 clear b1
 have p0_6 := cr 6 (Value.int .i64 a6) g0
 have p1_6 := cr 6 (Value.int .i64 a6) g1
 have p0_7 := cr 7 (Value.int .i64 a7) g0
 have p1_7 := cr 7 (Value.int .i64 a7) g1
 have p0_8 := cr 8 (Value.int .i64 a8) g0
 have p1_8 := cr 8 (Value.int .i64 a8) g1
 have p0_9 := cr 9 (v9) g0
 have p1_9 := cr 9 (u9) g1
 go_wp2_with fail
 clear p0_6 p1_6 p0_7 p1_7 p0_8 p1_8 p0_9 p1_9
 refine (eqRowS_S v9 u9 x9 w2 (slR_below tRow_law H9.out hb) (slR_below tRow_law G9.out hb) S9.out).mono ?_
 rintro e w3 ⟨rfl, b1⟩
 replace g0 := (b1.block _ (by omega)).trans g0
 replace g1 := (b1.block _ (by omega)).trans g1
 have zz2 := b1.size
 replace hb := hb.trans (b1.mono (by omega))
 clear b1
 go_wp2
 go_ret
 exact ⟨rfl, hb⟩
abbrev tActiveS : Ty (List ((Int × Int × List (Int × Int × Int) × List Int) × Int × List Int × Int × Int × Int × List (Int × List Int))) := tSl 93 tActive
theorem tActiveS_law : tActiveS.Law := tSl_law tActive_law (by decide)
set_option maxHeartbeats 8000000 in
theorem szActiveS_Y (v : Value) (xs : List ((Int × Int × List (Int × Int × Int) × List Int) × Int × List Int × Int × Int × Int × List (Int × List Int))) (k0 : Int) (w : World) (h : SlR tActive w v xs) (hs : ((zL tActive xs : Nat) : Int) ≤ k0) (hk : k0 ≤ 1048576) :
  Calls Tryz.prog 51 #[v, .int .i64 k0] w fun e w' => e = .returned (.int .i64 (k0 - ((zL tActive xs : Nat) : Int))) ∧ Below w.heap.size w w' := by
 have H := hd h
 obtain ⟨a, cap, rfl⟩ := slR_len h
 clear h
 have h00 := zTo_le (T := tActive) (xs := xs) (Nat.zero_le _)
 rw [zTo_zero] at h00
 have HS := hd hs
 go_enter Tryz.func51, Tryz.ntmps51
 have hneg : ¬ k0 - (xs.length : Int) < 0 := by omega
 go_wp2
 clear hneg
 go_loopw [1, 5] (fun l i wr => ∃ k : Nat, k ≤ xs.length ∧ i = .int .i64 k ∧ l = .int .i64 (k0 - (zTo tActive xs k : Int)) ∧ Below w.heap.size w wr) (fun _ i _ => xs.length - (intOf i).toNat)
 case atStart => exact ⟨0, Nat.zero_le _, rfl, by rw [zTo_zero], Below.refl _ _⟩
 case round =>
  obtain ⟨k, hk', rfl, rfl, hbel⟩ := hrel
  by_cases hlt : k < xs.length
  ·
   have HST := hd (zTo_step (T := tActive) hlt)
   have HLE := hd (zTo_le (T := tActive) (xs := xs) (k := k + 1) (by omega))
   have i1 : (0 : Int) ≤ (k : Int) := by omega
   have i2 : (k : Int) < (xs.length : Int) := by omega
   obtain ⟨b, off, cap', cs, hv, hbl, hcs, hR⟩ := slR_at (slR_below tActive_law H.out hbel) hlt
   simp only [Value.slice.injEq] at hv
   obtain ⟨rfl, _, rfl⟩ := hv
   generalize xs.getD k tActive.d = x at *
   obtain ⟨⟨a0, a1, x2, x3⟩, a4, x5, a6, a7, a8, x9⟩ := x
   obtain ⟨v2, v3, v5, v9, hR'⟩ := tActive_R hR
   obtain ⟨rfl, h2, h3, h5, h9⟩ := hR'
   have p0 : wr.cell? ⟨b, off + k * 10, none⟩ = some (Value.int .i64 a0) := hcs 0 (by decide)
   have p1 : wr.cell? ⟨b, off + k * 10 + 1, none⟩ = some (Value.int .i64 a1) := hcs 1 (by decide)
   have p2 : wr.cell? ⟨b, off + k * 10 + 2, none⟩ = some (v2) := hcs 2 (by decide)
   have p3 : wr.cell? ⟨b, off + k * 10 + 3, none⟩ = some (v3) := hcs 3 (by decide)
   have p4 : wr.cell? ⟨b, off + k * 10 + 4, none⟩ = some (Value.int .i64 a4) := hcs 4 (by decide)
   have p5 : wr.cell? ⟨b, off + k * 10 + 5, none⟩ = some (v5) := hcs 5 (by decide)
   have p6 : wr.cell? ⟨b, off + k * 10 + 6, none⟩ = some (Value.int .i64 a6) := hcs 6 (by decide)
   have p7 : wr.cell? ⟨b, off + k * 10 + 7, none⟩ = some (Value.int .i64 a7) := hcs 7 (by decide)
   have p8 : wr.cell? ⟨b, off + k * 10 + 8, none⟩ = some (Value.int .i64 a8) := hcs 8 (by decide)
   have p9 : wr.cell? ⟨b, off + k * 10 + 9, none⟩ = some (v9) := hcs 9 (by decide)
   clear hcs
   have HQ : Hid (tActive.sz ((a0, a1, x2, x3), a4, x5, a6, a7, a8, x9) = zL tCond x2 + zL tInt x3 + zL tInt x5 + zL tRow x9) := hd tActive_sz
   have hx1 : ((zL tCond x2 + zL tInt x3 + zL tInt x5 + zL tRow x9 : Nat) : Int) ≤ k0 - (zTo tActive xs k : Int) := by have := HST.out; have := HLE.out; have := HQ.out; omega
   have hx2 : k0 - (zTo tActive xs k : Int) ≤ 1048576 := by omega
   have hneg : ¬ k0 - (zTo tActive xs k : Int) - ((zL tCond x2 + zL tInt x3 + zL tInt x5 + zL tRow x9 : Nat) : Int) < 0 := by omega
   have HC := hd (fun W b => szActive_Y a0 a1 a4 a6 a7 a8 v2 v3 v5 v9 x2 x3 x5 x9 (k0 - (zTo tActive xs k : Int)) W (slR_below tCond_law h2 b) (slR_below tInt_law h3 b) (slR_below tInt_law h5 b) (slR_below tRow_law h9 b) hx1 hx2)
   go_wp2_with fail
   refine (HC.out _ (Below.refl _ _)).mono ?_
   rintro e w1 ⟨rfl, b1⟩
   have b2 := hbel.trans (b1.mono hbel.size)
   go_wp2
   go_roundw
   case rel => exact ⟨k + 1, by omega, by go_num, by rw [HST.out, HQ.out]; go_num, b2⟩
   case measure => simp [intOf]; omega
  ·
   obtain rfl : k = xs.length := by omega
   go_wp2
   go_ret
   exact ⟨rfl, hbel⟩
set_option maxHeartbeats 8000000 in
theorem szActiveS_N (v : Value) (xs : List ((Int × Int × List (Int × Int × Int) × List Int) × Int × List Int × Int × Int × Int × List (Int × List Int))) (k0 : Int) (w : World) (h : SlR tActive w v xs) (hs : k0 < ((zL tActive xs : Nat) : Int)) (hk : k0 ≤ 1048576) (hp : 0 ≤ k0) (ho : tActiveS.ok xs) :
  Calls Tryz.prog 51 #[v, .int .i64 k0] w fun e w' => e = .returned (.int .i64 (-1)) ∧ Below w.heap.size w w' := by
 have H := hd h
 have HX := hd ho.2
 have hn := ho.1
 have HS := hd hs
 obtain ⟨a, cap, rfl⟩ := slR_len h
 clear h ho hs
 by_cases h1 : k0 < (xs.length : Int)
 ·
  have hneg : k0 - (xs.length : Int) < 0 := by omega
  go_enter Tryz.func51, Tryz.ntmps51
  go_wp2
  go_ret
  exact ⟨rfl, Below.refl _ _⟩
 ·
  go_enter Tryz.func51, Tryz.ntmps51
  have hneg : ¬ k0 - (xs.length : Int) < 0 := by omega
  go_wp2
  clear hneg
  go_loopw [1, 5] (fun l i wr => ∃ k : Nat, k ≤ xs.length ∧ i = .int .i64 k ∧ l = .int .i64 (k0 - (zTo tActive xs k : Int)) ∧ (zTo tActive xs k : Int) ≤ k0 ∧ Below w.heap.size w wr) (fun _ i _ => xs.length - (intOf i).toNat)
  case atStart => exact ⟨0, Nat.zero_le _, rfl, by rw [zTo_zero], by rw [zTo_zero]; omega, Below.refl _ _⟩
  case round =>
   obtain ⟨k, hk', rfl, rfl, hle, hbel⟩ := hrel
   by_cases hlt : k < xs.length
   ·
    have HST := hd (zTo_step (T := tActive) hlt)
    have hx := HX.out k hlt
    have i1 : (0 : Int) ≤ (k : Int) := by omega
    have i2 : (k : Int) < (xs.length : Int) := by omega
    obtain ⟨b, off, cap', cs, hv, hbl, hcs, hR⟩ := slR_at (slR_below tActive_law H.out hbel) hlt
    simp only [Value.slice.injEq] at hv
    obtain ⟨rfl, _, rfl⟩ := hv
    generalize xs.getD k tActive.d = x at *
    obtain ⟨⟨a0, a1, x2, x3⟩, a4, x5, a6, a7, a8, x9⟩ := x
    obtain ⟨v2, v3, v5, v9, hR'⟩ := tActive_R hR
    obtain ⟨rfl, h2, h3, h5, h9⟩ := hR'
    have p0 : wr.cell? ⟨b, off + k * 10, none⟩ = some (Value.int .i64 a0) := hcs 0 (by decide)
    have p1 : wr.cell? ⟨b, off + k * 10 + 1, none⟩ = some (Value.int .i64 a1) := hcs 1 (by decide)
    have p2 : wr.cell? ⟨b, off + k * 10 + 2, none⟩ = some (v2) := hcs 2 (by decide)
    have p3 : wr.cell? ⟨b, off + k * 10 + 3, none⟩ = some (v3) := hcs 3 (by decide)
    have p4 : wr.cell? ⟨b, off + k * 10 + 4, none⟩ = some (Value.int .i64 a4) := hcs 4 (by decide)
    have p5 : wr.cell? ⟨b, off + k * 10 + 5, none⟩ = some (v5) := hcs 5 (by decide)
    have p6 : wr.cell? ⟨b, off + k * 10 + 6, none⟩ = some (Value.int .i64 a6) := hcs 6 (by decide)
    have p7 : wr.cell? ⟨b, off + k * 10 + 7, none⟩ = some (Value.int .i64 a7) := hcs 7 (by decide)
    have p8 : wr.cell? ⟨b, off + k * 10 + 8, none⟩ = some (Value.int .i64 a8) := hcs 8 (by decide)
    have p9 : wr.cell? ⟨b, off + k * 10 + 9, none⟩ = some (v9) := hcs 9 (by decide)
    clear hcs
    have HQ : Hid (tActive.sz ((a0, a1, x2, x3), a4, x5, a6, a7, a8, x9) = zL tCond x2 + zL tInt x3 + zL tInt x5 + zL tRow x9) := hd tActive_sz
    obtain ⟨⟨_, ⟨_, ⟨o2, o3⟩⟩⟩, ⟨_, ⟨o5, ⟨_, ⟨_, ⟨_, o9⟩⟩⟩⟩⟩⟩ := hx
    have hz0 : (0 : Int) ≤ (zTo tActive xs k : Int) := by omega
    by_cases hg : ((zL tCond x2 + zL tInt x3 + zL tInt x5 + zL tRow x9 : Nat) : Int) ≤ k0 - (zTo tActive xs k : Int)
    ·
     have hx2 : k0 - (zTo tActive xs k : Int) ≤ 1048576 := by omega
     have hneg : ¬ k0 - (zTo tActive xs k : Int) - ((zL tCond x2 + zL tInt x3 + zL tInt x5 + zL tRow x9 : Nat) : Int) < 0 := by omega
     have HC := hd (fun W b => szActive_Y a0 a1 a4 a6 a7 a8 v2 v3 v5 v9 x2 x3 x5 x9 (k0 - (zTo tActive xs k : Int)) W (slR_below tCond_law h2 b) (slR_below tInt_law h3 b) (slR_below tInt_law h5 b) (slR_below tRow_law h9 b) hg hx2)
     go_wp2_with fail
     refine (HC.out _ (Below.refl _ _)).mono ?_
     rintro e w1 ⟨rfl, b1⟩
     have b2 := hbel.trans (b1.mono hbel.size)
     go_wp2
     go_roundw
     case rel => exact ⟨k + 1, by omega, by go_num, by rw [HST.out, HQ.out]; go_num, by rw [HST.out, HQ.out]; omega, b2⟩
     case measure => simp [intOf]; omega
    ·
     have hx1 : k0 - (zTo tActive xs k : Int) < ((zL tCond x2 + zL tInt x3 + zL tInt x5 + zL tRow x9 : Nat) : Int) := by omega
     have hx0 : 0 ≤ k0 - (zTo tActive xs k : Int) := by omega
     have hx2 : k0 - (zTo tActive xs k : Int) ≤ 1048576 := by omega
     have HC := hd (fun W b => szActive_N a0 a1 a4 a6 a7 a8 v2 v3 v5 v9 x2 x3 x5 x9 (k0 - (zTo tActive xs k : Int)) W (slR_below tCond_law h2 b) (slR_below tInt_law h3 b) (slR_below tInt_law h5 b) (slR_below tRow_law h9 b) hx1 hx2 hx0 o2 o3 o5 o9)
     clear hg
     go_wp2_with fail
     refine (HC.out _ (Below.refl _ _)).mono ?_
     rintro e w1 ⟨rfl, b1⟩
     have b2 := hbel.trans (b1.mono hbel.size)
     go_wp2
     go_ret
     exact ⟨rfl, b2⟩
   ·
    obtain rfl : k = xs.length := by omega
    exact absurd HS.out (by show ¬ k0 < ((zTo tActive xs xs.length : Nat) : Int); omega)
theorem Tryz.info_Active : (Tryz.prog.info? 93).map (fun i => (i.zero, i.size)) = some (some (.agg #[.int .i64 0, .int .i64 0, .slice none 0 0, .slice none 0 0, .int .i64 0, .slice none 0 0, .int .i64 0, .int .i64 0, .int .i64 0, .slice none 0 0]), 10) := by kernel_rfl
theorem Tryz.bytes_Active : ((Tryz.prog.info? 93).map (fun i => decide (i.bytes ≤ 512))) = some true := by kernel_rfl
theorem tActive_zero (w : World) : tActive.O w (fun _ => False) #[.int .i64 0, .int .i64 0, .slice none 0 0, .slice none 0 0, .int .i64 0, .slice none 0 0, .int .i64 0, .int .i64 0, .int .i64 0, .slice none 0 0].toList tActive.d := tActive_mkO (slO_nil _ _ _ (fun _ => False)) (slO_nil _ _ _ (fun _ => False)) (slO_nil _ _ _ (fun _ => False)) (slO_nil _ _ _ (fun _ => False)) (fun b h => h) (fun b h => h) (fun b h => h) (fun b h => h) (fun b h _ => h) (fun b h _ => h) (fun b h _ => h) (fun b h _ => h) (fun b h _ => h) (fun b h _ => h)
set_option maxHeartbeats 8000000 in
theorem toActiveS_S (v : Value) (xs : List ((Int × Int × List (Int × Int × Int) × List Int) × Int × List Int × Int × Int × Int × List (Int × List Int))) (w : World) (h : SlR tActive w v xs) (hs : zL tActive xs ≤ 1048576) :
  Calls Tryz.prog 58 #[v] w (FreshS 93 tActive w xs) := by
 obtain ⟨i0, hi, hz0, hz1⟩ : ∃ i0, Tryz.prog.info? 93 = some i0 ∧ i0.zero = some (.agg #[.int .i64 0, .int .i64 0, .slice none 0 0, .slice none 0 0, .int .i64 0, .slice none 0 0, .int .i64 0, .int .i64 0, .int .i64 0, .slice none 0 0]) ∧ i0.size = 10 := by
  have h0 := Tryz.info_Active
  cases q : Tryz.prog.info? 93 with
  | none => rw [q] at h0; simp at h0
  | some i => rw [q] at h0; simp only [Option.map_some, Option.some.injEq, Prod.mk.injEq] at h0; exact ⟨i, rfl, h0.1, h0.2⟩
 have hz2 : i0.bytes ≤ 512 := by
  have h0 := Tryz.bytes_Active
  rw [hi] at h0
  simpa using h0
 have HI := hd hi; have HZ0 := hd hz0; have HZ1 := hd hz1; have HZ2 := hd hz2
 clear hi hz0 hz1 hz2
 have H := hd h
 have hlen := zL_len hs
 have HS := hd hs
 obtain ⟨a, cap, rfl⟩ := slR_len h
 clear h hs
 go_enter Tryz.func58, Tryz.ntmps58
 go_wp2_with (at_make; refine wpList_make_full _ rfl (.tmp 6) (.tmp 6) 36 rfl w.heap.size 93 i0 (.agg #[.int .i64 0, .int .i64 0, .slice none 0 0, .slice none 0 0, .int .i64 0, .slice none 0 0, .int .i64 0, .int .i64 0, .int .i64 0, .slice none 0 0]) 10 Tryz.underlying36 HI.out HZ0.out HZ1.out _ _ _ _ xs.length rfl rfl rfl rfl (by have h9 := Nat.mul_le_mul HZ2.out hlen; have h8 := Nat.mul_le_mul hlen HZ2.out; omega) (by unfold maxLen; omega) (Nat.le_refl _) ?_)
 intro w1 hown0 hg0
 have hown1 : SlO 93 tActive w1 (since w) (.slice (some ⟨w.heap.size, 0, none⟩) xs.length xs.length) (List.replicate xs.length tActive.d) := slO_made (z := #[.int .i64 0, .int .i64 0, .slice none 0 0, .slice none 0 0, .int .i64 0, .slice none 0 0, .int .i64 0, .int .i64 0, .int .i64 0, .slice none 0 0]) tActive_law rfl (tActive_zero w1) (Nat.le_refl _) hown0
 have hbel1 := (Below.refl w.heap.size w).grown hg0 (Nat.le_refl _) (fun k hk => by cases hk)
 clear hown0 hg0
 go_wp2
 go_loopw [4] (fun i wr => ∃ k : Nat, k ≤ xs.length ∧ i = .int .i64 k ∧ SlO 93 tActive wr (since w) (.slice (some ⟨w.heap.size, 0, none⟩) xs.length xs.length) (xs.take k ++ List.replicate (xs.length - k) tActive.d) ∧ Below w.heap.size w wr) (fun i _ => xs.length - (intOf i).toNat)
 case atStart => exact ⟨0, Nat.zero_le _, rfl, by simpa using hown1, hbel1⟩
 case round =>
  obtain ⟨k, hk, rfl, hown, hbel⟩ := hrel
  by_cases hlt : k < xs.length
  ·
   have HSET := hd (cTo_step (d := tActive.d) hlt)
   have HKL : Hid (k < (xs.take k ++ List.replicate (xs.length - k) tActive.d).length) := hd (by rw [cTo_len hk]; exact hlt)
   have HLL := hd (cTo_len (d := tActive.d) hk)
   have i1 : (0 : Int) ≤ (k : Int) := by omega
   have i2 : (k : Int) < (xs.length : Int) := by omega
   have hzx := zL_at HS.out hlt
   obtain ⟨b, off, cap', cs, hv, hbl, hcs, hR⟩ := slR_at (slR_below tActive_law H.out hbel) hlt
   simp only [Value.slice.injEq] at hv
   obtain ⟨rfl, _, rfl⟩ := hv
   obtain ⟨hme, hFg, hgl, cj, Fj, Lc, hrow, hLc, hO, hFj, hput⟩ := slO_open tActive_law hown HKL.out
   clear hme
   clear hown1 hbel1
   generalize xs.getD k tActive.d = x at *
   generalize xs.take k ++ List.replicate (xs.length - k) tActive.d = ys at *
   obtain ⟨⟨a0, a1, x2, x3⟩, a4, x5, a6, a7, a8, x9⟩ := x
   obtain ⟨v2, v3, v5, v9, hR'⟩ := tActive_R hR
   obtain ⟨rfl, h2, h3, h5, h9⟩ := hR'
   have p0 : wr.cell? ⟨b, off + k * 10, none⟩ = some (Value.int .i64 a0) := hcs 0 (by decide)
   have p1 : wr.cell? ⟨b, off + k * 10 + 1, none⟩ = some (Value.int .i64 a1) := hcs 1 (by decide)
   have p2 : wr.cell? ⟨b, off + k * 10 + 2, none⟩ = some (v2) := hcs 2 (by decide)
   have p3 : wr.cell? ⟨b, off + k * 10 + 3, none⟩ = some (v3) := hcs 3 (by decide)
   have p4 : wr.cell? ⟨b, off + k * 10 + 4, none⟩ = some (Value.int .i64 a4) := hcs 4 (by decide)
   have p5 : wr.cell? ⟨b, off + k * 10 + 5, none⟩ = some (v5) := hcs 5 (by decide)
   have p6 : wr.cell? ⟨b, off + k * 10 + 6, none⟩ = some (Value.int .i64 a6) := hcs 6 (by decide)
   have p7 : wr.cell? ⟨b, off + k * 10 + 7, none⟩ = some (Value.int .i64 a7) := hcs 7 (by decide)
   have p8 : wr.cell? ⟨b, off + k * 10 + 8, none⟩ = some (Value.int .i64 a8) := hcs 8 (by decide)
   have p9 : wr.cell? ⟨b, off + k * 10 + 9, none⟩ = some (v9) := hcs 9 (by decide)
   rw [tActive_sz] at hzx
   have S2 := hd (show zL tCond x2 ≤ 1048576 by omega)
   have S3 := hd (show zL tInt x3 ≤ 1048576 by omega)
   have S5 := hd (show zL tInt x5 ≤ 1048576 by omega)
   have S9 := hd (show zL tRow x9 ≤ 1048576 by omega)
   have HC := hd (fun w g2 g3 g5 g9 => toActive_T a0 a1 a4 a6 a7 a8 v2 v3 v5 v9 x2 x3 x5 x9 w g2 g3 g5 g9 S2.out S3.out S5.out S9.out)
   have G2 := hd h2
   have G3 := hd h3
   have G5 := hd h5
   have G9 := hd h9
   clear hcs hzx h2 h3 h5 h9
   go_wp2_with fail
   refine (HC.out _ G2.out G3.out G5.out G9.out).mono ?_
   rintro e w2 ⟨cv, rfl, ow, b2⟩
   replace ow := tActive_law.lt ow
   have ow2 := ow
   obtain ⟨u2, u3, u5, u9, K2, K3, K5, K9, rfl, o2, o3, o5, o9, _, _, _, _, _, _, _, _, _, _⟩ := tActive_O ow2
   obtain ⟨ua2, uc2, rfl⟩ := slO_len o2
   obtain ⟨ua3, uc3, rfl⟩ := slO_len o3
   obtain ⟨ua5, uc5, rfl⟩ := slO_len o5
   obtain ⟨ua9, uc9, rfl⟩ := slO_len o9
   clear o2 o3 o5 o9
   have r0 := row_turn (G := fun _ => False) hrow (turn_below b2) (fun _ _ => not_false)
   rw [HLL.out] at r0
   have q0 : ∃ x, w2.cell? ⟨w.heap.size, k * 10, none⟩ = some x := zq r0 (k * 10) (by have := HKL.out; rw [HLL.out] at this; show _ < xs.length * 10; omega)
   obtain ⟨y0, q0⟩ := q0
   have f0 := World.ownsRow.frozenAt r0 (k * 10)
   have q1 : ∃ x, w2.cell? ⟨w.heap.size, k * 10 + 1, none⟩ = some x := zq r0 (k * 10 + 1) (by have := HKL.out; rw [HLL.out] at this; show _ < xs.length * 10; omega)
   obtain ⟨y1, q1⟩ := q1
   have f1 := World.ownsRow.frozenAt r0 (k * 10 + 1)
   have q2 : ∃ x, w2.cell? ⟨w.heap.size, k * 10 + 2, none⟩ = some x := zq r0 (k * 10 + 2) (by have := HKL.out; rw [HLL.out] at this; show _ < xs.length * 10; omega)
   obtain ⟨y2, q2⟩ := q2
   have f2 := World.ownsRow.frozenAt r0 (k * 10 + 2)
   have q3 : ∃ x, w2.cell? ⟨w.heap.size, k * 10 + 3, none⟩ = some x := zq r0 (k * 10 + 3) (by have := HKL.out; rw [HLL.out] at this; show _ < xs.length * 10; omega)
   obtain ⟨y3, q3⟩ := q3
   have f3 := World.ownsRow.frozenAt r0 (k * 10 + 3)
   have q4 : ∃ x, w2.cell? ⟨w.heap.size, k * 10 + 4, none⟩ = some x := zq r0 (k * 10 + 4) (by have := HKL.out; rw [HLL.out] at this; show _ < xs.length * 10; omega)
   obtain ⟨y4, q4⟩ := q4
   have f4 := World.ownsRow.frozenAt r0 (k * 10 + 4)
   have q5 : ∃ x, w2.cell? ⟨w.heap.size, k * 10 + 5, none⟩ = some x := zq r0 (k * 10 + 5) (by have := HKL.out; rw [HLL.out] at this; show _ < xs.length * 10; omega)
   obtain ⟨y5, q5⟩ := q5
   have f5 := World.ownsRow.frozenAt r0 (k * 10 + 5)
   have q6 : ∃ x, w2.cell? ⟨w.heap.size, k * 10 + 6, none⟩ = some x := zq r0 (k * 10 + 6) (by have := HKL.out; rw [HLL.out] at this; show _ < xs.length * 10; omega)
   obtain ⟨y6, q6⟩ := q6
   have f6 := World.ownsRow.frozenAt r0 (k * 10 + 6)
   have q7 : ∃ x, w2.cell? ⟨w.heap.size, k * 10 + 7, none⟩ = some x := zq r0 (k * 10 + 7) (by have := HKL.out; rw [HLL.out] at this; show _ < xs.length * 10; omega)
   obtain ⟨y7, q7⟩ := q7
   have f7 := World.ownsRow.frozenAt r0 (k * 10 + 7)
   have q8 : ∃ x, w2.cell? ⟨w.heap.size, k * 10 + 8, none⟩ = some x := zq r0 (k * 10 + 8) (by have := HKL.out; rw [HLL.out] at this; show _ < xs.length * 10; omega)
   obtain ⟨y8, q8⟩ := q8
   have f8 := World.ownsRow.frozenAt r0 (k * 10 + 8)
   have q9 : ∃ x, w2.cell? ⟨w.heap.size, k * 10 + 9, none⟩ = some x := zq r0 (k * 10 + 9) (by have := HKL.out; rw [HLL.out] at this; show _ < xs.length * 10; omega)
   obtain ⟨y9, q9⟩ := q9
   have f9 := World.ownsRow.frozenAt r0 (k * 10 + 9)
   have b3 := hbel.trans (b2.mono hbel.size)
   have B3 := hd ((((((((((b3.setCell (p := ⟨w.heap.size, k * 10, none⟩) (Nat.le_refl _) (.int .i64 a0)).setCell (p := ⟨w.heap.size, k * 10 + 1, none⟩) (Nat.le_refl _) (.int .i64 a1)).setCell (p := ⟨w.heap.size, k * 10 + 2, none⟩) (Nat.le_refl _) (.slice ua2 x2.length uc2)).setCell (p := ⟨w.heap.size, k * 10 + 3, none⟩) (Nat.le_refl _) (.slice ua3 x3.length uc3)).setCell (p := ⟨w.heap.size, k * 10 + 4, none⟩) (Nat.le_refl _) (.int .i64 a4)).setCell (p := ⟨w.heap.size, k * 10 + 5, none⟩) (Nat.le_refl _) (.slice ua5 x5.length uc5)).setCell (p := ⟨w.heap.size, k * 10 + 6, none⟩) (Nat.le_refl _) (.int .i64 a6)).setCell (p := ⟨w.heap.size, k * 10 + 7, none⟩) (Nat.le_refl _) (.int .i64 a7)).setCell (p := ⟨w.heap.size, k * 10 + 8, none⟩) (Nat.le_refl _) (.int .i64 a8)).setCell (p := ⟨w.heap.size, k * 10 + 9, none⟩) (Nat.le_refl _) (.slice ua9 x9.length uc9))
   have hT : Turn (fun b => b = w.heap.size ∨ Fj b ∨ wr.heap.size ≤ b) wr ((((((((((w2.setCell ⟨w.heap.size, k * 10, none⟩ (.int .i64 a0)).setCell ⟨w.heap.size, k * 10 + 1, none⟩ (.int .i64 a1)).setCell ⟨w.heap.size, k * 10 + 2, none⟩ (.slice ua2 x2.length uc2)).setCell ⟨w.heap.size, k * 10 + 3, none⟩ (.slice ua3 x3.length uc3)).setCell ⟨w.heap.size, k * 10 + 4, none⟩ (.int .i64 a4)).setCell ⟨w.heap.size, k * 10 + 5, none⟩ (.slice ua5 x5.length uc5)).setCell ⟨w.heap.size, k * 10 + 6, none⟩ (.int .i64 a6)).setCell ⟨w.heap.size, k * 10 + 7, none⟩ (.int .i64 a7)).setCell ⟨w.heap.size, k * 10 + 8, none⟩ (.int .i64 a8)).setCell ⟨w.heap.size, k * 10 + 9, none⟩ (.slice ua9 x9.length uc9)) := (((((((((((turn_below b2).trans (turn_set (j := k * 10) (u := .int .i64 a0) (Or.inl rfl))).trans (turn_set (j := k * 10 + 1) (u := .int .i64 a1) (Or.inl rfl))).trans (turn_set (j := k * 10 + 2) (u := .slice ua2 x2.length uc2) (Or.inl rfl))).trans (turn_set (j := k * 10 + 3) (u := .slice ua3 x3.length uc3) (Or.inl rfl))).trans (turn_set (j := k * 10 + 4) (u := .int .i64 a4) (Or.inl rfl))).trans (turn_set (j := k * 10 + 5) (u := .slice ua5 x5.length uc5) (Or.inl rfl))).trans (turn_set (j := k * 10 + 6) (u := .int .i64 a6) (Or.inl rfl))).trans (turn_set (j := k * 10 + 7) (u := .int .i64 a7) (Or.inl rfl))).trans (turn_set (j := k * 10 + 8) (u := .int .i64 a8) (Or.inl rfl))).trans (turn_set (j := k * 10 + 9) (u := .slice ua9 x9.length uc9) (Or.inl rfl)))
   have hT2 : Turn (fun b => b = w.heap.size) w2 ((((((((((w2.setCell ⟨w.heap.size, k * 10, none⟩ (.int .i64 a0)).setCell ⟨w.heap.size, k * 10 + 1, none⟩ (.int .i64 a1)).setCell ⟨w.heap.size, k * 10 + 2, none⟩ (.slice ua2 x2.length uc2)).setCell ⟨w.heap.size, k * 10 + 3, none⟩ (.slice ua3 x3.length uc3)).setCell ⟨w.heap.size, k * 10 + 4, none⟩ (.int .i64 a4)).setCell ⟨w.heap.size, k * 10 + 5, none⟩ (.slice ua5 x5.length uc5)).setCell ⟨w.heap.size, k * 10 + 6, none⟩ (.int .i64 a6)).setCell ⟨w.heap.size, k * 10 + 7, none⟩ (.int .i64 a7)).setCell ⟨w.heap.size, k * 10 + 8, none⟩ (.int .i64 a8)).setCell ⟨w.heap.size, k * 10 + 9, none⟩ (.slice ua9 x9.length uc9)) := (((((((((((Turn.refl (fun b => b = w.heap.size) _).trans (turn_set (G := fun b => b = w.heap.size) (j := k * 10) (u := .int .i64 a0) rfl)).trans (turn_set (G := fun b => b = w.heap.size) (j := k * 10 + 1) (u := .int .i64 a1) rfl)).trans (turn_set (G := fun b => b = w.heap.size) (j := k * 10 + 2) (u := .slice ua2 x2.length uc2) rfl)).trans (turn_set (G := fun b => b = w.heap.size) (j := k * 10 + 3) (u := .slice ua3 x3.length uc3) rfl)).trans (turn_set (G := fun b => b = w.heap.size) (j := k * 10 + 4) (u := .int .i64 a4) rfl)).trans (turn_set (G := fun b => b = w.heap.size) (j := k * 10 + 5) (u := .slice ua5 x5.length uc5) rfl)).trans (turn_set (G := fun b => b = w.heap.size) (j := k * 10 + 6) (u := .int .i64 a6) rfl)).trans (turn_set (G := fun b => b = w.heap.size) (j := k * 10 + 7) (u := .int .i64 a7) rfl)).trans (turn_set (G := fun b => b = w.heap.size) (j := k * 10 + 8) (u := .int .i64 a8) rfl)).trans (turn_set (G := fun b => b = w.heap.size) (j := k * 10 + 9) (u := .slice ua9 x9.length uc9) rfl))
   have hO2 := tActive_law.turn ow hT2 (fun b h1 h2 => by have := h1.1; simp only [since] at this; omega)
   have r9 := (World.ownsRow.stored (World.ownsRow.stored (World.ownsRow.stored (World.ownsRow.stored (World.ownsRow.stored (World.ownsRow.stored (World.ownsRow.stored (World.ownsRow.stored (World.ownsRow.stored (World.ownsRow.stored r0 (k * 10) (.int .i64 a0)).1 (k * 10 + 1) (.int .i64 a1)).1 (k * 10 + 2) (.slice ua2 x2.length uc2)).1 (k * 10 + 3) (.slice ua3 x3.length uc3)).1 (k * 10 + 4) (.int .i64 a4)).1 (k * 10 + 5) (.slice ua5 x5.length uc5)).1 (k * 10 + 6) (.int .i64 a6)).1 (k * 10 + 7) (.int .i64 a7)).1 (k * 10 + 8) (.int .i64 a8)).1 (k * 10 + 9) (.slice ua9 x9.length uc9)).1
   have hLl : Lc.length = xs.length * 10 := r0.1
   have hst := hd (hput ((((((((((w2.setCell ⟨w.heap.size, k * 10, none⟩ (.int .i64 a0)).setCell ⟨w.heap.size, k * 10 + 1, none⟩ (.int .i64 a1)).setCell ⟨w.heap.size, k * 10 + 2, none⟩ (.slice ua2 x2.length uc2)).setCell ⟨w.heap.size, k * 10 + 3, none⟩ (.slice ua3 x3.length uc3)).setCell ⟨w.heap.size, k * 10 + 4, none⟩ (.int .i64 a4)).setCell ⟨w.heap.size, k * 10 + 5, none⟩ (.slice ua5 x5.length uc5)).setCell ⟨w.heap.size, k * 10 + 6, none⟩ (.int .i64 a6)).setCell ⟨w.heap.size, k * 10 + 7, none⟩ (.int .i64 a7)).setCell ⟨w.heap.size, k * 10 + 8, none⟩ (.int .i64 a8)).setCell ⟨w.heap.size, k * 10 + 9, none⟩ (.slice ua9 x9.length uc9)) ((((((((((Lc.set (k * 10) (.int .i64 a0)).set (k * 10 + 1) (.int .i64 a1)).set (k * 10 + 2) (.slice ua2 x2.length uc2)).set (k * 10 + 3) (.slice ua3 x3.length uc3)).set (k * 10 + 4) (.int .i64 a4)).set (k * 10 + 5) (.slice ua5 x5.length uc5)).set (k * 10 + 6) (.int .i64 a6)).set (k * 10 + 7) (.int .i64 a7)).set (k * 10 + 8) (.int .i64 a8)).set (k * 10 + 9) (.slice ua9 x9.length uc9)) [.int .i64 a0, .int .i64 a1, .slice ua2 x2.length uc2, .slice ua3 x3.length uc3, .int .i64 a4, .slice ua5 x5.length uc5, .int .i64 a6, .int .i64 a7, .int .i64 a8, .slice ua9 x9.length uc9] _ ((a0, a1, x2, x3), a4, x5, a6, a7, a8, x9) (by rw [HLL.out]; exact r9) (fun p hp => by have hp2 : p < k * 10 ∨ k * 10 + 10 ≤ p := hp; rw [List.getElem?_set_ne (by omega)]; rw [List.getElem?_set_ne (by omega)]; rw [List.getElem?_set_ne (by omega)]; rw [List.getElem?_set_ne (by omega)]; rw [List.getElem?_set_ne (by omega)]; rw [List.getElem?_set_ne (by omega)]; rw [List.getElem?_set_ne (by omega)]; rw [List.getElem?_set_ne (by omega)]; rw [List.getElem?_set_ne (by omega)]; rw [List.getElem?_set_ne (by omega)]) (fun i hi => by have hi' : i < 10 := hi; match i, hi' with | 0, _ => (show (((((((((((Lc.set (k * 10) (.int .i64 a0)).set (k * 10 + 1) (.int .i64 a1)).set (k * 10 + 2) (.slice ua2 x2.length uc2)).set (k * 10 + 3) (.slice ua3 x3.length uc3)).set (k * 10 + 4) (.int .i64 a4)).set (k * 10 + 5) (.slice ua5 x5.length uc5)).set (k * 10 + 6) (.int .i64 a6)).set (k * 10 + 7) (.int .i64 a7)).set (k * 10 + 8) (.int .i64 a8)).set (k * 10 + 9) (.slice ua9 x9.length uc9)))[k * 10]? = _; rw [List.getElem?_set_ne (by omega)]; rw [List.getElem?_set_ne (by omega)]; rw [List.getElem?_set_ne (by omega)]; rw [List.getElem?_set_ne (by omega)]; rw [List.getElem?_set_ne (by omega)]; rw [List.getElem?_set_ne (by omega)]; rw [List.getElem?_set_ne (by omega)]; rw [List.getElem?_set_ne (by omega)]; rw [List.getElem?_set_ne (by omega)]; rw [List.getElem?_set_self (by first | omega | (simp only [List.length_set]; omega))]; rfl) | 1, _ => (show (((((((((((Lc.set (k * 10) (.int .i64 a0)).set (k * 10 + 1) (.int .i64 a1)).set (k * 10 + 2) (.slice ua2 x2.length uc2)).set (k * 10 + 3) (.slice ua3 x3.length uc3)).set (k * 10 + 4) (.int .i64 a4)).set (k * 10 + 5) (.slice ua5 x5.length uc5)).set (k * 10 + 6) (.int .i64 a6)).set (k * 10 + 7) (.int .i64 a7)).set (k * 10 + 8) (.int .i64 a8)).set (k * 10 + 9) (.slice ua9 x9.length uc9)))[k * 10 + 1]? = _; rw [List.getElem?_set_ne (by omega)]; rw [List.getElem?_set_ne (by omega)]; rw [List.getElem?_set_ne (by omega)]; rw [List.getElem?_set_ne (by omega)]; rw [List.getElem?_set_ne (by omega)]; rw [List.getElem?_set_ne (by omega)]; rw [List.getElem?_set_ne (by omega)]; rw [List.getElem?_set_ne (by omega)]; rw [List.getElem?_set_self (by first | omega | (simp only [List.length_set]; omega))]; rfl) | 2, _ => (show (((((((((((Lc.set (k * 10) (.int .i64 a0)).set (k * 10 + 1) (.int .i64 a1)).set (k * 10 + 2) (.slice ua2 x2.length uc2)).set (k * 10 + 3) (.slice ua3 x3.length uc3)).set (k * 10 + 4) (.int .i64 a4)).set (k * 10 + 5) (.slice ua5 x5.length uc5)).set (k * 10 + 6) (.int .i64 a6)).set (k * 10 + 7) (.int .i64 a7)).set (k * 10 + 8) (.int .i64 a8)).set (k * 10 + 9) (.slice ua9 x9.length uc9)))[k * 10 + 2]? = _; rw [List.getElem?_set_ne (by omega)]; rw [List.getElem?_set_ne (by omega)]; rw [List.getElem?_set_ne (by omega)]; rw [List.getElem?_set_ne (by omega)]; rw [List.getElem?_set_ne (by omega)]; rw [List.getElem?_set_ne (by omega)]; rw [List.getElem?_set_ne (by omega)]; rw [List.getElem?_set_self (by first | omega | (simp only [List.length_set]; omega))]; rfl) | 3, _ => (show (((((((((((Lc.set (k * 10) (.int .i64 a0)).set (k * 10 + 1) (.int .i64 a1)).set (k * 10 + 2) (.slice ua2 x2.length uc2)).set (k * 10 + 3) (.slice ua3 x3.length uc3)).set (k * 10 + 4) (.int .i64 a4)).set (k * 10 + 5) (.slice ua5 x5.length uc5)).set (k * 10 + 6) (.int .i64 a6)).set (k * 10 + 7) (.int .i64 a7)).set (k * 10 + 8) (.int .i64 a8)).set (k * 10 + 9) (.slice ua9 x9.length uc9)))[k * 10 + 3]? = _; rw [List.getElem?_set_ne (by omega)]; rw [List.getElem?_set_ne (by omega)]; rw [List.getElem?_set_ne (by omega)]; rw [List.getElem?_set_ne (by omega)]; rw [List.getElem?_set_ne (by omega)]; rw [List.getElem?_set_ne (by omega)]; rw [List.getElem?_set_self (by first | omega | (simp only [List.length_set]; omega))]; rfl) | 4, _ => (show (((((((((((Lc.set (k * 10) (.int .i64 a0)).set (k * 10 + 1) (.int .i64 a1)).set (k * 10 + 2) (.slice ua2 x2.length uc2)).set (k * 10 + 3) (.slice ua3 x3.length uc3)).set (k * 10 + 4) (.int .i64 a4)).set (k * 10 + 5) (.slice ua5 x5.length uc5)).set (k * 10 + 6) (.int .i64 a6)).set (k * 10 + 7) (.int .i64 a7)).set (k * 10 + 8) (.int .i64 a8)).set (k * 10 + 9) (.slice ua9 x9.length uc9)))[k * 10 + 4]? = _; rw [List.getElem?_set_ne (by omega)]; rw [List.getElem?_set_ne (by omega)]; rw [List.getElem?_set_ne (by omega)]; rw [List.getElem?_set_ne (by omega)]; rw [List.getElem?_set_ne (by omega)]; rw [List.getElem?_set_self (by first | omega | (simp only [List.length_set]; omega))]; rfl) | 5, _ => (show (((((((((((Lc.set (k * 10) (.int .i64 a0)).set (k * 10 + 1) (.int .i64 a1)).set (k * 10 + 2) (.slice ua2 x2.length uc2)).set (k * 10 + 3) (.slice ua3 x3.length uc3)).set (k * 10 + 4) (.int .i64 a4)).set (k * 10 + 5) (.slice ua5 x5.length uc5)).set (k * 10 + 6) (.int .i64 a6)).set (k * 10 + 7) (.int .i64 a7)).set (k * 10 + 8) (.int .i64 a8)).set (k * 10 + 9) (.slice ua9 x9.length uc9)))[k * 10 + 5]? = _; rw [List.getElem?_set_ne (by omega)]; rw [List.getElem?_set_ne (by omega)]; rw [List.getElem?_set_ne (by omega)]; rw [List.getElem?_set_ne (by omega)]; rw [List.getElem?_set_self (by first | omega | (simp only [List.length_set]; omega))]; rfl) | 6, _ => (show (((((((((((Lc.set (k * 10) (.int .i64 a0)).set (k * 10 + 1) (.int .i64 a1)).set (k * 10 + 2) (.slice ua2 x2.length uc2)).set (k * 10 + 3) (.slice ua3 x3.length uc3)).set (k * 10 + 4) (.int .i64 a4)).set (k * 10 + 5) (.slice ua5 x5.length uc5)).set (k * 10 + 6) (.int .i64 a6)).set (k * 10 + 7) (.int .i64 a7)).set (k * 10 + 8) (.int .i64 a8)).set (k * 10 + 9) (.slice ua9 x9.length uc9)))[k * 10 + 6]? = _; rw [List.getElem?_set_ne (by omega)]; rw [List.getElem?_set_ne (by omega)]; rw [List.getElem?_set_ne (by omega)]; rw [List.getElem?_set_self (by first | omega | (simp only [List.length_set]; omega))]; rfl) | 7, _ => (show (((((((((((Lc.set (k * 10) (.int .i64 a0)).set (k * 10 + 1) (.int .i64 a1)).set (k * 10 + 2) (.slice ua2 x2.length uc2)).set (k * 10 + 3) (.slice ua3 x3.length uc3)).set (k * 10 + 4) (.int .i64 a4)).set (k * 10 + 5) (.slice ua5 x5.length uc5)).set (k * 10 + 6) (.int .i64 a6)).set (k * 10 + 7) (.int .i64 a7)).set (k * 10 + 8) (.int .i64 a8)).set (k * 10 + 9) (.slice ua9 x9.length uc9)))[k * 10 + 7]? = _; rw [List.getElem?_set_ne (by omega)]; rw [List.getElem?_set_ne (by omega)]; rw [List.getElem?_set_self (by first | omega | (simp only [List.length_set]; omega))]; rfl) | 8, _ => (show (((((((((((Lc.set (k * 10) (.int .i64 a0)).set (k * 10 + 1) (.int .i64 a1)).set (k * 10 + 2) (.slice ua2 x2.length uc2)).set (k * 10 + 3) (.slice ua3 x3.length uc3)).set (k * 10 + 4) (.int .i64 a4)).set (k * 10 + 5) (.slice ua5 x5.length uc5)).set (k * 10 + 6) (.int .i64 a6)).set (k * 10 + 7) (.int .i64 a7)).set (k * 10 + 8) (.int .i64 a8)).set (k * 10 + 9) (.slice ua9 x9.length uc9)))[k * 10 + 8]? = _; rw [List.getElem?_set_ne (by omega)]; rw [List.getElem?_set_self (by first | omega | (simp only [List.length_set]; omega))]; rfl) | 9, _ => (show (((((((((((Lc.set (k * 10) (.int .i64 a0)).set (k * 10 + 1) (.int .i64 a1)).set (k * 10 + 2) (.slice ua2 x2.length uc2)).set (k * 10 + 3) (.slice ua3 x3.length uc3)).set (k * 10 + 4) (.int .i64 a4)).set (k * 10 + 5) (.slice ua5 x5.length uc5)).set (k * 10 + 6) (.int .i64 a6)).set (k * 10 + 7) (.int .i64 a7)).set (k * 10 + 8) (.int .i64 a8)).set (k * 10 + 9) (.slice ua9 x9.length uc9)))[k * 10 + 9]? = _; rw [List.getElem?_set_self (by first | omega | (simp only [List.length_set]; omega))]; rfl)) hO2 (fun b hb => ⟨Nat.le_trans hbel.size hb.1, Or.inr hb.1⟩) hT)
   have hst2 : SlO 93 tActive ((((((((((w2.setCell ⟨w.heap.size, k * 10, none⟩ (.int .i64 a0)).setCell ⟨w.heap.size, k * 10 + 1, none⟩ (.int .i64 a1)).setCell ⟨w.heap.size, k * 10 + 2, none⟩ (.slice ua2 x2.length uc2)).setCell ⟨w.heap.size, k * 10 + 3, none⟩ (.slice ua3 x3.length uc3)).setCell ⟨w.heap.size, k * 10 + 4, none⟩ (.int .i64 a4)).setCell ⟨w.heap.size, k * 10 + 5, none⟩ (.slice ua5 x5.length uc5)).setCell ⟨w.heap.size, k * 10 + 6, none⟩ (.int .i64 a6)).setCell ⟨w.heap.size, k * 10 + 7, none⟩ (.int .i64 a7)).setCell ⟨w.heap.size, k * 10 + 8, none⟩ (.int .i64 a8)).setCell ⟨w.heap.size, k * 10 + 9, none⟩ (.slice ua9 x9.length uc9)) (since w) (.slice (some ⟨w.heap.size, 0, none⟩) xs.length xs.length) (xs.take (k + 1) ++ List.replicate (xs.length - (k + 1)) tActive.d) := by have := hst.out; rw [HSET.out] at this; exact this
   have HST := hd hst2
   clear hst hst2 hT hT2 hO2 r9 r0 hrow hO hput hown hbel b2 ow b3 hLl hLc hFj
   go_wp2
   go_roundw
   case rel => exact ⟨k + 1, by omega, by go_num, HST.out, B3.out⟩
   case measure => simp [intOf]; omega
  ·
   obtain rfl : k = xs.length := by omega
   have HE : Hid (xs.take xs.length ++ List.replicate (xs.length - xs.length) tActive.d = xs) := hd (by simp)
   rw [HE.out] at hown
   go_wp2
   go_ret
   exact ⟨_, rfl, hown, hbel⟩
set_option maxHeartbeats 8000000 in
theorem eqActiveS_S (v u : Value) (xs : List ((Int × Int × List (Int × Int × Int) × List Int) × Int × List Int × Int × Int × Int × List (Int × List Int))) (w : World) (h : SlR tActive w v xs) (g : SlR tActive w u xs) (hs : zL tActive xs ≤ 1048576) :
  Calls Tryz.prog 64 #[v, u] w fun e w' => e = .returned (.bool true) ∧ Below w.heap.size w w' := by
 have H := hd h
 have G := hd g
 have HS := hd hs
 have hlen := zL_len hs
 obtain ⟨a, cap, rfl⟩ := slR_len h
 obtain ⟨a2, cap2, rfl⟩ := slR_len g
 clear h g hs
 go_enter Tryz.func64, Tryz.ntmps64
 go_wp2
 go_loopw [5] (fun i wr => ∃ k : Nat, k ≤ xs.length ∧ i = .int .i64 k ∧ Below w.heap.size w wr) (fun i _ => xs.length - (intOf i).toNat)
 case atStart => exact ⟨0, Nat.zero_le _, rfl, Below.refl _ _⟩
 case round =>
  obtain ⟨k, hk, rfl, hbel⟩ := hrel
  by_cases hlt : k < xs.length
  ·
   obtain ⟨b, off, cap', cs, hv, hbl, hcs, hR⟩ := slR_at (slR_below tActive_law H.out hbel) hlt
   simp only [Value.slice.injEq] at hv
   obtain ⟨rfl, _, rfl⟩ := hv
   obtain ⟨b2, off2, cap2', ds, hv2, hbl2, hds, hQ⟩ := slR_at (slR_below tActive_law G.out hbel) hlt
   simp only [Value.slice.injEq] at hv2
   obtain ⟨rfl, _, rfl⟩ := hv2
   have hzx := zL_at HS.out hlt
   have i1 : (0 : Int) ≤ (k : Int) := by omega
   have i2 : (k : Int) < (xs.length : Int) := by omega
   generalize xs.getD k tActive.d = x at *
   obtain ⟨⟨a0, a1, x2, x3⟩, a4, x5, a6, a7, a8, x9⟩ := x
   obtain ⟨v2, v3, v5, v9, hR'⟩ := tActive_R hR
   obtain ⟨rfl, h2, h3, h5, h9⟩ := hR'
   obtain ⟨u2, u3, u5, u9, hQ'⟩ := tActive_R hQ
   obtain ⟨rfl, g2, g3, g5, g9⟩ := hQ'
   rw [tActive_sz] at hzx
   have S2 := hd (show zL tCond x2 ≤ 1048576 by omega)
   have S3 := hd (show zL tInt x3 ≤ 1048576 by omega)
   have S5 := hd (show zL tInt x5 ≤ 1048576 by omega)
   have S9 := hd (show zL tRow x9 ≤ 1048576 by omega)
   have p0 : wr.cell? ⟨b, off + k * 10, none⟩ = some (Value.int .i64 a0) := hcs 0 (by decide)
   have q0 : wr.cell? ⟨b2, off2 + k * 10, none⟩ = some (Value.int .i64 a0) := hds 0 (by decide)
   have p1 : wr.cell? ⟨b, off + k * 10 + 1, none⟩ = some (Value.int .i64 a1) := hcs 1 (by decide)
   have q1 : wr.cell? ⟨b2, off2 + k * 10 + 1, none⟩ = some (Value.int .i64 a1) := hds 1 (by decide)
   have p2 : wr.cell? ⟨b, off + k * 10 + 2, none⟩ = some (v2) := hcs 2 (by decide)
   have q2 : wr.cell? ⟨b2, off2 + k * 10 + 2, none⟩ = some (u2) := hds 2 (by decide)
   have p3 : wr.cell? ⟨b, off + k * 10 + 3, none⟩ = some (v3) := hcs 3 (by decide)
   have q3 : wr.cell? ⟨b2, off2 + k * 10 + 3, none⟩ = some (u3) := hds 3 (by decide)
   have p4 : wr.cell? ⟨b, off + k * 10 + 4, none⟩ = some (Value.int .i64 a4) := hcs 4 (by decide)
   have q4 : wr.cell? ⟨b2, off2 + k * 10 + 4, none⟩ = some (Value.int .i64 a4) := hds 4 (by decide)
   have p5 : wr.cell? ⟨b, off + k * 10 + 5, none⟩ = some (v5) := hcs 5 (by decide)
   have q5 : wr.cell? ⟨b2, off2 + k * 10 + 5, none⟩ = some (u5) := hds 5 (by decide)
   have p6 : wr.cell? ⟨b, off + k * 10 + 6, none⟩ = some (Value.int .i64 a6) := hcs 6 (by decide)
   have q6 : wr.cell? ⟨b2, off2 + k * 10 + 6, none⟩ = some (Value.int .i64 a6) := hds 6 (by decide)
   have p7 : wr.cell? ⟨b, off + k * 10 + 7, none⟩ = some (Value.int .i64 a7) := hcs 7 (by decide)
   have q7 : wr.cell? ⟨b2, off2 + k * 10 + 7, none⟩ = some (Value.int .i64 a7) := hds 7 (by decide)
   have p8 : wr.cell? ⟨b, off + k * 10 + 8, none⟩ = some (Value.int .i64 a8) := hcs 8 (by decide)
   have q8 : wr.cell? ⟨b2, off2 + k * 10 + 8, none⟩ = some (Value.int .i64 a8) := hds 8 (by decide)
   have p9 : wr.cell? ⟨b, off + k * 10 + 9, none⟩ = some (v9) := hcs 9 (by decide)
   have q9 : wr.cell? ⟨b2, off2 + k * 10 + 9, none⟩ = some (u9) := hds 9 (by decide)
   clear hcs hds hzx
   go_wp2
   go_region_with (first | (go_at_call 131; refine (eqActive_T a0 a1 a4 a6 a7 a8 v2 v3 v5 v9 x2 x3 x5 x9 u2 u3 u5 u9 _ (by exact slR_same tCond_law h2 rfl rfl rfl rfl) (by exact slR_same tInt_law h3 rfl rfl rfl rfl) (by exact slR_same tInt_law h5 rfl rfl rfl rfl) (by exact slR_same tRow_law h9 rfl rfl rfl rfl) (by exact slR_same tCond_law g2 rfl rfl rfl rfl) (by exact slR_same tInt_law g3 rfl rfl rfl rfl) (by exact slR_same tInt_law g5 rfl rfl rfl rfl) (by exact slR_same tRow_law g9 rfl rfl rfl rfl) S2.out S3.out S5.out S9.out).mono ?_; rintro e w8 ⟨rfl, b9⟩; have b10 : Below wr.heap.size wr w8 := ⟨b9.os, b9.tape, b9.output, b9.size, b9.block⟩))
   all_goals
    have b11 := hbel.trans (b10.mono hbel.size)
    go_wp2
    go_roundw
    case rel => exact ⟨k + 1, by omega, by go_num, b11⟩
    case measure => simp [intOf]; omega
  ·
   go_wp2
   go_ret
   exact ⟨rfl, hbel⟩
set_option maxHeartbeats 8000000 in
theorem markActiveS_S (v : Value) (xs : List ((Int × Int × List (Int × Int × Int) × List Int) × Int × List Int × Int × Int × Int × List (Int × List Int))) (F : Nat → Prop) (k : Int) (w : World) (h : SlO 93 tActive w F v xs) (hs : zL tActive xs ≤ 1048576) (k0 : 0 ≤ k) (k1 : k ≤ 939524096) :
  Calls Tryz.prog 70 #[v, .int .i64 k] w fun e w' => e = .returned (.int .i64 (k + (ndL tActive xs : Int))) ∧ SlO 93 tActive w' F v (mAll tActive xs k) ∧ Turn F w w' := by
 rw [← kAt_all]
 have HS := hd hs
 have hlen := zL_len hs
 rcases slO_form h with ⟨rfl, rfl⟩ | ⟨g, cap, rfl, hFg, hgw⟩
 ·
  have H := hd h
  clear h hs
  go_enter Tryz.func70, Tryz.ntmps70
  go_wp2
  go_loop [1, 5] (fun m i => i = .int .i64 0 ∧ m = .int .i64 k) (fun _ _ => 0)
  case atStart => exact ⟨rfl, rfl⟩
  case round =>
   obtain ⟨rfl, rfl⟩ := hrel
   go_wp2
   go_ret
   exact ⟨by simp [kAt, sumN], by rw [show mAll tActive [] k = [] from rfl]; exact H.out, Turn.refl _ _⟩
 ·
  have H := hd h
  clear h hs
  go_enter Tryz.func70, Tryz.ntmps70
  go_wp2
  go_loopw [1, 5] (fun m i wr => ∃ j : Nat, j ≤ xs.length ∧ i = .int .i64 j ∧ m = .int .i64 (kAt tActive xs k j) ∧ SlO 93 tActive wr (fun b => F b ∧ b < w.heap.size) (.slice (some ⟨g, 0, none⟩) xs.length cap) (mTo tActive xs k j) ∧ Turn F w wr) (fun _ i _ => xs.length - (intOf i).toNat)
  case atStart => exact ⟨0, Nat.zero_le _, rfl, by rw [kAt_zero], by rw [mTo_zero]; exact slO_lt tActive_law H.out, Turn.refl _ _⟩
  case round =>
   obtain ⟨j, hj, rfl, rfl, hown, hon⟩ := hrel
   by_cases hlt : j < xs.length
   ·
    have i1 : (0 : Int) ≤ (j : Int) := by omega
    have i2 : (j : Int) < (xs.length : Int) := by omega
    have hjl : j < (mTo tActive xs k j).length := by rw [mTo_len hj]; exact hlt
    have HLL := hd (mTo_len (T := tActive) (k := k) hj)
    obtain ⟨r1, r2⟩ := kAt_range tActive_law (by decide) (k := k) HS.out hj
    obtain ⟨r3, r4⟩ := kAt_range tActive_law (by decide) (k := k) (j := j + 1) HS.out (by omega)
    have hzx := zL_at HS.out hlt
    have hstep := kAt_step (T := tActive) (k := k) hlt
    have hset := mTo_step (T := tActive) (k := k) hlt
    have hsz := hon.size
    obtain ⟨hme, hFg2, hgl, cj, Fj, Lc, hrow, hLc, hO, hFj, hput⟩ := slO_open tActive_law hown hjl
    clear hme hFg2
    rw [mTo_at hlt] at hO
    have HM : Hid (∃ m', kAt tActive xs k (j + 1) = m') := hd ⟨_, rfl⟩
    obtain ⟨m', hm'⟩ := HM.out
    rw [hm'] at hstep r3 r4
    have HM' := hd hm'
    clear hm' HM H hown hjl
    generalize kAt tActive xs k j = m at *
    generalize xs.getD j tActive.d = x at *
    rw [HLL.out] at hrow hput
    obtain ⟨⟨a0, a1, x2, x3⟩, a4, x5, a6, a7, a8, x9⟩ := x
    rw [tActive_md] at hset
    rw [tActive_nd] at hstep
    rw [tActive_sz] at hzx
    obtain ⟨v2, v3, v5, v9, K2, K3, K5, K9, rfl, o2, o3, o5, o9, q2, q3, q5, q9, d2_3, d2_5, d2_9, d3_5, d3_9, d5_9⟩ := tActive_O hO
    have S2 := hd (show zL tCond x2 ≤ 1048576 by omega)
    have N2 := ndL_le tCond_law (by decide) x2
    have S3 := hd (show zL tInt x3 ≤ 1048576 by omega)
    have N3 := ndL_le tInt_law (by decide) x3
    have S5 := hd (show zL tInt x5 ≤ 1048576 by omega)
    have N5 := ndL_le tInt_law (by decide) x5
    have S9 := hd (show zL tRow x9 ≤ 1048576 by omega)
    have N9 := ndL_le tRow_law (by decide) x9
    have R2 : Hid (0 ≤ m + 1 + 1 ∧ m + 1 + 1 ≤ 1006632960) := hd (by omega)
    have R3 : Hid (0 ≤ m + 1 + 1 + (ndL tCond x2 : Int) ∧ m + 1 + 1 + (ndL tCond x2 : Int) ≤ 1073741824) := hd (by omega)
    have R5 : Hid (0 ≤ m + 1 + 1 + (ndL tCond x2 : Int) + (ndL tInt x3 : Int) + 1 ∧ m + 1 + 1 + (ndL tCond x2 : Int) + (ndL tInt x3 : Int) + 1 ≤ 1073741824) := hd (by omega)
    have R9 : Hid (0 ≤ m + 1 + 1 + (ndL tCond x2 : Int) + (ndL tInt x3 : Int) + 1 + (ndL tInt x5 : Int) + 1 + 1 + 1 ∧ m + 1 + 1 + (ndL tCond x2 : Int) + (ndL tInt x3 : Int) + 1 + (ndL tInt x5 : Int) + 1 + 1 + 1 ≤ 1006632960) := hd (by omega)
    have hmx5 : m + 1 + 1 + (ndL tCond x2 : Int) + (ndL tInt x3 : Int) + 1 ≤ 1073741824 := by omega
    have hmx9 : m + 1 + 1 + (ndL tCond x2 : Int) + (ndL tInt x3 : Int) + 1 + (ndL tInt x5 : Int) + 1 + 1 + 1 ≤ 1073741824 := by omega
    have hmm : m + 1 + 1 + (ndL tCond x2 : Int) + (ndL tInt x3 : Int) + 1 + (ndL tInt x5 : Int) + 1 + 1 + 1 + (ndL tRow x9 : Int) = m' := by omega
    have HMM := hd hmm
    have hm0 : 0 ≤ m := by omega
    have hm1 : m ≤ 1073741824 := by omega
    clear hmm hstep hzx N2 N3 N5 N9
    have hLl : Lc.length = xs.length * 10 := hrow.1
    have HSET := hd hset
    clear hset
    have tt : Turn (fun b => b = g ∨ Fj b ∨ wr.heap.size ≤ b) wr wr := Turn.refl _ _
    have rr := hrow
    have c0 : ∃ x, wr.cell? ⟨g, j * 10, none⟩ = some x := ⟨_, (World.ownsRow.cellAt rr (j * 10) (by show j * 10 < xs.length * 10; omega)).trans (List.getElem?_eq_getElem (by have h9 := rr.1; have h8 : xs.length * tActive.n = xs.length * 10 := rfl; omega))⟩
    obtain ⟨y0, c0⟩ := c0
    have f0 := World.ownsRow.frozenAt rr (j * 10)
    have c1 : ∃ x, wr.cell? ⟨g, j * 10 + 1, none⟩ = some x := ⟨_, (World.ownsRow.cellAt rr (j * 10 + 1) (by show j * 10 + 1 < xs.length * 10; omega)).trans (List.getElem?_eq_getElem (by have h9 := rr.1; have h8 : xs.length * tActive.n = xs.length * 10 := rfl; omega))⟩
    obtain ⟨y1, c1⟩ := c1
    have f1 := World.ownsRow.frozenAt rr (j * 10 + 1)
    have cv2 : wr.cell? ⟨g, j * 10 + 2, none⟩ = some v2 := (World.ownsRow.cellAt rr (j * 10 + 2) (by show j * 10 + 2 < xs.length * 10; omega)).trans (by exact hLc 2 (by decide))
    go_wp2_with fail
    clear c0 f0 c1 f1 cv2
    have ts : Turn (fun b => b = g) wr ((wr.setCell ⟨g, j * 10, none⟩ (.int .i64 (m))).setCell ⟨g, j * 10 + 1, none⟩ (.int .i64 (m + 1))) := (((Turn.refl (fun b => b = g) _).trans (turn_set (G := fun b => b = g) (g := g) (j := j * 10) (u := .int .i64 (m)) rfl)).trans (turn_set (G := fun b => b = g) (g := g) (j := j * 10 + 1) (u := .int .i64 (m + 1)) rfl))
    replace rr := (World.ownsRow.stored (World.ownsRow.stored rr (j * 10) (.int .i64 (m))).1 (j * 10 + 1) (.int .i64 (m + 1))).1
    replace o2 := slO_turn tCond_law o2 ts (fun b h1 h2 => (hFj b (q2 b h1)).2.1 h2)
    replace o3 := slO_turn tInt_law o3 ts (fun b h1 h2 => (hFj b (q3 b h1)).2.1 h2)
    replace o5 := slO_turn tInt_law o5 ts (fun b h1 h2 => (hFj b (q5 b h1)).2.1 h2)
    replace o9 := slO_turn tRow_law o9 ts (fun b h1 h2 => (hFj b (q9 b h1)).2.1 h2)
    replace tt := tt.trans (ts.mono (fun b h => Or.inl h))
    clear ts
    generalize ((wr.setCell ⟨g, j * 10, none⟩ (.int .i64 (m))).setCell ⟨g, j * 10 + 1, none⟩ (.int .i64 (m + 1))) = W0 at *
    refine (markCondS_S v2 x2 _ (m + 1 + 1) W0 o2 S2.out R2.out.1 (by have := R2.out.2; omega)).mono ?_
    rintro e w1 ⟨rfl, m2, t1⟩
    replace rr := row_turn rr t1 (fun b hb h => by simp [Value.ownBlock] at hb; exact (hFj b (q2 b h)).2.1 hb.symm)
    replace o2 := m2
    replace o3 := slO_turn tInt_law o3 t1 (fun b h1 h2 => d2_3 b h2 h1)
    replace o5 := slO_turn tInt_law o5 t1 (fun b h1 h2 => d2_5 b h2 h1)
    replace o9 := slO_turn tRow_law o9 t1 (fun b h1 h2 => d2_9 b h2 h1)
    replace tt := tt.trans (t1.mono (fun b h => Or.inr (Or.inl (q2 b h))))
    clear t1
    have cv3 : w1.cell? ⟨g, j * 10 + 3, none⟩ = some v3 := (World.ownsRow.cellAt rr (j * 10 + 3) (by show j * 10 + 3 < xs.length * 10; omega)).trans (by rw [List.getElem?_set_ne (by omega)]; rw [List.getElem?_set_ne (by omega)]; exact hLc 3 (by decide))
    go_wp2_with fail
    clear cv3
    refine (markIntS_S v3 x3 _ (m + 1 + 1 + (ndL tCond x2 : Int)) w1 o3 S3.out R3.out.1 (by have := R3.out.2; omega)).mono ?_
    rintro e w2 ⟨rfl, m3, t1⟩
    replace rr := row_turn rr t1 (fun b hb h => by simp [Value.ownBlock] at hb; exact (hFj b (q3 b h)).2.1 hb.symm)
    replace o2 := slO_turn tCond_law o2 t1 (fun b h1 h2 => d2_3 b h1 h2)
    replace o3 := m3
    replace o5 := slO_turn tInt_law o5 t1 (fun b h1 h2 => d3_5 b h2 h1)
    replace o9 := slO_turn tRow_law o9 t1 (fun b h1 h2 => d3_9 b h2 h1)
    replace tt := tt.trans (t1.mono (fun b h => Or.inr (Or.inl (q3 b h))))
    clear t1
    have c4 : ∃ x, w2.cell? ⟨g, j * 10 + 4, none⟩ = some x := ⟨_, (World.ownsRow.cellAt rr (j * 10 + 4) (by show j * 10 + 4 < xs.length * 10; omega)).trans (List.getElem?_eq_getElem (by have h9 := rr.1; have h8 : xs.length * tActive.n = xs.length * 10 := rfl; omega))⟩
    obtain ⟨y4, c4⟩ := c4
    have f4 := World.ownsRow.frozenAt rr (j * 10 + 4)
    have cv5 : w2.cell? ⟨g, j * 10 + 5, none⟩ = some v5 := (World.ownsRow.cellAt rr (j * 10 + 5) (by show j * 10 + 5 < xs.length * 10; omega)).trans (by rw [List.getElem?_set_ne (by omega)]; rw [List.getElem?_set_ne (by omega)]; exact hLc 5 (by decide))
    go_wp2_with fail
    clear c4 f4 cv5
    have ts : Turn (fun b => b = g) w2 (w2.setCell ⟨g, j * 10 + 4, none⟩ (.int .i64 (m + 1 + 1 + (ndL tCond x2 : Int) + (ndL tInt x3 : Int)))) := ((Turn.refl (fun b => b = g) _).trans (turn_set (G := fun b => b = g) (g := g) (j := j * 10 + 4) (u := .int .i64 (m + 1 + 1 + (ndL tCond x2 : Int) + (ndL tInt x3 : Int))) rfl))
    replace rr := (World.ownsRow.stored rr (j * 10 + 4) (.int .i64 (m + 1 + 1 + (ndL tCond x2 : Int) + (ndL tInt x3 : Int)))).1
    replace o2 := slO_turn tCond_law o2 ts (fun b h1 h2 => (hFj b (q2 b h1)).2.1 h2)
    replace o3 := slO_turn tInt_law o3 ts (fun b h1 h2 => (hFj b (q3 b h1)).2.1 h2)
    replace o5 := slO_turn tInt_law o5 ts (fun b h1 h2 => (hFj b (q5 b h1)).2.1 h2)
    replace o9 := slO_turn tRow_law o9 ts (fun b h1 h2 => (hFj b (q9 b h1)).2.1 h2)
    replace tt := tt.trans (ts.mono (fun b h => Or.inl h))
    clear ts
    generalize (w2.setCell ⟨g, j * 10 + 4, none⟩ (.int .i64 (m + 1 + 1 + (ndL tCond x2 : Int) + (ndL tInt x3 : Int)))) = W2 at *
    refine (markIntS_S v5 x5 _ (m + 1 + 1 + (ndL tCond x2 : Int) + (ndL tInt x3 : Int) + 1) W2 o5 S5.out R5.out.1 (by have := R5.out.2; omega)).mono ?_
    rintro e w3 ⟨rfl, m5, t1⟩
    replace rr := row_turn rr t1 (fun b hb h => by simp [Value.ownBlock] at hb; exact (hFj b (q5 b h)).2.1 hb.symm)
    replace o2 := slO_turn tCond_law o2 t1 (fun b h1 h2 => d2_5 b h1 h2)
    replace o3 := slO_turn tInt_law o3 t1 (fun b h1 h2 => d3_5 b h1 h2)
    replace o5 := m5
    replace o9 := slO_turn tRow_law o9 t1 (fun b h1 h2 => d5_9 b h2 h1)
    replace tt := tt.trans (t1.mono (fun b h => Or.inr (Or.inl (q5 b h))))
    clear t1
    have c6 : ∃ x, w3.cell? ⟨g, j * 10 + 6, none⟩ = some x := ⟨_, (World.ownsRow.cellAt rr (j * 10 + 6) (by show j * 10 + 6 < xs.length * 10; omega)).trans (List.getElem?_eq_getElem (by have h9 := rr.1; have h8 : xs.length * tActive.n = xs.length * 10 := rfl; omega))⟩
    obtain ⟨y6, c6⟩ := c6
    have f6 := World.ownsRow.frozenAt rr (j * 10 + 6)
    have c7 : ∃ x, w3.cell? ⟨g, j * 10 + 7, none⟩ = some x := ⟨_, (World.ownsRow.cellAt rr (j * 10 + 7) (by show j * 10 + 7 < xs.length * 10; omega)).trans (List.getElem?_eq_getElem (by have h9 := rr.1; have h8 : xs.length * tActive.n = xs.length * 10 := rfl; omega))⟩
    obtain ⟨y7, c7⟩ := c7
    have f7 := World.ownsRow.frozenAt rr (j * 10 + 7)
    have c8 : ∃ x, w3.cell? ⟨g, j * 10 + 8, none⟩ = some x := ⟨_, (World.ownsRow.cellAt rr (j * 10 + 8) (by show j * 10 + 8 < xs.length * 10; omega)).trans (List.getElem?_eq_getElem (by have h9 := rr.1; have h8 : xs.length * tActive.n = xs.length * 10 := rfl; omega))⟩
    obtain ⟨y8, c8⟩ := c8
    have f8 := World.ownsRow.frozenAt rr (j * 10 + 8)
    have cv9 : w3.cell? ⟨g, j * 10 + 9, none⟩ = some v9 := (World.ownsRow.cellAt rr (j * 10 + 9) (by show j * 10 + 9 < xs.length * 10; omega)).trans (by rw [List.getElem?_set_ne (by omega)]; rw [List.getElem?_set_ne (by omega)]; rw [List.getElem?_set_ne (by omega)]; exact hLc 9 (by decide))
    go_wp2_with fail
    clear c6 f6 c7 f7 c8 f8 cv9
    have ts : Turn (fun b => b = g) w3 (((w3.setCell ⟨g, j * 10 + 6, none⟩ (.int .i64 (m + 1 + 1 + (ndL tCond x2 : Int) + (ndL tInt x3 : Int) + 1 + (ndL tInt x5 : Int)))).setCell ⟨g, j * 10 + 7, none⟩ (.int .i64 (m + 1 + 1 + (ndL tCond x2 : Int) + (ndL tInt x3 : Int) + 1 + (ndL tInt x5 : Int) + 1))).setCell ⟨g, j * 10 + 8, none⟩ (.int .i64 (m + 1 + 1 + (ndL tCond x2 : Int) + (ndL tInt x3 : Int) + 1 + (ndL tInt x5 : Int) + 1 + 1))) := ((((Turn.refl (fun b => b = g) _).trans (turn_set (G := fun b => b = g) (g := g) (j := j * 10 + 6) (u := .int .i64 (m + 1 + 1 + (ndL tCond x2 : Int) + (ndL tInt x3 : Int) + 1 + (ndL tInt x5 : Int))) rfl)).trans (turn_set (G := fun b => b = g) (g := g) (j := j * 10 + 7) (u := .int .i64 (m + 1 + 1 + (ndL tCond x2 : Int) + (ndL tInt x3 : Int) + 1 + (ndL tInt x5 : Int) + 1)) rfl)).trans (turn_set (G := fun b => b = g) (g := g) (j := j * 10 + 8) (u := .int .i64 (m + 1 + 1 + (ndL tCond x2 : Int) + (ndL tInt x3 : Int) + 1 + (ndL tInt x5 : Int) + 1 + 1)) rfl))
    replace rr := (World.ownsRow.stored (World.ownsRow.stored (World.ownsRow.stored rr (j * 10 + 6) (.int .i64 (m + 1 + 1 + (ndL tCond x2 : Int) + (ndL tInt x3 : Int) + 1 + (ndL tInt x5 : Int)))).1 (j * 10 + 7) (.int .i64 (m + 1 + 1 + (ndL tCond x2 : Int) + (ndL tInt x3 : Int) + 1 + (ndL tInt x5 : Int) + 1))).1 (j * 10 + 8) (.int .i64 (m + 1 + 1 + (ndL tCond x2 : Int) + (ndL tInt x3 : Int) + 1 + (ndL tInt x5 : Int) + 1 + 1))).1
    replace o2 := slO_turn tCond_law o2 ts (fun b h1 h2 => (hFj b (q2 b h1)).2.1 h2)
    replace o3 := slO_turn tInt_law o3 ts (fun b h1 h2 => (hFj b (q3 b h1)).2.1 h2)
    replace o5 := slO_turn tInt_law o5 ts (fun b h1 h2 => (hFj b (q5 b h1)).2.1 h2)
    replace o9 := slO_turn tRow_law o9 ts (fun b h1 h2 => (hFj b (q9 b h1)).2.1 h2)
    replace tt := tt.trans (ts.mono (fun b h => Or.inl h))
    clear ts
    generalize (((w3.setCell ⟨g, j * 10 + 6, none⟩ (.int .i64 (m + 1 + 1 + (ndL tCond x2 : Int) + (ndL tInt x3 : Int) + 1 + (ndL tInt x5 : Int)))).setCell ⟨g, j * 10 + 7, none⟩ (.int .i64 (m + 1 + 1 + (ndL tCond x2 : Int) + (ndL tInt x3 : Int) + 1 + (ndL tInt x5 : Int) + 1))).setCell ⟨g, j * 10 + 8, none⟩ (.int .i64 (m + 1 + 1 + (ndL tCond x2 : Int) + (ndL tInt x3 : Int) + 1 + (ndL tInt x5 : Int) + 1 + 1))) = W3 at *
    refine (markRowS_S v9 x9 _ (m + 1 + 1 + (ndL tCond x2 : Int) + (ndL tInt x3 : Int) + 1 + (ndL tInt x5 : Int) + 1 + 1 + 1) W3 o9 S9.out R9.out.1 (by have := R9.out.2; omega)).mono ?_
    rintro e w4 ⟨rfl, m9, t1⟩
    replace rr := row_turn rr t1 (fun b hb h => by simp [Value.ownBlock] at hb; exact (hFj b (q9 b h)).2.1 hb.symm)
    replace o2 := slO_turn tCond_law o2 t1 (fun b h1 h2 => d2_9 b h1 h2)
    replace o3 := slO_turn tInt_law o3 t1 (fun b h1 h2 => d3_9 b h1 h2)
    replace o5 := slO_turn tInt_law o5 t1 (fun b h1 h2 => d5_9 b h1 h2)
    replace o9 := m9
    replace tt := tt.trans (t1.mono (fun b h => Or.inr (Or.inl (q9 b h))))
    clear t1
    have hO2 := tActive_mkO (F := Fj) (a0 := m) (a1 := m + 1) (a4 := m + 1 + 1 + (ndL tCond x2 : Int) + (ndL tInt x3 : Int)) (a6 := m + 1 + 1 + (ndL tCond x2 : Int) + (ndL tInt x3 : Int) + 1 + (ndL tInt x5 : Int)) (a7 := m + 1 + 1 + (ndL tCond x2 : Int) + (ndL tInt x3 : Int) + 1 + (ndL tInt x5 : Int) + 1) (a8 := m + 1 + 1 + (ndL tCond x2 : Int) + (ndL tInt x3 : Int) + 1 + (ndL tInt x5 : Int) + 1 + 1) o2 o3 o5 o9 q2 q3 q5 q9 d2_3 d2_5 d2_9 d3_5 d3_9 d5_9
    have hst := hput w4 ((((((Lc.set (j * 10) (.int .i64 (m))).set (j * 10 + 1) (.int .i64 (m + 1))).set (j * 10 + 4) (.int .i64 (m + 1 + 1 + (ndL tCond x2 : Int) + (ndL tInt x3 : Int)))).set (j * 10 + 6) (.int .i64 (m + 1 + 1 + (ndL tCond x2 : Int) + (ndL tInt x3 : Int) + 1 + (ndL tInt x5 : Int)))).set (j * 10 + 7) (.int .i64 (m + 1 + 1 + (ndL tCond x2 : Int) + (ndL tInt x3 : Int) + 1 + (ndL tInt x5 : Int) + 1))).set (j * 10 + 8) (.int .i64 (m + 1 + 1 + (ndL tCond x2 : Int) + (ndL tInt x3 : Int) + 1 + (ndL tInt x5 : Int) + 1 + 1))) [.int .i64 (m), .int .i64 (m + 1), v2, v3, .int .i64 (m + 1 + 1 + (ndL tCond x2 : Int) + (ndL tInt x3 : Int)), v5, .int .i64 (m + 1 + 1 + (ndL tCond x2 : Int) + (ndL tInt x3 : Int) + 1 + (ndL tInt x5 : Int)), .int .i64 (m + 1 + 1 + (ndL tCond x2 : Int) + (ndL tInt x3 : Int) + 1 + (ndL tInt x5 : Int) + 1), .int .i64 (m + 1 + 1 + (ndL tCond x2 : Int) + (ndL tInt x3 : Int) + 1 + (ndL tInt x5 : Int) + 1 + 1), v9] Fj _ rr (fun p hp => by have hp2 : p < j * 10 ∨ j * 10 + 10 ≤ p := hp; rw [List.getElem?_set_ne (by omega)]; rw [List.getElem?_set_ne (by omega)]; rw [List.getElem?_set_ne (by omega)]; rw [List.getElem?_set_ne (by omega)]; rw [List.getElem?_set_ne (by omega)]; rw [List.getElem?_set_ne (by omega)]) (fun i hi => by have hi' : i < 10 := hi; match i, hi' with | 0, _ => (show (((((((Lc.set (j * 10) (.int .i64 (m))).set (j * 10 + 1) (.int .i64 (m + 1))).set (j * 10 + 4) (.int .i64 (m + 1 + 1 + (ndL tCond x2 : Int) + (ndL tInt x3 : Int)))).set (j * 10 + 6) (.int .i64 (m + 1 + 1 + (ndL tCond x2 : Int) + (ndL tInt x3 : Int) + 1 + (ndL tInt x5 : Int)))).set (j * 10 + 7) (.int .i64 (m + 1 + 1 + (ndL tCond x2 : Int) + (ndL tInt x3 : Int) + 1 + (ndL tInt x5 : Int) + 1))).set (j * 10 + 8) (.int .i64 (m + 1 + 1 + (ndL tCond x2 : Int) + (ndL tInt x3 : Int) + 1 + (ndL tInt x5 : Int) + 1 + 1))))[j * 10]? = _; rw [List.getElem?_set_ne (by omega)]; rw [List.getElem?_set_ne (by omega)]; rw [List.getElem?_set_ne (by omega)]; rw [List.getElem?_set_ne (by omega)]; rw [List.getElem?_set_ne (by omega)]; rw [List.getElem?_set_self (by first | omega | (simp only [List.length_set]; omega))]; rfl) | 1, _ => (show (((((((Lc.set (j * 10) (.int .i64 (m))).set (j * 10 + 1) (.int .i64 (m + 1))).set (j * 10 + 4) (.int .i64 (m + 1 + 1 + (ndL tCond x2 : Int) + (ndL tInt x3 : Int)))).set (j * 10 + 6) (.int .i64 (m + 1 + 1 + (ndL tCond x2 : Int) + (ndL tInt x3 : Int) + 1 + (ndL tInt x5 : Int)))).set (j * 10 + 7) (.int .i64 (m + 1 + 1 + (ndL tCond x2 : Int) + (ndL tInt x3 : Int) + 1 + (ndL tInt x5 : Int) + 1))).set (j * 10 + 8) (.int .i64 (m + 1 + 1 + (ndL tCond x2 : Int) + (ndL tInt x3 : Int) + 1 + (ndL tInt x5 : Int) + 1 + 1))))[j * 10 + 1]? = _; rw [List.getElem?_set_ne (by omega)]; rw [List.getElem?_set_ne (by omega)]; rw [List.getElem?_set_ne (by omega)]; rw [List.getElem?_set_ne (by omega)]; rw [List.getElem?_set_self (by first | omega | (simp only [List.length_set]; omega))]; rfl) | 2, _ => (show (((((((Lc.set (j * 10) (.int .i64 (m))).set (j * 10 + 1) (.int .i64 (m + 1))).set (j * 10 + 4) (.int .i64 (m + 1 + 1 + (ndL tCond x2 : Int) + (ndL tInt x3 : Int)))).set (j * 10 + 6) (.int .i64 (m + 1 + 1 + (ndL tCond x2 : Int) + (ndL tInt x3 : Int) + 1 + (ndL tInt x5 : Int)))).set (j * 10 + 7) (.int .i64 (m + 1 + 1 + (ndL tCond x2 : Int) + (ndL tInt x3 : Int) + 1 + (ndL tInt x5 : Int) + 1))).set (j * 10 + 8) (.int .i64 (m + 1 + 1 + (ndL tCond x2 : Int) + (ndL tInt x3 : Int) + 1 + (ndL tInt x5 : Int) + 1 + 1))))[j * 10 + 2]? = _; rw [List.getElem?_set_ne (by omega)]; rw [List.getElem?_set_ne (by omega)]; rw [List.getElem?_set_ne (by omega)]; rw [List.getElem?_set_ne (by omega)]; rw [List.getElem?_set_ne (by omega)]; rw [List.getElem?_set_ne (by omega)]; exact hLc 2 (by decide)) | 3, _ => (show (((((((Lc.set (j * 10) (.int .i64 (m))).set (j * 10 + 1) (.int .i64 (m + 1))).set (j * 10 + 4) (.int .i64 (m + 1 + 1 + (ndL tCond x2 : Int) + (ndL tInt x3 : Int)))).set (j * 10 + 6) (.int .i64 (m + 1 + 1 + (ndL tCond x2 : Int) + (ndL tInt x3 : Int) + 1 + (ndL tInt x5 : Int)))).set (j * 10 + 7) (.int .i64 (m + 1 + 1 + (ndL tCond x2 : Int) + (ndL tInt x3 : Int) + 1 + (ndL tInt x5 : Int) + 1))).set (j * 10 + 8) (.int .i64 (m + 1 + 1 + (ndL tCond x2 : Int) + (ndL tInt x3 : Int) + 1 + (ndL tInt x5 : Int) + 1 + 1))))[j * 10 + 3]? = _; rw [List.getElem?_set_ne (by omega)]; rw [List.getElem?_set_ne (by omega)]; rw [List.getElem?_set_ne (by omega)]; rw [List.getElem?_set_ne (by omega)]; rw [List.getElem?_set_ne (by omega)]; rw [List.getElem?_set_ne (by omega)]; exact hLc 3 (by decide)) | 4, _ => (show (((((((Lc.set (j * 10) (.int .i64 (m))).set (j * 10 + 1) (.int .i64 (m + 1))).set (j * 10 + 4) (.int .i64 (m + 1 + 1 + (ndL tCond x2 : Int) + (ndL tInt x3 : Int)))).set (j * 10 + 6) (.int .i64 (m + 1 + 1 + (ndL tCond x2 : Int) + (ndL tInt x3 : Int) + 1 + (ndL tInt x5 : Int)))).set (j * 10 + 7) (.int .i64 (m + 1 + 1 + (ndL tCond x2 : Int) + (ndL tInt x3 : Int) + 1 + (ndL tInt x5 : Int) + 1))).set (j * 10 + 8) (.int .i64 (m + 1 + 1 + (ndL tCond x2 : Int) + (ndL tInt x3 : Int) + 1 + (ndL tInt x5 : Int) + 1 + 1))))[j * 10 + 4]? = _; rw [List.getElem?_set_ne (by omega)]; rw [List.getElem?_set_ne (by omega)]; rw [List.getElem?_set_ne (by omega)]; rw [List.getElem?_set_self (by first | omega | (simp only [List.length_set]; omega))]; rfl) | 5, _ => (show (((((((Lc.set (j * 10) (.int .i64 (m))).set (j * 10 + 1) (.int .i64 (m + 1))).set (j * 10 + 4) (.int .i64 (m + 1 + 1 + (ndL tCond x2 : Int) + (ndL tInt x3 : Int)))).set (j * 10 + 6) (.int .i64 (m + 1 + 1 + (ndL tCond x2 : Int) + (ndL tInt x3 : Int) + 1 + (ndL tInt x5 : Int)))).set (j * 10 + 7) (.int .i64 (m + 1 + 1 + (ndL tCond x2 : Int) + (ndL tInt x3 : Int) + 1 + (ndL tInt x5 : Int) + 1))).set (j * 10 + 8) (.int .i64 (m + 1 + 1 + (ndL tCond x2 : Int) + (ndL tInt x3 : Int) + 1 + (ndL tInt x5 : Int) + 1 + 1))))[j * 10 + 5]? = _; rw [List.getElem?_set_ne (by omega)]; rw [List.getElem?_set_ne (by omega)]; rw [List.getElem?_set_ne (by omega)]; rw [List.getElem?_set_ne (by omega)]; rw [List.getElem?_set_ne (by omega)]; rw [List.getElem?_set_ne (by omega)]; exact hLc 5 (by decide)) | 6, _ => (show (((((((Lc.set (j * 10) (.int .i64 (m))).set (j * 10 + 1) (.int .i64 (m + 1))).set (j * 10 + 4) (.int .i64 (m + 1 + 1 + (ndL tCond x2 : Int) + (ndL tInt x3 : Int)))).set (j * 10 + 6) (.int .i64 (m + 1 + 1 + (ndL tCond x2 : Int) + (ndL tInt x3 : Int) + 1 + (ndL tInt x5 : Int)))).set (j * 10 + 7) (.int .i64 (m + 1 + 1 + (ndL tCond x2 : Int) + (ndL tInt x3 : Int) + 1 + (ndL tInt x5 : Int) + 1))).set (j * 10 + 8) (.int .i64 (m + 1 + 1 + (ndL tCond x2 : Int) + (ndL tInt x3 : Int) + 1 + (ndL tInt x5 : Int) + 1 + 1))))[j * 10 + 6]? = _; rw [List.getElem?_set_ne (by omega)]; rw [List.getElem?_set_ne (by omega)]; rw [List.getElem?_set_self (by first | omega | (simp only [List.length_set]; omega))]; rfl) | 7, _ => (show (((((((Lc.set (j * 10) (.int .i64 (m))).set (j * 10 + 1) (.int .i64 (m + 1))).set (j * 10 + 4) (.int .i64 (m + 1 + 1 + (ndL tCond x2 : Int) + (ndL tInt x3 : Int)))).set (j * 10 + 6) (.int .i64 (m + 1 + 1 + (ndL tCond x2 : Int) + (ndL tInt x3 : Int) + 1 + (ndL tInt x5 : Int)))).set (j * 10 + 7) (.int .i64 (m + 1 + 1 + (ndL tCond x2 : Int) + (ndL tInt x3 : Int) + 1 + (ndL tInt x5 : Int) + 1))).set (j * 10 + 8) (.int .i64 (m + 1 + 1 + (ndL tCond x2 : Int) + (ndL tInt x3 : Int) + 1 + (ndL tInt x5 : Int) + 1 + 1))))[j * 10 + 7]? = _; rw [List.getElem?_set_ne (by omega)]; rw [List.getElem?_set_self (by first | omega | (simp only [List.length_set]; omega))]; rfl) | 8, _ => (show (((((((Lc.set (j * 10) (.int .i64 (m))).set (j * 10 + 1) (.int .i64 (m + 1))).set (j * 10 + 4) (.int .i64 (m + 1 + 1 + (ndL tCond x2 : Int) + (ndL tInt x3 : Int)))).set (j * 10 + 6) (.int .i64 (m + 1 + 1 + (ndL tCond x2 : Int) + (ndL tInt x3 : Int) + 1 + (ndL tInt x5 : Int)))).set (j * 10 + 7) (.int .i64 (m + 1 + 1 + (ndL tCond x2 : Int) + (ndL tInt x3 : Int) + 1 + (ndL tInt x5 : Int) + 1))).set (j * 10 + 8) (.int .i64 (m + 1 + 1 + (ndL tCond x2 : Int) + (ndL tInt x3 : Int) + 1 + (ndL tInt x5 : Int) + 1 + 1))))[j * 10 + 8]? = _; rw [List.getElem?_set_self (by first | omega | (simp only [List.length_set]; omega))]; rfl) | 9, _ => (show (((((((Lc.set (j * 10) (.int .i64 (m))).set (j * 10 + 1) (.int .i64 (m + 1))).set (j * 10 + 4) (.int .i64 (m + 1 + 1 + (ndL tCond x2 : Int) + (ndL tInt x3 : Int)))).set (j * 10 + 6) (.int .i64 (m + 1 + 1 + (ndL tCond x2 : Int) + (ndL tInt x3 : Int) + 1 + (ndL tInt x5 : Int)))).set (j * 10 + 7) (.int .i64 (m + 1 + 1 + (ndL tCond x2 : Int) + (ndL tInt x3 : Int) + 1 + (ndL tInt x5 : Int) + 1))).set (j * 10 + 8) (.int .i64 (m + 1 + 1 + (ndL tCond x2 : Int) + (ndL tInt x3 : Int) + 1 + (ndL tInt x5 : Int) + 1 + 1))))[j * 10 + 9]? = _; rw [List.getElem?_set_ne (by omega)]; rw [List.getElem?_set_ne (by omega)]; rw [List.getElem?_set_ne (by omega)]; rw [List.getElem?_set_ne (by omega)]; rw [List.getElem?_set_ne (by omega)]; rw [List.getElem?_set_ne (by omega)]; exact hLc 9 (by decide))) hO2 (fun b hb => ⟨(hFj b hb).1, Or.inl hb⟩) tt
    rw [HSET.out] at hst
    have HST := hd hst
    have hon2 := hon.trans (Turn.mono (G := fun b => F b ∧ b < w.heap.size) (G' := F) ⟨tt.os, tt.tape, tt.output, tt.size, fun b hb hn => tt.block b hb (fun h => hn (h.elim (fun h => by rw [h]; exact ⟨hFg, hgw⟩) (fun h => h.elim (fun h => (hFj b h).1) (fun h => absurd hb (Nat.not_lt.2 h)))))⟩ (fun b h => h.1))
    clear hst hput tt rr hO2 hon hFj hLc hLl o2 o3 o5 o9
    rw [HMM.out]
    go_wp2
    go_roundw
    case rel => exact ⟨j + 1, by omega, by go_num, by rw [HM'.out], HST.out, hon2⟩
    case measure => simp [intOf]; omega
   ·
    obtain rfl : j = xs.length := by omega
    rw [mTo_all] at hown
    go_wp2
    go_ret
    refine ⟨?_, slO_mono hown (fun b h => h.1), hon⟩
    simp
def tFinished : Ty ((Int × Int × List (Int × Int × Int) × List Int) × Int × Int × List (Int × List Int)) := tPair tQuery (tPair tInt (tPair tInt tRowS))
theorem tFinished_law : tFinished.Law := tPair_law tQuery_law (tPair_law tInt_law (tPair_law tInt_law tRowS_law))
theorem tFinished_R {w : World} {cs : List Value} {a0 : Int} {a1 : Int} {x2 : List (Int × Int × Int)} {x3 : List Int} {a4 : Int} {a5 : Int} {x6 : List (Int × List Int)} (h : tFinished.R w cs ((a0, a1, x2, x3), a4, a5, x6)) : ∃ v2 v3 v6, cs = [.int .i64 a0, .int .i64 a1, v2, v3, .int .i64 a4, .int .i64 a5, v6] ∧ SlR tCond w v2 x2 ∧ SlR tInt w v3 x3 ∧ SlR tRow w v6 x6 := by
 obtain ⟨_, _, rfl, ⟨_, _, rfl, rfl, ⟨_, _, rfl, rfl, ⟨_, _, rfl, ⟨v2, rfl, h2⟩, ⟨v3, rfl, h3⟩⟩⟩⟩, ⟨_, _, rfl, rfl, ⟨_, _, rfl, rfl, ⟨v6, rfl, h6⟩⟩⟩⟩ := h
 exact ⟨_, _, _, rfl, h2, h3, h6⟩
theorem tFinished_sz {a0 : Int} {a1 : Int} {x2 : List (Int × Int × Int)} {x3 : List Int} {a4 : Int} {a5 : Int} {x6 : List (Int × List Int)} : tFinished.sz ((a0, a1, x2, x3), a4, a5, x6) = zL tCond x2 + zL tInt x3 + zL tRow x6 := by
 simp only [tFinished, tPair_sz, tPair_nd, tPair_nv, tInt_sz, tInt_nd, tInt_nv, tSl_sz, tSl_nd, tSl_nv, tQuery]
 try omega
theorem tFinished_nd {a0 : Int} {a1 : Int} {x2 : List (Int × Int × Int)} {x3 : List Int} {a4 : Int} {a5 : Int} {x6 : List (Int × List Int)} : tFinished.nd ((a0, a1, x2, x3), a4, a5, x6) = 4 + ndL tCond x2 + ndL tInt x3 + ndL tRow x6 := by
 simp only [tFinished, tPair_sz, tPair_nd, tPair_nv, tInt_sz, tInt_nd, tInt_nv, tSl_sz, tSl_nd, tSl_nv, tQuery]
 try omega
theorem tFinished_md {a0 : Int} {a1 : Int} {x2 : List (Int × Int × Int)} {x3 : List Int} {a4 : Int} {a5 : Int} {x6 : List (Int × List Int)} {k : Int} : tFinished.md ((a0, a1, x2, x3), a4, a5, x6) k = (((k), (k + 1), mAll tCond x2 (k + 1 + 1), mAll tInt x3 (k + 1 + 1 + (ndL tCond x2 : Int))), (k + 1 + 1 + (ndL tCond x2 : Int) + (ndL tInt x3 : Int)), (k + 1 + 1 + (ndL tCond x2 : Int) + (ndL tInt x3 : Int) + 1), mAll tRow x6 (k + 1 + 1 + (ndL tCond x2 : Int) + (ndL tInt x3 : Int) + 1 + 1)) := by
 simp only [tFinished, tPair_md, tPair_mv, tPair_nd, tPair_nv, tInt_md, tInt_mv, tInt_nd, tInt_nv, tSl_md, tSl_mv, tSl_nd, tSl_nv, tQuery, Int.natCast_add, Int.natCast_zero, Int.natCast_one, Int.add_zero, Int.zero_add, Int.add_assoc]
theorem tFinished_O {w : World} {F : Nat → Prop} {cs : List Value} {a0 : Int} {a1 : Int} {x2 : List (Int × Int × Int)} {x3 : List Int} {a4 : Int} {a5 : Int} {x6 : List (Int × List Int)} (h : tFinished.O w F cs ((a0, a1, x2, x3), a4, a5, x6)) : ∃ v2 v3 v6, ∃ F2 F3 F6 : Nat → Prop, cs = [.int .i64 a0, .int .i64 a1, v2, v3, .int .i64 a4, .int .i64 a5, v6] ∧ SlO 182 tCond w F2 v2 x2 ∧ SlO 3 tInt w F3 v3 x3 ∧ SlO 79 tRow w F6 v6 x6 ∧ (∀ b, F2 b → F b) ∧ (∀ b, F3 b → F b) ∧ (∀ b, F6 b → F b) ∧ (∀ b, F2 b → ¬ F3 b) ∧ (∀ b, F2 b → ¬ F6 b) ∧ (∀ b, F3 b → ¬ F6 b) := by
 obtain ⟨_, _, F0_1, F0_2, rfl, ⟨_, _, F1_1, F1_2, rfl, rfl, ⟨_, _, F2_1, F2_2, rfl, rfl, ⟨_, _, F3_1, F3_2, rfl, ⟨v2, rfl, h2⟩, ⟨v3, rfl, h3⟩, s3_1, s3_2, d3⟩, s2_1, s2_2, d2⟩, s1_1, s1_2, d1⟩, ⟨_, _, F4_1, F4_2, rfl, rfl, ⟨_, _, F5_1, F5_2, rfl, rfl, ⟨v6, rfl, h6⟩, s5_1, s5_2, d5⟩, s4_1, s4_2, d4⟩, s0_1, s0_2, d0⟩ := h
 exact ⟨v2, v3, v6, F3_1, F3_2, F5_2, rfl, h2, h3, h6, fun b h => (s0_1 b (s1_2 b (s2_2 b (s3_1 b h)))), fun b h => (s0_1 b (s1_2 b (s2_2 b (s3_2 b h)))), fun b h => (s0_2 b (s4_2 b (s5_2 b h))), fun b h h2 => d3 b h h2, fun b h h2 => d0 b (s1_2 b (s2_2 b (s3_1 b h))) (s4_2 b (s5_2 b h2)), fun b h h2 => d0 b (s1_2 b (s2_2 b (s3_2 b h))) (s4_2 b (s5_2 b h2))⟩
theorem tFinished_mkO {w : World} {F : Nat → Prop} {a0 : Int} {a1 : Int} {x2 : List (Int × Int × Int)} {x3 : List Int} {a4 : Int} {a5 : Int} {x6 : List (Int × List Int)} {v2 v3 v6 : Value} {F2 F3 F6 : Nat → Prop} (h2 : SlO 182 tCond w F2 v2 x2) (h3 : SlO 3 tInt w F3 v3 x3) (h6 : SlO 79 tRow w F6 v6 x6) (s2 : ∀ b, F2 b → F b) (s3 : ∀ b, F3 b → F b) (s6 : ∀ b, F6 b → F b) (d2_3 : ∀ b, F2 b → ¬ F3 b) (d2_6 : ∀ b, F2 b → ¬ F6 b) (d3_6 : ∀ b, F3 b → ¬ F6 b) : tFinished.O w F [.int .i64 a0, .int .i64 a1, v2, v3, .int .i64 a4, .int .i64 a5, v6] ((a0, a1, x2, x3), a4, a5, x6) := ⟨[.int .i64 a0, .int .i64 a1, v2, v3], [.int .i64 a4, .int .i64 a5, v6], fun b => F2 b ∨ (F3 b), F6, rfl, ⟨[.int .i64 a0], [.int .i64 a1, v2, v3], fun _ => False, fun b => F2 b ∨ (F3 b), rfl, rfl, ⟨[.int .i64 a1], [v2, v3], fun _ => False, fun b => F2 b ∨ (F3 b), rfl, rfl, ⟨[v2], [v3], F2, F3, rfl, ⟨_, rfl, h2⟩, ⟨_, rfl, h3⟩, (fun b h => (Or.inl h)), (fun b h => (Or.inr h)), (fun b h g => d2_3 b h g)⟩, (fun b h => (False.elim h)), (fun b h => (h.elim (fun q0 => (Or.inl q0)) (fun q0 => (Or.inr q0)))), (fun b h g => (False.elim h))⟩, (fun b h => (False.elim h)), (fun b h => (h.elim (fun q0 => (Or.inl q0)) (fun q0 => (Or.inr q0)))), (fun b h g => (False.elim h))⟩, ⟨[.int .i64 a4], [.int .i64 a5, v6], fun _ => False, F6, rfl, rfl, ⟨[.int .i64 a5], [v6], fun _ => False, F6, rfl, rfl, ⟨_, rfl, h6⟩, (fun b h => (False.elim h)), (fun b h => h), (fun b h g => (False.elim h))⟩, (fun b h => (False.elim h)), (fun b h => h), (fun b h g => (False.elim h))⟩, (fun b h => (h.elim (fun q0 => s2 b q0) (fun q0 => s3 b q0))), (fun b h => s6 b h), (fun b h g => (h.elim (fun q0 => d2_6 b q0 g) (fun q0 => d3_6 b q0 g)))⟩
set_option maxHeartbeats 8000000 in
theorem szFinished_Y (a0 a1 a4 a5 : Int) (v2 v3 v6 : Value) (x2 : List (Int × Int × Int)) (x3 : List Int) (x6 : List (Int × List Int)) (k0 : Int) (w : World) (h2 : SlR tCond w v2 x2) (h3 : SlR tInt w v3 x3) (h6 : SlR tRow w v6 x6) (hs : ((zL tCond x2 + zL tInt x3 + zL tRow x6 : Nat) : Int) ≤ k0) (hk : k0 ≤ 1048576) :
  Calls Tryz.prog 111 #[.agg #[.int .i64 a0, .int .i64 a1, v2, v3, .int .i64 a4, .int .i64 a5, v6], .int .i64 k0] w fun e w' => e = .returned (.int .i64 (k0 - ((zL tCond x2 + zL tInt x3 + zL tRow x6 : Nat) : Int))) ∧ Below w.heap.size w w' := by
 have H2 := hd h2
 have H3 := hd h3
 have H6 := hd h6
 clear h2 h3 h6
 have HZ0 : Hid (((zL tCond x2 + zL tInt x3 : Nat) : Int) ≤ k0) := hd (by omega)
 have HK0 : Hid (k0 ≤ 1048576) := hd (by omega)
 have hn0 : ¬ k0 - ((zL tCond x2 + zL tInt x3 : Nat) : Int) < 0 := by omega
 have HZ6 : Hid (((zL tRow x6 : Nat) : Int) ≤ k0 - ((zL tCond x2 + zL tInt x3 : Nat) : Int)) := hd (by omega)
 have HK6 : Hid (k0 - ((zL tCond x2 + zL tInt x3 : Nat) : Int) ≤ 1048576) := hd (by omega)
 have hn6 : ¬ k0 - ((zL tCond x2 + zL tInt x3 : Nat) : Int) - ((zL tRow x6 : Nat) : Int) < 0 := by omega
 have HE : Hid (k0 - ((zL tCond x2 + zL tInt x3 : Nat) : Int) - ((zL tRow x6 : Nat) : Int) = k0 - ((zL tCond x2 + zL tInt x3 + zL tRow x6 : Nat) : Int)) := hd (by omega)
 clear hs hk
 have hb : Below w.heap.size w (w.alloc (.cells #[.int .i64 a0, .int .i64 a1, v2, v3, .int .i64 a4, .int .i64 a5, v6] 145)) := (Below.refl _ w).alloc (Nat.le_refl _) _
 have g0 : (w.alloc (.cells #[.int .i64 a0, .int .i64 a1, v2, v3, .int .i64 a4, .int .i64 a5, v6] 145)).heap[w.heap.size]? = some (.cells #[.int .i64 a0, .int .i64 a1, v2, v3, .int .i64 a4, .int .i64 a5, v6] 145 (0, 0)) := heap_alloc_new w _
 have hz0 : w.heap.size < (w.alloc (.cells #[.int .i64 a0, .int .i64 a1, v2, v3, .int .i64 a4, .int .i64 a5, v6] 145)).heap.size := by simp
 go_enter Tryz.func111, Tryz.ntmps111
 go_wp2_with fail
 generalize (w.alloc (.cells #[.int .i64 a0, .int .i64 a1, v2, v3, .int .i64 a4, .int .i64 a5, v6] 145)) = W at *
 refine (szQuery_Y a0 a1 v2 v3 x2 x3 (k0) W (slR_below tCond_law H2.out hb) (slR_below tInt_law H3.out hb) HZ0.out HK0.out).mono ?_
 rintro e W1 ⟨rfl, b1⟩
 replace g0 := (b1.block w.heap.size hz0).trans g0
 replace hz0 := Nat.lt_of_lt_of_le hz0 b1.size
 replace hb := hb.trans (b1.mono hb.size)
 clear b1
 have p6 := cr 6 (v6) g0
 go_wp2_with fail
 clear p6
 refine (szRowS_Y v6 x6 (k0 - ((zL tCond x2 + zL tInt x3 : Nat) : Int)) W1 (slR_below tRow_law H6.out hb) HZ6.out HK6.out).mono ?_
 rintro e W2 ⟨rfl, b1⟩
 replace g0 := (b1.block w.heap.size hz0).trans g0
 replace hz0 := Nat.lt_of_lt_of_le hz0 b1.size
 replace hb := hb.trans (b1.mono hb.size)
 clear b1
 go_wp2
 go_ret
 exact ⟨ty_ret HE.out, hb⟩
set_option maxHeartbeats 8000000 in
theorem szFinished_N (a0 a1 a4 a5 : Int) (v2 v3 v6 : Value) (x2 : List (Int × Int × Int)) (x3 : List Int) (x6 : List (Int × List Int)) (k0 : Int) (w : World) (h2 : SlR tCond w v2 x2) (h3 : SlR tInt w v3 x3) (h6 : SlR tRow w v6 x6) (hs : k0 < ((zL tCond x2 + zL tInt x3 + zL tRow x6 : Nat) : Int)) (hk : k0 ≤ 1048576) (hp : 0 ≤ k0) (o2 : tCondS.ok x2) (o3 : tIntS.ok x3) (o6 : tRowS.ok x6) :
  Calls Tryz.prog 111 #[.agg #[.int .i64 a0, .int .i64 a1, v2, v3, .int .i64 a4, .int .i64 a5, v6], .int .i64 k0] w fun e w' => e = .returned (.int .i64 (-1)) ∧ Below w.heap.size w w' := by
 have H2 := hd h2
 have H3 := hd h3
 have H6 := hd h6
 clear h2 h3 h6
 have HO2 := hd o2
 have HO3 := hd o3
 have HO6 := hd o6
 clear o2 o3 o6
 by_cases c0 : k0 < ((zL tCond x2 + zL tInt x3 : Nat) : Int)
 ·
  have HZ0 : Hid (k0 < ((zL tCond x2 + zL tInt x3 : Nat) : Int)) := hd (by omega)
  have HP0 : Hid (0 ≤ k0) := hd (by omega)
  have HK0 : Hid (k0 ≤ 1048576) := hd (by omega)
  clear hs hk
  clear c0 hp
  have hb : Below w.heap.size w (w.alloc (.cells #[.int .i64 a0, .int .i64 a1, v2, v3, .int .i64 a4, .int .i64 a5, v6] 145)) := (Below.refl _ w).alloc (Nat.le_refl _) _
  have g0 : (w.alloc (.cells #[.int .i64 a0, .int .i64 a1, v2, v3, .int .i64 a4, .int .i64 a5, v6] 145)).heap[w.heap.size]? = some (.cells #[.int .i64 a0, .int .i64 a1, v2, v3, .int .i64 a4, .int .i64 a5, v6] 145 (0, 0)) := heap_alloc_new w _
  have hz0 : w.heap.size < (w.alloc (.cells #[.int .i64 a0, .int .i64 a1, v2, v3, .int .i64 a4, .int .i64 a5, v6] 145)).heap.size := by simp
  go_enter Tryz.func111, Tryz.ntmps111
  go_wp2_with fail
  generalize (w.alloc (.cells #[.int .i64 a0, .int .i64 a1, v2, v3, .int .i64 a4, .int .i64 a5, v6] 145)) = W at *
  refine (szQuery_N a0 a1 v2 v3 x2 x3 (k0) W (slR_below tCond_law H2.out hb) (slR_below tInt_law H3.out hb) HZ0.out HK0.out HP0.out HO2.out HO3.out).mono ?_
  rintro e W1 ⟨rfl, b1⟩
  replace g0 := (b1.block w.heap.size hz0).trans g0
  replace hz0 := Nat.lt_of_lt_of_le hz0 b1.size
  replace hb := hb.trans (b1.mono hb.size)
  clear b1
  go_wp2
  go_ret
  exact ⟨rfl, hb⟩
 ·
  have HZ0 : Hid (((zL tCond x2 + zL tInt x3 : Nat) : Int) ≤ k0) := hd (by omega)
  have hn0 : ¬ k0 - ((zL tCond x2 + zL tInt x3 : Nat) : Int) < 0 := by omega
  have HK0 : Hid (k0 ≤ 1048576) := hd (by omega)
  have HZ6 : Hid (k0 - ((zL tCond x2 + zL tInt x3 : Nat) : Int) < ((zL tRow x6 : Nat) : Int)) := hd (by omega)
  have HP6 : Hid (0 ≤ k0 - ((zL tCond x2 + zL tInt x3 : Nat) : Int)) := hd (by omega)
  have HK6 : Hid (k0 - ((zL tCond x2 + zL tInt x3 : Nat) : Int) ≤ 1048576) := hd (by omega)
  clear hs hk
  clear hp c0
  have hb : Below w.heap.size w (w.alloc (.cells #[.int .i64 a0, .int .i64 a1, v2, v3, .int .i64 a4, .int .i64 a5, v6] 145)) := (Below.refl _ w).alloc (Nat.le_refl _) _
  have g0 : (w.alloc (.cells #[.int .i64 a0, .int .i64 a1, v2, v3, .int .i64 a4, .int .i64 a5, v6] 145)).heap[w.heap.size]? = some (.cells #[.int .i64 a0, .int .i64 a1, v2, v3, .int .i64 a4, .int .i64 a5, v6] 145 (0, 0)) := heap_alloc_new w _
  have hz0 : w.heap.size < (w.alloc (.cells #[.int .i64 a0, .int .i64 a1, v2, v3, .int .i64 a4, .int .i64 a5, v6] 145)).heap.size := by simp
  go_enter Tryz.func111, Tryz.ntmps111
  go_wp2_with fail
  generalize (w.alloc (.cells #[.int .i64 a0, .int .i64 a1, v2, v3, .int .i64 a4, .int .i64 a5, v6] 145)) = W at *
  refine (szQuery_Y a0 a1 v2 v3 x2 x3 (k0) W (slR_below tCond_law H2.out hb) (slR_below tInt_law H3.out hb) HZ0.out HK0.out).mono ?_
  rintro e W1 ⟨rfl, b1⟩
  replace g0 := (b1.block w.heap.size hz0).trans g0
  replace hz0 := Nat.lt_of_lt_of_le hz0 b1.size
  replace hb := hb.trans (b1.mono hb.size)
  clear b1
  have p6 := cr 6 (v6) g0
  go_wp2_with fail
  clear p6
  refine (szRowS_N v6 x6 (k0 - ((zL tCond x2 + zL tInt x3 : Nat) : Int)) W1 (slR_below tRow_law H6.out hb) HZ6.out HK6.out HP6.out HO6.out).mono ?_
  rintro e W2 ⟨rfl, b1⟩
  replace g0 := (b1.block w.heap.size hz0).trans g0
  replace hz0 := Nat.lt_of_lt_of_le hz0 b1.size
  replace hb := hb.trans (b1.mono hb.size)
  clear b1
  go_wp2
  go_ret
  exact ⟨rfl, hb⟩
set_option maxHeartbeats 8000000 in
theorem toFinished_T (a0 a1 a4 a5 : Int) (v2 v3 v6 : Value) (x2 : List (Int × Int × Int)) (x3 : List Int) (x6 : List (Int × List Int)) (w : World) (h2 : SlR tCond w v2 x2) (h3 : SlR tInt w v3 x3) (h6 : SlR tRow w v6 x6) (s2 : zL tCond x2 ≤ 1048576) (s3 : zL tInt x3 ≤ 1048576) (s6 : zL tRow x6 ≤ 1048576) :
  Calls Tryz.prog 120 #[.agg #[.int .i64 a0, .int .i64 a1, v2, v3, .int .i64 a4, .int .i64 a5, v6]] w (FreshT tFinished (fun cs => .agg cs.toArray) w ((a0, a1, x2, x3), a4, a5, x6)) := by
 have H2 := hd h2
 have H3 := hd h3
 have H6 := hd h6
 clear h2 h3 h6
 have S2 := hd s2
 have S3 := hd s3
 have S6 := hd s6
 clear s2 s3 s6
 go_enter Tryz.func120, Tryz.ntmps120
 go_wp2_with fail
 have hb : Below w.heap.size w (((w.alloc (.cells #[.int .i64 a0, .int .i64 a1, v2, v3, .int .i64 a4, .int .i64 a5, v6] 145)).alloc (.cells #[.int .i64 0, .int .i64 0, .slice none 0 0, .slice none 0 0, .int .i64 0, .int .i64 0, .slice none 0 0] 54)).alloc (.cells #[.int .i64 0, .int .i64 0, .slice none 0 0, .slice none 0 0, .int .i64 0, .int .i64 0, .slice none 0 0] 54)) := (((Below.refl _ w).alloc (Nat.le_refl _) _).alloc (by simp) _).alloc (by simp; omega) _
 have g2 : (((w.alloc (.cells #[.int .i64 a0, .int .i64 a1, v2, v3, .int .i64 a4, .int .i64 a5, v6] 145)).alloc (.cells #[.int .i64 0, .int .i64 0, .slice none 0 0, .slice none 0 0, .int .i64 0, .int .i64 0, .slice none 0 0] 54)).alloc (.cells #[.int .i64 0, .int .i64 0, .slice none 0 0, .slice none 0 0, .int .i64 0, .int .i64 0, .slice none 0 0] 54)).heap[w.heap.size + 1 + 1]? = some (.cells #[.int .i64 0, .int .i64 0, .slice none 0 0, .slice none 0 0, .int .i64 0, .int .i64 0, .slice none 0 0] 54 (0, 0)) := by
  have := heap_alloc_new ((w.alloc (.cells #[.int .i64 a0, .int .i64 a1, v2, v3, .int .i64 a4, .int .i64 a5, v6] 145)).alloc (.cells #[.int .i64 0, .int .i64 0, .slice none 0 0, .slice none 0 0, .int .i64 0, .int .i64 0, .slice none 0 0] 54)) (.cells #[.int .i64 0, .int .i64 0, .slice none 0 0, .slice none 0 0, .int .i64 0, .int .i64 0, .slice none 0 0] 54)
  simpa only [World.size_alloc] using this
 have g1 : (((w.alloc (.cells #[.int .i64 a0, .int .i64 a1, v2, v3, .int .i64 a4, .int .i64 a5, v6] 145)).alloc (.cells #[.int .i64 0, .int .i64 0, .slice none 0 0, .slice none 0 0, .int .i64 0, .int .i64 0, .slice none 0 0] 54)).alloc (.cells #[.int .i64 0, .int .i64 0, .slice none 0 0, .slice none 0 0, .int .i64 0, .int .i64 0, .slice none 0 0] 54)).heap[w.heap.size + 1]? = some (.cells #[.int .i64 0, .int .i64 0, .slice none 0 0, .slice none 0 0, .int .i64 0, .int .i64 0, .slice none 0 0] 54 (0, 0)) := by
  have := heap_alloc_new (w.alloc (.cells #[.int .i64 a0, .int .i64 a1, v2, v3, .int .i64 a4, .int .i64 a5, v6] 145)) (.cells #[.int .i64 0, .int .i64 0, .slice none 0 0, .slice none 0 0, .int .i64 0, .int .i64 0, .slice none 0 0] 54)
  rw [Below.heap_alloc _ _ _ (by simp)]
  simpa only [World.size_alloc] using this
 have g0 : (((w.alloc (.cells #[.int .i64 a0, .int .i64 a1, v2, v3, .int .i64 a4, .int .i64 a5, v6] 145)).alloc (.cells #[.int .i64 0, .int .i64 0, .slice none 0 0, .slice none 0 0, .int .i64 0, .int .i64 0, .slice none 0 0] 54)).alloc (.cells #[.int .i64 0, .int .i64 0, .slice none 0 0, .slice none 0 0, .int .i64 0, .int .i64 0, .slice none 0 0] 54)).heap[w.heap.size]? = some (.cells #[.int .i64 a0, .int .i64 a1, v2, v3, .int .i64 a4, .int .i64 a5, v6] 145 (0, 0)) := by
  rw [Below.heap_alloc _ _ _ (by simp; omega), Below.heap_alloc _ _ _ (by simp)]
  exact heap_alloc_new w _
 have hz : w.heap.size + 2 < (((w.alloc (.cells #[.int .i64 a0, .int .i64 a1, v2, v3, .int .i64 a4, .int .i64 a5, v6] 145)).alloc (.cells #[.int .i64 0, .int .i64 0, .slice none 0 0, .slice none 0 0, .int .i64 0, .int .i64 0, .slice none 0 0] 54)).alloc (.cells #[.int .i64 0, .int .i64 0, .slice none 0 0, .slice none 0 0, .int .i64 0, .int .i64 0, .slice none 0 0] 54)).heap.size := by simp [World.size_alloc]
 generalize (((w.alloc (.cells #[.int .i64 a0, .int .i64 a1, v2, v3, .int .i64 a4, .int .i64 a5, v6] 145)).alloc (.cells #[.int .i64 0, .int .i64 0, .slice none 0 0, .slice none 0 0, .int .i64 0, .int .i64 0, .slice none 0 0] 54)).alloc (.cells #[.int .i64 0, .int .i64 0, .slice none 0 0, .slice none 0 0, .int .i64 0, .int .i64 0, .slice none 0 0] 54)) = W at *
 refine (toQuery_T a0 a1 v2 v3 x2 x3 W (slR_below tCond_law H2.out hb) (slR_below tInt_law H3.out hb) S2.out S3.out).mono ?_
 rintro e w1 ⟨cs, rfl, ow, b1⟩
 replace ow := tQuery_law.mono (tQuery_law.lt ow) (F' := fun b => W.heap.size ≤ b ∧ b < w1.heap.size) (fun b h => h)
 obtain ⟨u2, u3, F2, F3, rfl, o2, o3, q2, q3, d2_3⟩ := tQuery_O ow
 obtain ⟨ua2, uc2, rfl⟩ := slO_len o2
 obtain ⟨ua3, uc3, rfl⟩ := slO_len o3
 replace g0 := (b1.block _ (by omega)).trans g0
 replace g1 := (b1.block _ (by omega)).trans g1
 replace g2 := (b1.block _ (by omega)).trans g2
 have zz1 := b1.size
 replace hb := hb.trans (b1.mono (by omega))
 clear b1
 have c2_0 := cr 0 (Value.int .i64 0) g2
 have f2_0 := frozen_of_row w1 _ 0 _ _ g2
 have c2_1 := cr 1 (Value.int .i64 0) g2
 have f2_1 := frozen_of_row w1 _ 1 _ _ g2
 have c2_2 := cr 2 (Value.slice none 0 0) g2
 have f2_2 := frozen_of_row w1 _ 2 _ _ g2
 have c2_3 := cr 3 (Value.slice none 0 0) g2
 have f2_3 := frozen_of_row w1 _ 3 _ _ g2
 have c2_4 := cr 4 (Value.int .i64 0) g2
 have f2_4 := frozen_of_row w1 _ 4 _ _ g2
 have c2_5 := cr 5 (Value.int .i64 0) g2
 have f2_5 := frozen_of_row w1 _ 5 _ _ g2
 have ne1 : ¬ w.heap.size = w.heap.size + 1 + 1 := by omega
 have ne2 : ¬ w.heap.size + 1 = w.heap.size + 1 + 1 := by omega
 have ne3 : ¬ w.heap.size + 1 + 1 = w.heap.size + 1 := by omega
 have c0_4 := cr 4 (Value.int .i64 a4) g0
 have c0_5 := cr 5 (Value.int .i64 a5) g0
 have c0_6 := cr 6 (v6) g0
 have l0_4 : ((((w1.setCell ⟨w.heap.size + 1 + 1, 0, none⟩ (.int .i64 a0)).setCell ⟨w.heap.size + 1 + 1, 1, none⟩ (.int .i64 a1)).setCell ⟨w.heap.size + 1 + 1, 2, none⟩ (.slice ua2 x2.length uc2)).setCell ⟨w.heap.size + 1 + 1, 3, none⟩ (.slice ua3 x3.length uc3)).cell? ⟨w.heap.size, 4, none⟩ = some (Value.int .i64 a4) := by
  have m : ((((w1.setCell ⟨w.heap.size + 1 + 1, 0, none⟩ (.int .i64 a0)).setCell ⟨w.heap.size + 1 + 1, 1, none⟩ (.int .i64 a1)).setCell ⟨w.heap.size + 1 + 1, 2, none⟩ (.slice ua2 x2.length uc2)).setCell ⟨w.heap.size + 1 + 1, 3, none⟩ (.slice ua3 x3.length uc3)).heap[w.heap.size]? = some (.cells #[.int .i64 a0, .int .i64 a1, v2, v3, .int .i64 a4, .int .i64 a5, v6] 145 (0, 0)) := by
   repeat rw [heap_setCell_other _ _ _ _ (by simp <;> omega)]
   exact g0
  exact (cell_of_row _ _ 4 _ _ _ m).trans rfl
 have l0_5 : (((((w1.setCell ⟨w.heap.size + 1 + 1, 0, none⟩ (.int .i64 a0)).setCell ⟨w.heap.size + 1 + 1, 1, none⟩ (.int .i64 a1)).setCell ⟨w.heap.size + 1 + 1, 2, none⟩ (.slice ua2 x2.length uc2)).setCell ⟨w.heap.size + 1 + 1, 3, none⟩ (.slice ua3 x3.length uc3)).setCell ⟨w.heap.size + 1 + 1, 4, none⟩ (.int .i64 a4)).cell? ⟨w.heap.size, 5, none⟩ = some (Value.int .i64 a5) := by
  have m : (((((w1.setCell ⟨w.heap.size + 1 + 1, 0, none⟩ (.int .i64 a0)).setCell ⟨w.heap.size + 1 + 1, 1, none⟩ (.int .i64 a1)).setCell ⟨w.heap.size + 1 + 1, 2, none⟩ (.slice ua2 x2.length uc2)).setCell ⟨w.heap.size + 1 + 1, 3, none⟩ (.slice ua3 x3.length uc3)).setCell ⟨w.heap.size + 1 + 1, 4, none⟩ (.int .i64 a4)).heap[w.heap.size]? = some (.cells #[.int .i64 a0, .int .i64 a1, v2, v3, .int .i64 a4, .int .i64 a5, v6] 145 (0, 0)) := by
   repeat rw [heap_setCell_other _ _ _ _ (by simp <;> omega)]
   exact g0
  exact (cell_of_row _ _ 5 _ _ _ m).trans rfl
 have l0_6 : ((((((w1.setCell ⟨w.heap.size + 1 + 1, 0, none⟩ (.int .i64 a0)).setCell ⟨w.heap.size + 1 + 1, 1, none⟩ (.int .i64 a1)).setCell ⟨w.heap.size + 1 + 1, 2, none⟩ (.slice ua2 x2.length uc2)).setCell ⟨w.heap.size + 1 + 1, 3, none⟩ (.slice ua3 x3.length uc3)).setCell ⟨w.heap.size + 1 + 1, 4, none⟩ (.int .i64 a4)).setCell ⟨w.heap.size + 1 + 1, 5, none⟩ (.int .i64 a5)).cell? ⟨w.heap.size, 6, none⟩ = some (v6) := by
  have m : ((((((w1.setCell ⟨w.heap.size + 1 + 1, 0, none⟩ (.int .i64 a0)).setCell ⟨w.heap.size + 1 + 1, 1, none⟩ (.int .i64 a1)).setCell ⟨w.heap.size + 1 + 1, 2, none⟩ (.slice ua2 x2.length uc2)).setCell ⟨w.heap.size + 1 + 1, 3, none⟩ (.slice ua3 x3.length uc3)).setCell ⟨w.heap.size + 1 + 1, 4, none⟩ (.int .i64 a4)).setCell ⟨w.heap.size + 1 + 1, 5, none⟩ (.int .i64 a5)).heap[w.heap.size]? = some (.cells #[.int .i64 a0, .int .i64 a1, v2, v3, .int .i64 a4, .int .i64 a5, v6] 145 (0, 0)) := by
   repeat rw [heap_setCell_other _ _ _ _ (by simp <;> omega)]
   exact g0
  exact (cell_of_row _ _ 6 _ _ _ m).trans rfl
 go_wp2_with fail
 clear c2_0 f2_0 c2_1 f2_1 c2_2 f2_2 c2_3 f2_3 c2_4 f2_4 c2_5 f2_5 ne1 ne2 ne3 c0_4 c0_5 c0_6 l0_4 l0_5 l0_6
 have hw := ts6 w1 (w.heap.size + 1 + 1) (.int .i64 a0) (.int .i64 a1) (.slice ua2 x2.length uc2) (.slice ua3 x3.length uc3) (.int .i64 a4) (.int .i64 a5)
 replace g0 := (hw.block _ (by omega) (by omega)).trans g0
 replace g1 := (hw.block _ (by omega) (by omega)).trans g1
 have g2n := (heap_setCell_same _ (w.heap.size + 1 + 1) 5 _ _ (.int .i64 a5) (heap_setCell_same _ (w.heap.size + 1 + 1) 4 _ _ (.int .i64 a4) (heap_setCell_same _ (w.heap.size + 1 + 1) 3 _ _ (.slice ua3 x3.length uc3) (heap_setCell_same _ (w.heap.size + 1 + 1) 2 _ _ (.slice ua2 x2.length uc2) (heap_setCell_same _ (w.heap.size + 1 + 1) 1 _ _ (.int .i64 a1) (heap_setCell_same _ (w.heap.size + 1 + 1) 0 _ _ (.int .i64 a0) g2))))))
 replace g2 : ((((((w1.setCell ⟨w.heap.size + 1 + 1, 0, none⟩ (.int .i64 a0)).setCell ⟨w.heap.size + 1 + 1, 1, none⟩ (.int .i64 a1)).setCell ⟨w.heap.size + 1 + 1, 2, none⟩ (.slice ua2 x2.length uc2)).setCell ⟨w.heap.size + 1 + 1, 3, none⟩ (.slice ua3 x3.length uc3)).setCell ⟨w.heap.size + 1 + 1, 4, none⟩ (.int .i64 a4)).setCell ⟨w.heap.size + 1 + 1, 5, none⟩ (.int .i64 a5)).heap[w.heap.size + 1 + 1]? = some (.cells #[.int .i64 a0, .int .i64 a1, .slice ua2 x2.length uc2, .slice ua3 x3.length uc3, .int .i64 a4, .int .i64 a5, .slice none 0 0] 54 (0, 0)) := by simpa using g2n
 clear g2n
 replace o2 := slO_turn tCond_law o2 hw (fun b h1 h2 => by first | (have := h1.1; omega) | (have := q2 b h1; omega))
 replace o3 := slO_turn tInt_law o3 hw (fun b h1 h2 => by first | (have := h1.1; omega) | (have := q3 b h1; omega))
 replace hb := below_turn hb hw (fun b h => by omega) (by omega)
 have hz0 := hw.size
 clear hw
 generalize ((((((w1.setCell ⟨w.heap.size + 1 + 1, 0, none⟩ (.int .i64 a0)).setCell ⟨w.heap.size + 1 + 1, 1, none⟩ (.int .i64 a1)).setCell ⟨w.heap.size + 1 + 1, 2, none⟩ (.slice ua2 x2.length uc2)).setCell ⟨w.heap.size + 1 + 1, 3, none⟩ (.slice ua3 x3.length uc3)).setCell ⟨w.heap.size + 1 + 1, 4, none⟩ (.int .i64 a4)).setCell ⟨w.heap.size + 1 + 1, 5, none⟩ (.int .i64 a5)) = W1 at *
 refine (toRowS_S v6 x6 W1 (slR_below tRow_law H6.out hb) S6.out).mono ?_
 rintro e w2 ⟨u6, rfl, o6, b1⟩
 obtain ⟨ua6, uc6, rfl⟩ := slO_len o6
 replace o6 := slO_mono (slO_lt tRow_law o6) (F' := fun b => W1.heap.size ≤ b ∧ b < w2.heap.size) (fun b h => h)
 replace g0 := (b1.block _ (by omega)).trans g0
 replace g1 := (b1.block _ (by omega)).trans g1
 replace g2 := (b1.block _ (by omega)).trans g2
 replace o2 := slO_fresh tCond_law o2 b1
 replace o3 := slO_fresh tInt_law o3 b1
 have zz2 := b1.size
 replace hb := hb.trans (b1.mono (by omega))
 clear b1
 have c2_0 := cr 0 (Value.int .i64 a0) g2
 have f2_0 := frozen_of_row w2 _ 0 _ _ g2
 have c2_1 := cr 1 (Value.int .i64 a1) g2
 have f2_1 := frozen_of_row w2 _ 1 _ _ g2
 have c2_2 := cr 2 (Value.slice ua2 x2.length uc2) g2
 have f2_2 := frozen_of_row w2 _ 2 _ _ g2
 have c2_3 := cr 3 (Value.slice ua3 x3.length uc3) g2
 have f2_3 := frozen_of_row w2 _ 3 _ _ g2
 have c2_4 := cr 4 (Value.int .i64 a4) g2
 have f2_4 := frozen_of_row w2 _ 4 _ _ g2
 have c2_5 := cr 5 (Value.int .i64 a5) g2
 have f2_5 := frozen_of_row w2 _ 5 _ _ g2
 have c2_6 := cr 6 (Value.slice none 0 0) g2
 have f2_6 := frozen_of_row w2 _ 6 _ _ g2
 have ne1 : ¬ w.heap.size = w.heap.size + 1 + 1 := by omega
 have ne2 : ¬ w.heap.size + 1 = w.heap.size + 1 + 1 := by omega
 have ne3 : ¬ w.heap.size + 1 + 1 = w.heap.size + 1 := by omega
 have c1_0 := cr 0 (Value.int .i64 0) g1
 have f1_0 := frozen_of_row w2 _ 0 _ _ g1
 have c1_1 := cr 1 (Value.int .i64 0) g1
 have f1_1 := frozen_of_row w2 _ 1 _ _ g1
 have c1_2 := cr 2 (Value.slice none 0 0) g1
 have f1_2 := frozen_of_row w2 _ 2 _ _ g1
 have c1_3 := cr 3 (Value.slice none 0 0) g1
 have f1_3 := frozen_of_row w2 _ 3 _ _ g1
 have c1_4 := cr 4 (Value.int .i64 0) g1
 have f1_4 := frozen_of_row w2 _ 4 _ _ g1
 have c1_5 := cr 5 (Value.int .i64 0) g1
 have f1_5 := frozen_of_row w2 _ 5 _ _ g1
 have c1_6 := cr 6 (Value.slice none 0 0) g1
 have f1_6 := frozen_of_row w2 _ 6 _ _ g1
 go_wp2
 clear c2_0 f2_0 c2_1 f2_1 c2_2 f2_2 c2_3 f2_3 c2_4 f2_4 c2_5 f2_5 c2_6 f2_6 ne1 ne2 ne3 c1_0 f1_0 c1_1 f1_1 c1_2 f1_2 c1_3 f1_3 c1_4 f1_4 c1_5 f1_5 c1_6 f1_6
 have hw : Turn (fun b => b = w.heap.size + 1 ∨ b = w.heap.size + 1 + 1) w2 ((((((((w2.setCell ⟨w.heap.size + 1 + 1, 6, none⟩ (.slice ua6 x6.length uc6)).setCell ⟨w.heap.size + 1, 0, none⟩ (.int .i64 a0)).setCell ⟨w.heap.size + 1, 1, none⟩ (.int .i64 a1)).setCell ⟨w.heap.size + 1, 2, none⟩ (.slice ua2 x2.length uc2)).setCell ⟨w.heap.size + 1, 3, none⟩ (.slice ua3 x3.length uc3)).setCell ⟨w.heap.size + 1, 4, none⟩ (.int .i64 a4)).setCell ⟨w.heap.size + 1, 5, none⟩ (.int .i64 a5)).setCell ⟨w.heap.size + 1, 6, none⟩ (.slice ua6 x6.length uc6)) := by
  first | exact (((((((((Turn.refl _ _).trans (turn_set (g := w.heap.size + 1 + 1) (j := 6) (u := .slice ua6 x6.length uc6) (Or.inr rfl))).trans (turn_set (g := w.heap.size + 1) (j := 0) (u := .int .i64 a0) (Or.inl rfl))).trans (turn_set (g := w.heap.size + 1) (j := 1) (u := .int .i64 a1) (Or.inl rfl))).trans (turn_set (g := w.heap.size + 1) (j := 2) (u := .slice ua2 x2.length uc2) (Or.inl rfl))).trans (turn_set (g := w.heap.size + 1) (j := 3) (u := .slice ua3 x3.length uc3) (Or.inl rfl))).trans (turn_set (g := w.heap.size + 1) (j := 4) (u := .int .i64 a4) (Or.inl rfl))).trans (turn_set (g := w.heap.size + 1) (j := 5) (u := .int .i64 a5) (Or.inl rfl))).trans (turn_set (g := w.heap.size + 1) (j := 6) (u := .slice ua6 x6.length uc6) (Or.inl rfl))) | skip
 have r := (heap_setCell_same _ (w.heap.size + 1) 6 _ _ (.slice ua6 x6.length uc6) (heap_setCell_same _ (w.heap.size + 1) 5 _ _ (.int .i64 a5) (heap_setCell_same _ (w.heap.size + 1) 4 _ _ (.int .i64 a4) (heap_setCell_same _ (w.heap.size + 1) 3 _ _ (.slice ua3 x3.length uc3) (heap_setCell_same _ (w.heap.size + 1) 2 _ _ (.slice ua2 x2.length uc2) (heap_setCell_same _ (w.heap.size + 1) 1 _ _ (.int .i64 a1) (heap_setCell_same _ (w.heap.size + 1) 0 _ _ (.int .i64 a0) ((heap_setCell_other _ ⟨w.heap.size + 1 + 1, 6, none⟩ (w.heap.size + 1) (.slice ua6 x6.length uc6) (by simp)).trans g1))))))))
 have e0 := cell_of_row _ _ 0 _ _ _ r
 have e1 := cell_of_row _ _ 1 _ _ _ r
 have e2 := cell_of_row _ _ 2 _ _ _ r
 have e3 := cell_of_row _ _ 3 _ _ _ r
 have e4 := cell_of_row _ _ 4 _ _ _ r
 have e5 := cell_of_row _ _ 5 _ _ _ r
 have e6 := cell_of_row _ _ 6 _ _ _ r
 simp at e0 e1 e2 e3 e4 e5 e6
 replace o2 := slO_turn tCond_law o2 hw (fun b h1 h2 => by first | (have := h1.1; omega) | (have := q2 b h1; omega))
 replace o3 := slO_turn tInt_law o3 hw (fun b h1 h2 => by first | (have := h1.1; omega) | (have := q3 b h1; omega))
 replace o6 := slO_turn tRow_law o6 hw (fun b h1 h2 => by first | (have := h1.1; omega) | (have := q6 b h1; omega))
 replace hb := below_turn hb hw (fun b h => by omega) (by omega)
 refine bodyPost_ret (v := .agg #[.int .i64 a0, .int .i64 a1, .slice ua2 x2.length uc2, .slice ua3 x3.length uc3, .int .i64 a4, .int .i64 a5, .slice ua6 x6.length uc6]) ?_ rfl ?_
 ·
  simp [results, Tryz.f120, go_sem, e0, e1, e2, e3, e4, e5, e6]
 ·
  exact ⟨[.int .i64 a0, .int .i64 a1, .slice ua2 x2.length uc2, .slice ua3 x3.length uc3, .int .i64 a4, .int .i64 a5, .slice ua6 x6.length uc6], rfl, tFinished_mkO o2 o3 o6 (fun b h => by show w.heap.size ≤ b; first | (have := h.1; omega) | (have := q2 b h; omega)) (fun b h => by show w.heap.size ≤ b; first | (have := h.1; omega) | (have := q3 b h; omega)) (fun b h => by show w.heap.size ≤ b; first | (have := h.1; omega) | (have := q6 b h; omega)) (fun b h1 h2 => by first | exact d2_3 b h1 h2 | (have := h1.1; have := h1.2; have := h2.1; have := h2.2; omega) | (have := q2 b h1; have := h2.1; have := h2.2; omega) | (have := h1.1; have := h1.2; have := q3 b h2; omega) | (have := q2 b h1; have := q3 b h2; omega)) (fun b h1 h2 => by first | exact d2_6 b h1 h2 | (have := h1.1; have := h1.2; have := h2.1; have := h2.2; omega) | (have := q2 b h1; have := h2.1; have := h2.2; omega) | (have := h1.1; have := h1.2; have := q6 b h2; omega) | (have := q2 b h1; have := q6 b h2; omega)) (fun b h1 h2 => by first | exact d3_6 b h1 h2 | (have := h1.1; have := h1.2; have := h2.1; have := h2.2; omega) | (have := q3 b h1; have := h2.1; have := h2.2; omega) | (have := h1.1; have := h1.2; have := q6 b h2; omega) | (have := q3 b h1; have := q6 b h2; omega)), hb⟩
set_option maxHeartbeats 8000000 in
theorem eqFinished_T (a0 a1 a4 a5 : Int) (v2 v3 v6 : Value) (x2 : List (Int × Int × Int)) (x3 : List Int) (x6 : List (Int × List Int)) (u2 u3 u6 : Value) (w : World) (h2 : SlR tCond w v2 x2) (h3 : SlR tInt w v3 x3) (h6 : SlR tRow w v6 x6) (g2 : SlR tCond w u2 x2) (g3 : SlR tInt w u3 x3) (g6 : SlR tRow w u6 x6) (s2 : zL tCond x2 ≤ 1048576) (s3 : zL tInt x3 ≤ 1048576) (s6 : zL tRow x6 ≤ 1048576) :
  Calls Tryz.prog 25 #[.agg #[.int .i64 a0, .int .i64 a1, v2, v3, .int .i64 a4, .int .i64 a5, v6], .agg #[.int .i64 a0, .int .i64 a1, u2, u3, .int .i64 a4, .int .i64 a5, u6]] w fun e w' => e = .returned (.bool true) ∧ Below w.heap.size w w' := by
 have H2 := hd h2; have G2 := hd g2; have S2 := hd s2
 have H3 := hd h3; have G3 := hd g3; have S3 := hd s3
 have H6 := hd h6; have G6 := hd g6; have S6 := hd s6
 clear h2 g2 s2 h3 g3 s3 h6 g6 s6
 have e0 : (a0 != a0) = false := by simp
 have e1 : (a1 != a1) = false := by simp
 have e4 : (a4 != a4) = false := by simp
 have e5 : (a5 != a5) = false := by simp
 go_enter Tryz.func25, Tryz.ntmps25
 go_wp2_with fail
 have hb : Below w.heap.size w ((w.alloc (.cells #[.int .i64 a0, .int .i64 a1, v2, v3, .int .i64 a4, .int .i64 a5, v6] 54)).alloc (.cells #[.int .i64 a0, .int .i64 a1, u2, u3, .int .i64 a4, .int .i64 a5, u6] 54)) := ((Below.refl _ w).alloc (Nat.le_refl _) _).alloc (by simp) _
 have g1 : ((w.alloc (.cells #[.int .i64 a0, .int .i64 a1, v2, v3, .int .i64 a4, .int .i64 a5, v6] 54)).alloc (.cells #[.int .i64 a0, .int .i64 a1, u2, u3, .int .i64 a4, .int .i64 a5, u6] 54)).heap[w.heap.size + 1]? = some (.cells #[.int .i64 a0, .int .i64 a1, u2, u3, .int .i64 a4, .int .i64 a5, u6] 54 (0, 0)) := by
  have := heap_alloc_new (w.alloc (.cells #[.int .i64 a0, .int .i64 a1, v2, v3, .int .i64 a4, .int .i64 a5, v6] 54)) (.cells #[.int .i64 a0, .int .i64 a1, u2, u3, .int .i64 a4, .int .i64 a5, u6] 54)
  simpa only [World.size_alloc] using this
 have g0 : ((w.alloc (.cells #[.int .i64 a0, .int .i64 a1, v2, v3, .int .i64 a4, .int .i64 a5, v6] 54)).alloc (.cells #[.int .i64 a0, .int .i64 a1, u2, u3, .int .i64 a4, .int .i64 a5, u6] 54)).heap[w.heap.size]? = some (.cells #[.int .i64 a0, .int .i64 a1, v2, v3, .int .i64 a4, .int .i64 a5, v6] 54 (0, 0)) := by
  rw [Below.heap_alloc _ _ _ (by simp)]
  exact heap_alloc_new w _
 have hz : w.heap.size + 1 < ((w.alloc (.cells #[.int .i64 a0, .int .i64 a1, v2, v3, .int .i64 a4, .int .i64 a5, v6] 54)).alloc (.cells #[.int .i64 a0, .int .i64 a1, u2, u3, .int .i64 a4, .int .i64 a5, u6] 54)).heap.size := by simp [World.size_alloc]
 generalize ((w.alloc (.cells #[.int .i64 a0, .int .i64 a1, v2, v3, .int .i64 a4, .int .i64 a5, v6] 54)).alloc (.cells #[.int .i64 a0, .int .i64 a1, u2, u3, .int .i64 a4, .int .i64 a5, u6] 54)) = W at *
 refine (eqQuery_T a0 a1 v2 v3 x2 x3 u2 u3 W (slR_below tCond_law H2.out hb) (slR_below tInt_law H3.out hb) (slR_below tCond_law G2.out hb) (slR_below tInt_law G3.out hb) S2.out S3.out).mono ?_
 rintro e w1 ⟨rfl, b1⟩
 replace g0 := (b1.block _ (by omega)).trans g0
 replace g1 := (b1.block _ (by omega)).trans g1
 have zz0 := b1.size
 replace hb := hb.trans (b1.mono (by omega))
 clear b1
 have p0_4 := cr 4 (Value.int .i64 a4) g0
 have p1_4 := cr 4 (Value.int .i64 a4) g1
 have p0_5 := cr 5 (Value.int .i64 a5) g0
 have p1_5 := cr 5 (Value.int .i64 a5) g1
 have p0_6 := cr 6 (v6) g0
 have p1_6 := cr 6 (u6) g1
 go_wp2_with fail
 clear p0_4 p1_4 p0_5 p1_5 p0_6 p1_6
 refine (eqRowS_S v6 u6 x6 w1 (slR_below tRow_law H6.out hb) (slR_below tRow_law G6.out hb) S6.out).mono ?_
 rintro e w2 ⟨rfl, b1⟩
 replace g0 := (b1.block _ (by omega)).trans g0
 replace g1 := (b1.block _ (by omega)).trans g1
 have zz1 := b1.size
 replace hb := hb.trans (b1.mono (by omega))
 clear b1
 go_wp2
 go_ret
 exact ⟨rfl, hb⟩
end Go.Proofs.YtogbgeekmdnhlaaGreatDoor
