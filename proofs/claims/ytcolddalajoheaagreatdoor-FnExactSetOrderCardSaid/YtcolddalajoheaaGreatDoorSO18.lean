/-
 Texts of the proof, merged: LawSetOrder.
-/
import Derived.Test.YtcolddalajoheaaGreatDoorSO1
import Derived.Test.YtcolddalajoheaaGreatDoorSO3
import Derived.Test.YtcolddalajoheaaGreatDoorSO6
namespace Go.Proofs.YtcolddalajoheaaGreatDoor
open Go.RowKit
open Go renaming heap_alloc_new → Uw
open Go.World renaming size_alloc → Ux
open Nat renaming le_refl → Ed
open Go.RowKit.Below renaming refl → Eh
set_option linter.unusedVariables false
set_option linter.unusedSimpArgs false
set_option maxHeartbeats 32000000 in
set_option maxRecDepth 100000 in
theorem law_fnExactSetOrder (a0_1 a0_2 a0_7 : Int) (v0_0 v0_3 v0_4 v0_5 v0_6 : Value) (x0_0 : List (List (Int × List Int × Int × Int))) (x0_3 : List Int) (x0_4 : List ((Int × Int × List (Int × Int × Int) × List Int) × Int × List Int × Int × Int × Int × List (Int × List Int))) (x0_5 : List ((Int × Int × List (Int × Int × Int) × List Int) × Int × Int × List (Int × List Int))) (x0_6 : List (Int × Int × List Int × List Int × List Int)) (v1_0 : Value) (x1_0 : List Int) (r0 : (List (List (Int × List Int × Int × Int)) × Int) × Int × List Int × List ((Int × Int × List (Int × Int × Int) × List Int) × Int × List Int × Int × Int × Int × List (Int × List Int)) × List ((Int × Int × List (Int × Int × Int) × List Int) × Int × Int × List (Int × List Int)) × List (Int × Int × List Int × List Int × List Int) × Int) (r1 : Bool) (w : World) (h0_0 : Kc Je w v0_0 x0_0) (h0_3 : Kc Jf w v0_3 x0_3) (h0_4 : Kc Jm w v0_4 x0_4) (h0_5 : Kc Jk w v0_5 x0_5) (h0_6 : Kc Jp w v0_6 x0_6) (h1_0 : Kc Jf w v1_0 x1_0) (o0_0 : Ud.ok x0_0) (o0_3 : tIntES.ok x0_3) (o0_4 : tActiveS.ok x0_4) (o0_5 : tFinishedS.ok x0_5) (o0_6 : tChargeS.ok x0_6) (o1_0 : Un.ok x1_0) (z0 : Yj.sz r0 ≤ 1048576)
  (hspec : ∀ (v0_0 v0_3 v0_4 v0_5 v0_6 v1_0 : Value) (w : World), Kc Je w v0_0 x0_0 → Kc Jf w v0_3 x0_3 → Kc Jm w v0_4 x0_4 → Kc Jk w v0_5 x0_5 → Kc Jp w v0_6 x0_6 → Kc Jf w v1_0 x1_0 → zL Je x0_0 + zL Jf x0_3 + zL Jm x0_4 + zL Jk x0_5 + zL Jp x0_6 ≤ 1048576 → x1_0.length ≤ 1048576 → Calls Tryz.prog 26 #[.agg #[v0_0, a0_1, a0_2, v0_3, v0_4, v0_5, v0_6, a0_7], v1_0] w (fun e w' => ∃ (g0 : List Value) (G0 : Nat → Prop), e = .returned (.tuple #[.agg g0.toArray, .bool r1]) ∧ Yj.O w' G0 g0 r0 ∧ (∀ b, G0 b → w.heap.size ≤ b) ∧ Below w w w'))
  (himpl : ∀ (v0_0 v0_3 v0_4 v0_5 v0_6 v1_0 : Value) (u : World), Below w w u → Kc Je u v0_0 x0_0 → Kc Jf u v0_3 x0_3 → Kc Jm u v0_4 x0_4 → Kc Jk u v0_5 x0_5 → Kc Jp u v0_6 x0_6 → Kc Jf u v1_0 x1_0 → zL Je x0_0 + zL Jf x0_3 + zL Jm x0_4 + zL Jk x0_5 + zL Jp x0_6 ≤ 1048576 → x1_0.length ≤ 1048576 → Calls Tryz.prog 28 #[.agg #[v0_0, a0_1, a0_2, v0_3, v0_4, v0_5, v0_6, a0_7], v1_0] u (fun e w' => ∃ (g0 : List Value) (G0 : Nat → Prop), e = .returned (.tuple #[.agg g0.toArray, .bool r1]) ∧ Yj.O w' G0 g0 r0 ∧ (∀ b, G0 b → u.heap.size ≤ b) ∧ Below u u w')) :
  Calls Tryz.prog 6 #[.agg #[v0_0, a0_1, a0_2, v0_3, v0_4, v0_5, v0_6, a0_7], v1_0] w fun e w' => e = .returned (.bool true) ∧ Below w w w' := by
 obtain ⟨c0_0, k0_0, rfl⟩ := Jo h0_0
 obtain ⟨c0_3, k0_3, rfl⟩ := Jo h0_3
 obtain ⟨c0_4, k0_4, rfl⟩ := Jo h0_4
 obtain ⟨c0_5, k0_5, rfl⟩ := Jo h0_5
 obtain ⟨c0_6, k0_6, rfl⟩ := Jo h0_6
 obtain ⟨c1_0, k1_0, rfl⟩ := Jo h1_0
 have HB0 : Hid (Below w w (w.alloc (.cells #[.slice c0_0 x0_0.length k0_0, a0_1, a0_2, .slice c0_3 x0_3.length k0_3, .slice c0_4 x0_4.length k0_4, .slice c0_5 x0_5.length k0_5, .slice c0_6 x0_6.length k0_6, a0_7] 30))) := hd ((Eh _ w).alloc (Ed _) _)
 have B0 : Hid ((w.alloc (.cells #[.slice c0_0 x0_0.length k0_0, a0_1, a0_2, .slice c0_3 x0_3.length k0_3, .slice c0_4 x0_4.length k0_4, .slice c0_5 x0_5.length k0_5, .slice c0_6 x0_6.length k0_6, a0_7] 30)).heap[w.heap.size]? = some (.cells #[.slice c0_0 x0_0.length k0_0, a0_1, a0_2, .slice c0_3 x0_3.length k0_3, .slice c0_4 x0_4.length k0_4, .slice c0_5 x0_5.length k0_5, .slice c0_6 x0_6.length k0_6, a0_7] 30 (0, 0))) := hd (by have := Uw w (.cells #[.slice c0_0 x0_0.length k0_0, a0_1, a0_2, .slice c0_3 x0_3.length k0_3, .slice c0_4 x0_4.length k0_4, .slice c0_5 x0_5.length k0_5, .slice c0_6 x0_6.length k0_6, a0_7] 30); simpa only [Ux] using this)
 have A0_0 : Hid (Kc Je (w.alloc (.cells #[.slice c0_0 x0_0.length k0_0, a0_1, a0_2, .slice c0_3 x0_3.length k0_3, .slice c0_4 x0_4.length k0_4, .slice c0_5 x0_5.length k0_5, .slice c0_6 x0_6.length k0_6, a0_7] 30)) (.slice c0_0 x0_0.length k0_0) x0_0) := hd (Jc Jd h0_0 HB0.out)
 have A0_3 : Hid (Kc Jf (w.alloc (.cells #[.slice c0_0 x0_0.length k0_0, a0_1, a0_2, .slice c0_3 x0_3.length k0_3, .slice c0_4 x0_4.length k0_4, .slice c0_5 x0_5.length k0_5, .slice c0_6 x0_6.length k0_6, a0_7] 30)) (.slice c0_3 x0_3.length k0_3) x0_3) := hd (Jc Jb h0_3 HB0.out)
 have A0_4 : Hid (Kc Jm (w.alloc (.cells #[.slice c0_0 x0_0.length k0_0, a0_1, a0_2, .slice c0_3 x0_3.length k0_3, .slice c0_4 x0_4.length k0_4, .slice c0_5 x0_5.length k0_5, .slice c0_6 x0_6.length k0_6, a0_7] 30)) (.slice c0_4 x0_4.length k0_4) x0_4) := hd (Jc Ji h0_4 HB0.out)
 have A0_5 : Hid (Kc Jk (w.alloc (.cells #[.slice c0_0 x0_0.length k0_0, a0_1, a0_2, .slice c0_3 x0_3.length k0_3, .slice c0_4 x0_4.length k0_4, .slice c0_5 x0_5.length k0_5, .slice c0_6 x0_6.length k0_6, a0_7] 30)) (.slice c0_5 x0_5.length k0_5) x0_5) := hd (Jc Jg h0_5 HB0.out)
 have A0_6 : Hid (Kc Jp (w.alloc (.cells #[.slice c0_0 x0_0.length k0_0, a0_1, a0_2, .slice c0_3 x0_3.length k0_3, .slice c0_4 x0_4.length k0_4, .slice c0_5 x0_5.length k0_5, .slice c0_6 x0_6.length k0_6, a0_7] 30)) (.slice c0_6 x0_6.length k0_6) x0_6) := hd (Jc Jj h0_6 HB0.out)
 have A1_0 : Hid (Kc Jf (w.alloc (.cells #[.slice c0_0 x0_0.length k0_0, a0_1, a0_2, .slice c0_3 x0_3.length k0_3, .slice c0_4 x0_4.length k0_4, .slice c0_5 x0_5.length k0_5, .slice c0_6 x0_6.length k0_6, a0_7] 30)) (.slice c1_0 x1_0.length k1_0) x1_0) := hd (Jc Jb h1_0 HB0.out)
 have O0_0 := hd o0_0
 have O0_3 := hd o0_3
 have O0_4 := hd o0_4
 have O0_5 := hd o0_5
 have O0_6 := hd o0_6
 have O1_0 := hd o1_0
 clear h0_0 o0_0 h0_3 o0_3 h0_4 o0_4 h0_5 o0_5 h0_6 o0_6 h1_0 o1_0
 have HSP := hd hspec
 have HIM := hd himpl
 clear hspec himpl
 have Z0 := hd z0
 clear z0
 by_cases c0 : x1_0.length ≤ 1048576
 ·
  by_cases c1 : ((zL Je x0_0 + zL Jf x0_3 + zL Jm x0_4 + zL Jk x0_5 + zL Jp x0_6 : Nat) : Int) ≤ (1048576 : Int)
  ·
   have HZ0 : Hid (((zL Je x0_0 + zL Jf x0_3 + zL Jm x0_4 + zL Jk x0_5 + zL Jp x0_6 : Nat) : Int) ≤ (1048576 : Int)) := hd c1
   have HK0 : Hid ((1048576 : Int) ≤ 1048576) := hd (by omega)
   have hn0 : ¬ (1048576 : Int) - ((zL Je x0_0 + zL Jf x0_3 + zL Jm x0_4 + zL Jk x0_5 + zL Jp x0_6 : Nat) : Int) < 0 := by omega
   have hl1 : ¬ (1048576 : Int) < (x1_0.length : Int) := by omega
   have HL1 := hd c0
   have HT : Hid (zL Je x0_0 + zL Jf x0_3 + zL Jm x0_4 + zL Jk x0_5 + zL Jp x0_6 ≤ 1048576) := hd (by omega)
   have S0_0 : Hid (zL Je x0_0 ≤ 1048576) := hd (by omega)
   have S0_3 : Hid (zL Jf x0_3 ≤ 1048576) := hd (by omega)
   have S0_4 : Hid (zL Jm x0_4 ≤ 1048576) := hd (by omega)
   have S0_5 : Hid (zL Jk x0_5 ≤ 1048576) := hd (by omega)
   have S0_6 : Hid (zL Jp x0_6 ≤ 1048576) := hd (by omega)
   have S1_0 : Hid (zL Jf x1_0 ≤ 1048576) := hd (by rw [zL_ints]; exact HL1.out)
   have N0_0 := Ko Jd (by decide) x0_0
   have N0_3 := Ko Jb (by decide) x0_3
   have N0_4 := Ko Ji (by decide) x0_4
   have N0_5 := Ko Jg (by decide) x0_5
   have N0_6 := Ko Jj (by decide) x0_6
   have N1_0 := Ko Jb (by decide) x1_0
   have M0 : Hid (0 ≤ (1 : Int) ∧ (1 : Int) ≤ 134217728) := hd (by have := HT.out; have := S1_0.out; omega)
   have M1 : Hid (0 ≤ (1 + (Jt Je x0_0 : Int) + (Jt Jf x0_3 : Int) + (Jt Jm x0_4 : Int) + (Jt Jk x0_5 : Int) + (Jt Jp x0_6 : Int) : Int) ∧ (1 + (Jt Je x0_0 : Int) + (Jt Jf x0_3 : Int) + (Jt Jm x0_4 : Int) + (Jt Jk x0_5 : Int) + (Jt Jp x0_6 : Int) : Int) ≤ 134217728) := hd (by have := HT.out; have := S1_0.out; omega)
   have hk : ¬ (1 + (Jt Je x0_0 : Int) + (Jt Jf x0_3 : Int) + (Jt Jm x0_4 : Int) + (Jt Jk x0_5 : Int) + (Jt Jp x0_6 : Int) + (Jt Jf x1_0 : Int) : Int) < 0 := by omega
   clear N0_0 N0_3 N0_4 N0_5 N0_6 N1_0
   have e1 : (r1 != r1) = false := by simp
   obtain ⟨⟨xr0_0, ar0_1⟩, ar0_2, xr0_3, xr0_4, xr0_5, xr0_6, ar0_7⟩ := r0
   have ZZ0 := Z0.out
   rw [tEngine_sz] at ZZ0
   have NR0_0 := Ko Jd (by decide) xr0_0
   have Z0_0 : Hid (zL Je xr0_0 ≤ 1048576) := hd (by omega)
   have NR0_3 := Ko Jb (by decide) xr0_3
   have Z0_3 : Hid (zL Jf xr0_3 ≤ 1048576) := hd (by omega)
   have NR0_4 := Ko Ji (by decide) xr0_4
   have Z0_4 : Hid (zL Jm xr0_4 ≤ 1048576) := hd (by omega)
   have NR0_5 := Ko Jg (by decide) xr0_5
   have Z0_5 : Hid (zL Jk xr0_5 ≤ 1048576) := hd (by omega)
   have NR0_6 := Ko Jj (by decide) xr0_6
   have Z0_6 : Hid (zL Jp xr0_6 ≤ 1048576) := hd (by omega)
   have MR0 : Hid (0 ≤ (1 : Int) ∧ (1 : Int) ≤ 134217728) := hd (by omega)
   have hh0 : ¬ (1 + (Jt Je xr0_0 : Int) + (Jt Jf xr0_3 : Int) + (Jt Jm xr0_4 : Int) + (Jt Jk xr0_5 : Int) + (Jt Jp xr0_6 : Int) : Int) < 0 := by omega
   have hq : ((1 + (Jt Je xr0_0 : Int) + (Jt Jf xr0_3 : Int) + (Jt Jm xr0_4 : Int) + (Jt Jk xr0_5 : Int) + (Jt Jp xr0_6 : Int) : Int) != 1 + (Jt Je xr0_0 : Int) + (Jt Jf xr0_3 : Int) + (Jt Jm xr0_4 : Int) + (Jt Jk xr0_5 : Int) + (Jt Jp xr0_6 : Int)) = false := by simp
   clear ZZ0 NR0_0 NR0_3 NR0_4 NR0_5 NR0_6
   clear c0 c1
   go_enter Tryz.func6, Tryz.ntmps6
   go_wp2_with fail
   have Y_W : Hid (w.heap.size + 1 ≤ (w.alloc (.cells #[.slice c0_0 x0_0.length k0_0, a0_1, a0_2, .slice c0_3 x0_3.length k0_3, .slice c0_4 x0_4.length k0_4, .slice c0_5 x0_5.length k0_5, .slice c0_6 x0_6.length k0_6, a0_7] 30)).heap.size) := hd (by simp [Ux])
   generalize (w.alloc (.cells #[.slice c0_0 x0_0.length k0_0, a0_1, a0_2, .slice c0_3 x0_3.length k0_3, .slice c0_4 x0_4.length k0_4, .slice c0_5 x0_5.length k0_5, .slice c0_6 x0_6.length k0_6, a0_7] 30)) = W at *
   have d := hd (Eh W.heap.size W)
   refine (szEngine_Y a0_1 a0_2 a0_7 (.slice c0_0 x0_0.length k0_0) (.slice c0_3 x0_3.length k0_3) (.slice c0_4 x0_4.length k0_4) (.slice c0_5 x0_5.length k0_5) (.slice c0_6 x0_6.length k0_6) x0_0 x0_3 x0_4 x0_5 x0_6 ((1048576 : Int)) W (Jc Jd A0_0.out d.out) (Jc Jb A0_3.out d.out) (Jc Ji A0_4.out d.out) (Jc Jg A0_5.out d.out) (Jc Jj A0_6.out d.out) HZ0.out HK0.out).mono ?_
   rintro e v1 ⟨rfl, c1⟩
   replace B0 := zb c1 B0
   replace d := zD d c1
   have Z_v1 := hd (show W.heap.size ≤ v1.heap.size from c1.size)
   clear c1
   have cp_B0_0 := Kh B0.out
   go_wp2_with fail
   clear cp_B0_0
   refine (toEngine_T a0_1 a0_2 a0_7 (.slice c0_0 x0_0.length k0_0) (.slice c0_3 x0_3.length k0_3) (.slice c0_4 x0_4.length k0_4) (.slice c0_5 x0_5.length k0_5) (.slice c0_6 x0_6.length k0_6) x0_0 x0_3 x0_4 x0_5 x0_6 v1 (Jc Jd A0_0.out d.out) (Jc Jb A0_3.out d.out) (Jc Ji A0_4.out d.out) (Jc Jg A0_5.out d.out) (Jc Jj A0_6.out d.out) S0_0.out S0_3.out S0_4.out S0_5.out S0_6.out).mono ?_
   rintro e v2 ⟨cs, rfl, ow, c2⟩
   replace B0 := zb c2 B0
   replace d := zD d c2
   have Z_v2 := hd (show v1.heap.size ≤ v2.heap.size from c2.size)
   clear c2
   replace ow := Kf.lt ow
   obtain ⟨y2_0, y2_3, y2_4, y2_5, y2_6, ety2_3, K2_0, K2_3, K2_4, K2_5, K2_6, rfl, p2_0, p2_3, p2_4, p2_5, p2_6, w2_0, w2_3, w2_4, w2_5, w2_6, d2_0_3, d2_0_4, d2_0_5, d2_0_6, d2_3_4, d2_3_5, d2_3_6, d2_4_5, d2_4_6, d2_5_6⟩ := Xv ow
   obtain ⟨ya2_0, yc2_0, rfl⟩ := Js p2_0
   have P2_0 := hd p2_0
   have Q2_0 := hd (fun b h => (show v1.heap.size ≤ b ∧ b < v2.heap.size from w2_0 b h))
   obtain ⟨ya2_3, yc2_3, rfl⟩ := Js p2_3
   have P2_3 := hd p2_3
   have Q2_3 := hd (fun b h => (show v1.heap.size ≤ b ∧ b < v2.heap.size from w2_3 b h))
   obtain ⟨ya2_4, yc2_4, rfl⟩ := Js p2_4
   have P2_4 := hd p2_4
   have Q2_4 := hd (fun b h => (show v1.heap.size ≤ b ∧ b < v2.heap.size from w2_4 b h))
   obtain ⟨ya2_5, yc2_5, rfl⟩ := Js p2_5
   have P2_5 := hd p2_5
   have Q2_5 := hd (fun b h => (show v1.heap.size ≤ b ∧ b < v2.heap.size from w2_5 b h))
   obtain ⟨ya2_6, yc2_6, rfl⟩ := Js p2_6
   have P2_6 := hd p2_6
   have Q2_6 := hd (fun b h => (show v1.heap.size ≤ b ∧ b < v2.heap.size from w2_6 b h))
   have D2_0_3 := hd d2_0_3
   clear d2_0_3
   have D2_0_4 := hd d2_0_4
   clear d2_0_4
   have D2_0_5 := hd d2_0_5
   clear d2_0_5
   have D2_0_6 := hd d2_0_6
   clear d2_0_6
   have D2_3_4 := hd d2_3_4
   clear d2_3_4
   have D2_3_5 := hd d2_3_5
   clear d2_3_5
   have D2_3_6 := hd d2_3_6
   clear d2_3_6
   have D2_4_5 := hd d2_4_5
   clear d2_4_5
   have D2_4_6 := hd d2_4_6
   clear d2_4_6
   have D2_5_6 := hd d2_5_6
   clear d2_5_6
   clear p2_0 w2_0 p2_3 w2_3 p2_4 w2_4 p2_5 w2_5 p2_6 w2_6 ow
   go_wp2_with fail
   refine (Xh (.slice c1_0 x1_0.length k1_0) x1_0 v2 (Jc Jb A1_0.out d.out) S1_0.out).mono ?_
   rintro e v3 ⟨y, rfl, o, c3⟩
   replace B0 := zb c3 B0
   replace P2_0 := zf Jd P2_0 c3
   replace P2_3 := zf Jb P2_3 c3
   replace P2_4 := zf Ji P2_4 c3
   replace P2_5 := zf Jg P2_5 c3
   replace P2_6 := zf Jj P2_6 c3
   replace d := zD d c3
   have Z_v3 := hd (show v2.heap.size ≤ v3.heap.size from c3.size)
   clear c3
   obtain ⟨ya3, yc3, rfl⟩ := Js o
   have P3 := hd (Ki Jb o)
   have Q3 := hd (fun b (h : Kg v2 b ∧ b < v3.heap.size) => (show v2.heap.size ≤ b ∧ b < v3.heap.size from h))
   clear o
   go_wp2_with fail
   refine (HSP.out (.slice ya2_0 x0_0.length yc2_0) (.slice ya2_3 x0_3.length yc2_3) (.slice ya2_4 x0_4.length yc2_4) (.slice ya2_5 x0_5.length yc2_5) (.slice ya2_6 x0_6.length yc2_6) (.slice ya3 x1_0.length yc3) v3 (Jw Jd P2_0.out) (Jw Jb P2_3.out) (Jw Ji P2_4.out) (Jw Jg P2_5.out) (Jw Jj P2_6.out) (Jw Jb P3.out) HT.out HL1.out).mono ?_
   rintro e v4 ⟨g0, G0, rfl, o0, q0, c4⟩
   replace B0 := zb c4 B0
   replace P2_0 := zf Jd P2_0 c4
   replace P2_3 := zf Jb P2_3 c4
   replace P2_4 := zf Ji P2_4 c4
   replace P2_5 := zf Jg P2_5 c4
   replace P2_6 := zf Jj P2_6 c4
   replace P3 := zf Jb P3 c4
   replace d := zD d c4
   have Z_v4 := hd (show v3.heap.size ≤ v4.heap.size from c4.size)
   clear c4
   replace o0 := Kf.lt o0
   obtain ⟨y4_0, y4_3, y4_4, y4_5, y4_6, ety4_3, K4_0, K4_3, K4_4, K4_5, K4_6, rfl, p4_0, p4_3, p4_4, p4_5, p4_6, w4_0, w4_3, w4_4, w4_5, w4_6, d4_0_3, d4_0_4, d4_0_5, d4_0_6, d4_3_4, d4_3_5, d4_3_6, d4_4_5, d4_4_6, d4_5_6⟩ := Xv o0
   obtain ⟨ya4_0, yc4_0, rfl⟩ := Js p4_0
   have P4_0 := hd p4_0
   have Q4_0 := hd (fun b h => (show v3.heap.size ≤ b ∧ b < v4.heap.size from ⟨q0 b (w4_0 b h).1, (w4_0 b h).2⟩))
   obtain ⟨ya4_3, yc4_3, rfl⟩ := Js p4_3
   have P4_3 := hd p4_3
   have Q4_3 := hd (fun b h => (show v3.heap.size ≤ b ∧ b < v4.heap.size from ⟨q0 b (w4_3 b h).1, (w4_3 b h).2⟩))
   obtain ⟨ya4_4, yc4_4, rfl⟩ := Js p4_4
   have P4_4 := hd p4_4
   have Q4_4 := hd (fun b h => (show v3.heap.size ≤ b ∧ b < v4.heap.size from ⟨q0 b (w4_4 b h).1, (w4_4 b h).2⟩))
   obtain ⟨ya4_5, yc4_5, rfl⟩ := Js p4_5
   have P4_5 := hd p4_5
   have Q4_5 := hd (fun b h => (show v3.heap.size ≤ b ∧ b < v4.heap.size from ⟨q0 b (w4_5 b h).1, (w4_5 b h).2⟩))
   obtain ⟨ya4_6, yc4_6, rfl⟩ := Js p4_6
   have P4_6 := hd p4_6
   have Q4_6 := hd (fun b h => (show v3.heap.size ≤ b ∧ b < v4.heap.size from ⟨q0 b (w4_6 b h).1, (w4_6 b h).2⟩))
   have D4_0_3 := hd d4_0_3
   clear d4_0_3
   have D4_0_4 := hd d4_0_4
   clear d4_0_4
   have D4_0_5 := hd d4_0_5
   clear d4_0_5
   have D4_0_6 := hd d4_0_6
   clear d4_0_6
   have D4_3_4 := hd d4_3_4
   clear d4_3_4
   have D4_3_5 := hd d4_3_5
   clear d4_3_5
   have D4_3_6 := hd d4_3_6
   clear d4_3_6
   have D4_4_5 := hd d4_4_5
   clear d4_4_5
   have D4_4_6 := hd d4_4_6
   clear d4_4_6
   have D4_5_6 := hd d4_5_6
   clear d4_5_6
   clear p4_0 w4_0 p4_3 w4_3 p4_4 w4_4 p4_5 w4_5 p4_6 w4_6 o0 q0
   have hal : Below v4 v4 (v4.alloc (.cells #[.slice ya4_0 xr0_0.length yc4_0, ar0_1, ar0_2, .slice ya4_3 xr0_3.length yc4_3, .slice ya4_4 xr0_4.length yc4_4, .slice ya4_5 xr0_5.length yc4_5, .slice ya4_6 xr0_6.length yc4_6, ar0_7] 43)) := (Eh _ _).alloc (Ed _) _
   have X1 := hd (Uw v4 (.cells #[.slice ya4_0 xr0_0.length yc4_0, ar0_1, ar0_2, .slice ya4_3 xr0_3.length yc4_3, .slice ya4_4 xr0_4.length yc4_4, .slice ya4_5 xr0_5.length yc4_5, .slice ya4_6 xr0_6.length yc4_6, ar0_7] 43))
   have Y_X1 := hd (show v4.heap.size < (v4.alloc (.cells #[.slice ya4_0 xr0_0.length yc4_0, ar0_1, ar0_2, .slice ya4_3 xr0_3.length yc4_3, .slice ya4_4 xr0_4.length yc4_4, .slice ya4_5 xr0_5.length yc4_5, .slice ya4_6 xr0_6.length yc4_6, ar0_7] 43)).heap.size by simp [Ux])
   replace B0 := zb hal B0
   replace P2_0 := zf Jd P2_0 hal
   replace P2_3 := zf Jb P2_3 hal
   replace P2_4 := zf Ji P2_4 hal
   replace P2_5 := zf Jg P2_5 hal
   replace P2_6 := zf Jj P2_6 hal
   replace P3 := zf Jb P3 hal
   replace P4_0 := zf Jd P4_0 hal
   replace P4_3 := zf Jb P4_3 hal
   replace P4_4 := zf Ji P4_4 hal
   replace P4_5 := zf Jg P4_5 hal
   replace P4_6 := zf Jj P4_6 hal
   replace d := zD d hal
   clear hal
   have cp_B0_0 := Kh B0.out
   go_wp2_with fail
   clear cp_B0_0
   generalize (v4.alloc (.cells #[.slice ya4_0 xr0_0.length yc4_0, ar0_1, ar0_2, .slice ya4_3 xr0_3.length yc4_3, .slice ya4_4 xr0_4.length yc4_4, .slice ya4_5 xr0_5.length yc4_5, .slice ya4_6 xr0_6.length yc4_6, ar0_7] 43)) = u5 at *
   refine (toEngine_T a0_1 a0_2 a0_7 (.slice c0_0 x0_0.length k0_0) (.slice c0_3 x0_3.length k0_3) (.slice c0_4 x0_4.length k0_4) (.slice c0_5 x0_5.length k0_5) (.slice c0_6 x0_6.length k0_6) x0_0 x0_3 x0_4 x0_5 x0_6 u5 (Jc Jd A0_0.out d.out) (Jc Jb A0_3.out d.out) (Jc Ji A0_4.out d.out) (Jc Jg A0_5.out d.out) (Jc Jj A0_6.out d.out) S0_0.out S0_3.out S0_4.out S0_5.out S0_6.out).mono ?_
   rintro e v6 ⟨cs, rfl, ow, c6⟩
   replace B0 := zb c6 B0
   replace X1 := zb c6 X1
   replace P2_0 := zf Jd P2_0 c6
   replace P2_3 := zf Jb P2_3 c6
   replace P2_4 := zf Ji P2_4 c6
   replace P2_5 := zf Jg P2_5 c6
   replace P2_6 := zf Jj P2_6 c6
   replace P3 := zf Jb P3 c6
   replace P4_0 := zf Jd P4_0 c6
   replace P4_3 := zf Jb P4_3 c6
   replace P4_4 := zf Ji P4_4 c6
   replace P4_5 := zf Jg P4_5 c6
   replace P4_6 := zf Jj P4_6 c6
   replace d := zD d c6
   have Z_v6 := hd (show u5.heap.size ≤ v6.heap.size from c6.size)
   clear c6
   replace ow := Kf.lt ow
   obtain ⟨y6_0, y6_3, y6_4, y6_5, y6_6, ety6_3, K6_0, K6_3, K6_4, K6_5, K6_6, rfl, p6_0, p6_3, p6_4, p6_5, p6_6, w6_0, w6_3, w6_4, w6_5, w6_6, d6_0_3, d6_0_4, d6_0_5, d6_0_6, d6_3_4, d6_3_5, d6_3_6, d6_4_5, d6_4_6, d6_5_6⟩ := Xv ow
   obtain ⟨ya6_0, yc6_0, rfl⟩ := Js p6_0
   have P6_0 := hd p6_0
   have Q6_0 := hd (fun b h => (show u5.heap.size ≤ b ∧ b < v6.heap.size from w6_0 b h))
   obtain ⟨ya6_3, yc6_3, rfl⟩ := Js p6_3
   have P6_3 := hd p6_3
   have Q6_3 := hd (fun b h => (show u5.heap.size ≤ b ∧ b < v6.heap.size from w6_3 b h))
   obtain ⟨ya6_4, yc6_4, rfl⟩ := Js p6_4
   have P6_4 := hd p6_4
   have Q6_4 := hd (fun b h => (show u5.heap.size ≤ b ∧ b < v6.heap.size from w6_4 b h))
   obtain ⟨ya6_5, yc6_5, rfl⟩ := Js p6_5
   have P6_5 := hd p6_5
   have Q6_5 := hd (fun b h => (show u5.heap.size ≤ b ∧ b < v6.heap.size from w6_5 b h))
   obtain ⟨ya6_6, yc6_6, rfl⟩ := Js p6_6
   have P6_6 := hd p6_6
   have Q6_6 := hd (fun b h => (show u5.heap.size ≤ b ∧ b < v6.heap.size from w6_6 b h))
   have D6_0_3 := hd d6_0_3
   clear d6_0_3
   have D6_0_4 := hd d6_0_4
   clear d6_0_4
   have D6_0_5 := hd d6_0_5
   clear d6_0_5
   have D6_0_6 := hd d6_0_6
   clear d6_0_6
   have D6_3_4 := hd d6_3_4
   clear d6_3_4
   have D6_3_5 := hd d6_3_5
   clear d6_3_5
   have D6_3_6 := hd d6_3_6
   clear d6_3_6
   have D6_4_5 := hd d6_4_5
   clear d6_4_5
   have D6_4_6 := hd d6_4_6
   clear d6_4_6
   have D6_5_6 := hd d6_5_6
   clear d6_5_6
   clear p6_0 w6_0 p6_3 w6_3 p6_4 w6_4 p6_5 w6_5 p6_6 w6_6 ow
   have hal : Below v6 v6 (v6.alloc (.cells #[.slice ya6_0 x0_0.length yc6_0, a0_1, a0_2, .slice ya6_3 x0_3.length yc6_3, .slice ya6_4 x0_4.length yc6_4, .slice ya6_5 x0_5.length yc6_5, .slice ya6_6 x0_6.length yc6_6, a0_7] 43)) := (Eh _ _).alloc (Ed _) _
   have X2 := hd (Uw v6 (.cells #[.slice ya6_0 x0_0.length yc6_0, a0_1, a0_2, .slice ya6_3 x0_3.length yc6_3, .slice ya6_4 x0_4.length yc6_4, .slice ya6_5 x0_5.length yc6_5, .slice ya6_6 x0_6.length yc6_6, a0_7] 43))
   have Y_X2 := hd (show v6.heap.size < (v6.alloc (.cells #[.slice ya6_0 x0_0.length yc6_0, a0_1, a0_2, .slice ya6_3 x0_3.length yc6_3, .slice ya6_4 x0_4.length yc6_4, .slice ya6_5 x0_5.length yc6_5, .slice ya6_6 x0_6.length yc6_6, a0_7] 43)).heap.size by simp [Ux])
   replace B0 := zb hal B0
   replace X1 := zb hal X1
   replace P2_0 := zf Jd P2_0 hal
   replace P2_3 := zf Jb P2_3 hal
   replace P2_4 := zf Ji P2_4 hal
   replace P2_5 := zf Jg P2_5 hal
   replace P2_6 := zf Jj P2_6 hal
   replace P3 := zf Jb P3 hal
   replace P4_0 := zf Jd P4_0 hal
   replace P4_3 := zf Jb P4_3 hal
   replace P4_4 := zf Ji P4_4 hal
   replace P4_5 := zf Jg P4_5 hal
   replace P4_6 := zf Jj P4_6 hal
   replace P6_0 := zf Jd P6_0 hal
   replace P6_3 := zf Jb P6_3 hal
   replace P6_4 := zf Ji P6_4 hal
   replace P6_5 := zf Jg P6_5 hal
   replace P6_6 := zf Jj P6_6 hal
   replace d := zD d hal
   clear hal
   go_wp2_with fail
   generalize (v6.alloc (.cells #[.slice ya6_0 x0_0.length yc6_0, a0_1, a0_2, .slice ya6_3 x0_3.length yc6_3, .slice ya6_4 x0_4.length yc6_4, .slice ya6_5 x0_5.length yc6_5, .slice ya6_6 x0_6.length yc6_6, a0_7] 43)) = u7 at *
   refine (Xh (.slice c1_0 x1_0.length k1_0) x1_0 u7 (Jc Jb A1_0.out d.out) S1_0.out).mono ?_
   rintro e v8 ⟨y, rfl, o, c8⟩
   replace B0 := zb c8 B0
   replace X1 := zb c8 X1
   replace X2 := zb c8 X2
   replace P2_0 := zf Jd P2_0 c8
   replace P2_3 := zf Jb P2_3 c8
   replace P2_4 := zf Ji P2_4 c8
   replace P2_5 := zf Jg P2_5 c8
   replace P2_6 := zf Jj P2_6 c8
   replace P3 := zf Jb P3 c8
   replace P4_0 := zf Jd P4_0 c8
   replace P4_3 := zf Jb P4_3 c8
   replace P4_4 := zf Ji P4_4 c8
   replace P4_5 := zf Jg P4_5 c8
   replace P4_6 := zf Jj P4_6 c8
   replace P6_0 := zf Jd P6_0 c8
   replace P6_3 := zf Jb P6_3 c8
   replace P6_4 := zf Ji P6_4 c8
   replace P6_5 := zf Jg P6_5 c8
   replace P6_6 := zf Jj P6_6 c8
   replace d := zD d c8
   have Z_v8 := hd (show u7.heap.size ≤ v8.heap.size from c8.size)
   clear c8
   obtain ⟨ya8, yc8, rfl⟩ := Js o
   have P8 := hd (Ki Jb o)
   have Q8 := hd (fun b (h : Kg u7 b ∧ b < v8.heap.size) => (show u7.heap.size ≤ b ∧ b < v8.heap.size from h))
   clear o
   have cp_X2_0 := Kh X2.out
   go_wp2_with fail
   clear cp_X2_0
   refine (HIM.out (.slice ya6_0 x0_0.length yc6_0) (.slice ya6_3 x0_3.length yc6_3) (.slice ya6_4 x0_4.length yc6_4) (.slice ya6_5 x0_5.length yc6_5) (.slice ya6_6 x0_6.length yc6_6) (.slice ya8 x1_0.length yc8) v8 (HB0.out.trans (d.out.mono HB0.out.size)) (Jw Jd P6_0.out) (Jw Jb P6_3.out) (Jw Ji P6_4.out) (Jw Jg P6_5.out) (Jw Jj P6_6.out) (Jw Jb P8.out) HT.out HL1.out).mono ?_
   rintro e v9 ⟨g0, G0, rfl, o0, q0, c9⟩
   replace B0 := zb c9 B0
   replace X1 := zb c9 X1
   replace X2 := zb c9 X2
   replace P2_0 := zf Jd P2_0 c9
   replace P2_3 := zf Jb P2_3 c9
   replace P2_4 := zf Ji P2_4 c9
   replace P2_5 := zf Jg P2_5 c9
   replace P2_6 := zf Jj P2_6 c9
   replace P3 := zf Jb P3 c9
   replace P4_0 := zf Jd P4_0 c9
   replace P4_3 := zf Jb P4_3 c9
   replace P4_4 := zf Ji P4_4 c9
   replace P4_5 := zf Jg P4_5 c9
   replace P4_6 := zf Jj P4_6 c9
   replace P6_0 := zf Jd P6_0 c9
   replace P6_3 := zf Jb P6_3 c9
   replace P6_4 := zf Ji P6_4 c9
   replace P6_5 := zf Jg P6_5 c9
   replace P6_6 := zf Jj P6_6 c9
   replace P8 := zf Jb P8 c9
   replace d := zD d c9
   have Z_v9 := hd (show v8.heap.size ≤ v9.heap.size from c9.size)
   clear c9
   replace o0 := Kf.lt o0
   obtain ⟨y9_0, y9_3, y9_4, y9_5, y9_6, ety9_3, K9_0, K9_3, K9_4, K9_5, K9_6, rfl, p9_0, p9_3, p9_4, p9_5, p9_6, w9_0, w9_3, w9_4, w9_5, w9_6, d9_0_3, d9_0_4, d9_0_5, d9_0_6, d9_3_4, d9_3_5, d9_3_6, d9_4_5, d9_4_6, d9_5_6⟩ := Xv o0
   obtain ⟨ya9_0, yc9_0, rfl⟩ := Js p9_0
   have P9_0 := hd p9_0
   have Q9_0 := hd (fun b h => (show v8.heap.size ≤ b ∧ b < v9.heap.size from ⟨q0 b (w9_0 b h).1, (w9_0 b h).2⟩))
   obtain ⟨ya9_3, yc9_3, rfl⟩ := Js p9_3
   have P9_3 := hd p9_3
   have Q9_3 := hd (fun b h => (show v8.heap.size ≤ b ∧ b < v9.heap.size from ⟨q0 b (w9_3 b h).1, (w9_3 b h).2⟩))
   obtain ⟨ya9_4, yc9_4, rfl⟩ := Js p9_4
   have P9_4 := hd p9_4
   have Q9_4 := hd (fun b h => (show v8.heap.size ≤ b ∧ b < v9.heap.size from ⟨q0 b (w9_4 b h).1, (w9_4 b h).2⟩))
   obtain ⟨ya9_5, yc9_5, rfl⟩ := Js p9_5
   have P9_5 := hd p9_5
   have Q9_5 := hd (fun b h => (show v8.heap.size ≤ b ∧ b < v9.heap.size from ⟨q0 b (w9_5 b h).1, (w9_5 b h).2⟩))
   obtain ⟨ya9_6, yc9_6, rfl⟩ := Js p9_6
   have P9_6 := hd p9_6
   have Q9_6 := hd (fun b h => (show v8.heap.size ≤ b ∧ b < v9.heap.size from ⟨q0 b (w9_6 b h).1, (w9_6 b h).2⟩))
   have D9_0_3 := hd d9_0_3
   clear d9_0_3
   have D9_0_4 := hd d9_0_4
   clear d9_0_4
   have D9_0_5 := hd d9_0_5
   clear d9_0_5
   have D9_0_6 := hd d9_0_6
   clear d9_0_6
   have D9_3_4 := hd d9_3_4
   clear d9_3_4
   have D9_3_5 := hd d9_3_5
   clear d9_3_5
   have D9_3_6 := hd d9_3_6
   clear d9_3_6
   have D9_4_5 := hd d9_4_5
   clear d9_4_5
   have D9_4_6 := hd d9_4_6
   clear d9_4_6
   have D9_5_6 := hd d9_5_6
   clear d9_5_6
   clear p9_0 w9_0 p9_3 w9_3 p9_4 w9_4 p9_5 w9_5 p9_6 w9_6 o0 q0
   have hal : Below v9 v9 (v9.alloc (.cells #[.slice ya9_0 xr0_0.length yc9_0, ar0_1, ar0_2, .slice ya9_3 xr0_3.length yc9_3, .slice ya9_4 xr0_4.length yc9_4, .slice ya9_5 xr0_5.length yc9_5, .slice ya9_6 xr0_6.length yc9_6, ar0_7] 43)) := (Eh _ _).alloc (Ed _) _
   have X3 := hd (Uw v9 (.cells #[.slice ya9_0 xr0_0.length yc9_0, ar0_1, ar0_2, .slice ya9_3 xr0_3.length yc9_3, .slice ya9_4 xr0_4.length yc9_4, .slice ya9_5 xr0_5.length yc9_5, .slice ya9_6 xr0_6.length yc9_6, ar0_7] 43))
   have Y_X3 := hd (show v9.heap.size < (v9.alloc (.cells #[.slice ya9_0 xr0_0.length yc9_0, ar0_1, ar0_2, .slice ya9_3 xr0_3.length yc9_3, .slice ya9_4 xr0_4.length yc9_4, .slice ya9_5 xr0_5.length yc9_5, .slice ya9_6 xr0_6.length yc9_6, ar0_7] 43)).heap.size by simp [Ux])
   replace B0 := zb hal B0
   replace X1 := zb hal X1
   replace X2 := zb hal X2
   replace P2_0 := zf Jd P2_0 hal
   replace P2_3 := zf Jb P2_3 hal
   replace P2_4 := zf Ji P2_4 hal
   replace P2_5 := zf Jg P2_5 hal
   replace P2_6 := zf Jj P2_6 hal
   replace P3 := zf Jb P3 hal
   replace P4_0 := zf Jd P4_0 hal
   replace P4_3 := zf Jb P4_3 hal
   replace P4_4 := zf Ji P4_4 hal
   replace P4_5 := zf Jg P4_5 hal
   replace P4_6 := zf Jj P4_6 hal
   replace P6_0 := zf Jd P6_0 hal
   replace P6_3 := zf Jb P6_3 hal
   replace P6_4 := zf Ji P6_4 hal
   replace P6_5 := zf Jg P6_5 hal
   replace P6_6 := zf Jj P6_6 hal
   replace P8 := zf Jb P8 hal
   replace P9_0 := zf Jd P9_0 hal
   replace P9_3 := zf Jb P9_3 hal
   replace P9_4 := zf Ji P9_4 hal
   replace P9_5 := zf Jg P9_5 hal
   replace P9_6 := zf Jj P9_6 hal
   replace d := zD d hal
   clear hal
   have cp_X1_0 := Kh X1.out
   have cp_X3_0 := Kh X3.out
   go_wp2_with fail
   clear cp_X1_0 cp_X3_0
   generalize (v9.alloc (.cells #[.slice ya9_0 xr0_0.length yc9_0, ar0_1, ar0_2, .slice ya9_3 xr0_3.length yc9_3, .slice ya9_4 xr0_4.length yc9_4, .slice ya9_5 xr0_5.length yc9_5, .slice ya9_6 xr0_6.length yc9_6, ar0_7] 43)) = u10 at *
   refine (eqEngine_T ar0_1 ar0_2 ar0_7 (.slice ya9_0 xr0_0.length yc9_0) (.slice ya9_3 xr0_3.length yc9_3) (.slice ya9_4 xr0_4.length yc9_4) (.slice ya9_5 xr0_5.length yc9_5) (.slice ya9_6 xr0_6.length yc9_6) xr0_0 xr0_3 xr0_4 xr0_5 xr0_6 (.slice ya4_0 xr0_0.length yc4_0) (.slice ya4_3 xr0_3.length yc4_3) (.slice ya4_4 xr0_4.length yc4_4) (.slice ya4_5 xr0_5.length yc4_5) (.slice ya4_6 xr0_6.length yc4_6) u10 (Jw Jd P9_0.out) (Jw Jb P9_3.out) (Jw Ji P9_4.out) (Jw Jg P9_5.out) (Jw Jj P9_6.out) (Jw Jd P4_0.out) (Jw Jb P4_3.out) (Jw Ji P4_4.out) (Jw Jg P4_5.out) (Jw Jj P4_6.out) Z0_0.out Z0_3.out Z0_4.out Z0_5.out Z0_6.out).mono ?_
   rintro e v11 ⟨rfl, c11⟩
   replace B0 := zb c11 B0
   replace X1 := zb c11 X1
   replace X2 := zb c11 X2
   replace X3 := zb c11 X3
   replace P2_0 := zf Jd P2_0 c11
   replace P2_3 := zf Jb P2_3 c11
   replace P2_4 := zf Ji P2_4 c11
   replace P2_5 := zf Jg P2_5 c11
   replace P2_6 := zf Jj P2_6 c11
   replace P3 := zf Jb P3 c11
   replace P4_0 := zf Jd P4_0 c11
   replace P4_3 := zf Jb P4_3 c11
   replace P4_4 := zf Ji P4_4 c11
   replace P4_5 := zf Jg P4_5 c11
   replace P4_6 := zf Jj P4_6 c11
   replace P6_0 := zf Jd P6_0 c11
   replace P6_3 := zf Jb P6_3 c11
   replace P6_4 := zf Ji P6_4 c11
   replace P6_5 := zf Jg P6_5 c11
   replace P6_6 := zf Jj P6_6 c11
   replace P8 := zf Jb P8 c11
   replace P9_0 := zf Jd P9_0 c11
   replace P9_3 := zf Jb P9_3 c11
   replace P9_4 := zf Ji P9_4 c11
   replace P9_5 := zf Jg P9_5 c11
   replace P9_6 := zf Jj P9_6 c11
   replace d := zD d c11
   have Z_v11 := hd (show u10.heap.size ≤ v11.heap.size from c11.size)
   clear c11
   go_wp2
   obtain ⟨p_B0_0, p_B0_1, p_B0_2, p_B0_3, p_B0_4, p_B0_5, p_B0_6, p_B0_7⟩ := Kh B0.out
   have cp_X2_0 := Kh X2.out
   refine wp_region_held_drew (S := fun w' => w'.cell? ⟨w, 0, none⟩ = some (Value.slice c0_0 x0_0.length k0_0) ∧ w'.cell? ⟨w, 1, none⟩ = some (Value.int .i64 a0_1) ∧ w'.cell? ⟨w, 2, none⟩ = some (Value.int .i64 a0_2) ∧ w'.cell? ⟨w, 3, none⟩ = some (Value.slice c0_3 x0_3.length k0_3) ∧ w'.cell? ⟨w, 4, none⟩ = some (Value.slice c0_4 x0_4.length k0_4) ∧ w'.cell? ⟨w, 5, none⟩ = some (Value.slice c0_5 x0_5.length k0_5) ∧ w'.cell? ⟨w, 6, none⟩ = some (Value.slice c0_6 x0_6.length k0_6) ∧ w'.cell? ⟨w, 7, none⟩ = some (Value.int .i64 a0_7) ∧ w'.cell? ⟨v6, 0, none⟩ = some (Value.slice ya6_0 x0_0.length yc6_0) ∧ w'.cell? ⟨v6, 1, none⟩ = some (Value.int .i64 a0_1) ∧ w'.cell? ⟨v6, 2, none⟩ = some (Value.int .i64 a0_2) ∧ w'.cell? ⟨v6, 3, none⟩ = some (Value.slice ya6_3 x0_3.length yc6_3) ∧ w'.cell? ⟨v6, 4, none⟩ = some (Value.slice ya6_4 x0_4.length yc6_4) ∧ w'.cell? ⟨v6, 5, none⟩ = some (Value.slice ya6_5 x0_5.length yc6_5) ∧ w'.cell? ⟨v6, 6, none⟩ = some (Value.slice ya6_6 x0_6.length yc6_6) ∧ w'.cell? ⟨v6, 7, none⟩ = some (Value.int .i64 a0_7)) (by kernel_rfl) ⟨p_B0_0, p_B0_1, p_B0_2, p_B0_3, p_B0_4, p_B0_5, p_B0_6, p_B0_7, cp_X2_0⟩ (fun hHeld => ?_)
   clear p_B0_0 p_B0_1 p_B0_2 p_B0_3 p_B0_4 p_B0_5 p_B0_6 p_B0_7 cp_X2_0
   have cd12 : Below v11 v11 v11.drew := Ke (Eh _ _)
   replace B0 := zb cd12 B0
   replace X1 := zb cd12 X1
   replace X2 := zb cd12 X2
   replace X3 := zb cd12 X3
   replace P2_0 := zf Jd P2_0 cd12
   replace P2_3 := zf Jb P2_3 cd12
   replace P2_4 := zf Ji P2_4 cd12
   replace P2_5 := zf Jg P2_5 cd12
   replace P2_6 := zf Jj P2_6 cd12
   replace P3 := zf Jb P3 cd12
   replace P4_0 := zf Jd P4_0 cd12
   replace P4_3 := zf Jb P4_3 cd12
   replace P4_4 := zf Ji P4_4 cd12
   replace P4_5 := zf Jg P4_5 cd12
   replace P4_6 := zf Jj P4_6 cd12
   replace P6_0 := zf Jd P6_0 cd12
   replace P6_3 := zf Jb P6_3 cd12
   replace P6_4 := zf Ji P6_4 cd12
   replace P6_5 := zf Jg P6_5 cd12
   replace P6_6 := zf Jj P6_6 cd12
   replace P8 := zf Jb P8 cd12
   replace P9_0 := zf Jd P9_0 cd12
   replace P9_3 := zf Jb P9_3 cd12
   replace P9_4 := zf Ji P9_4 cd12
   replace P9_5 := zf Jg P9_5 cd12
   replace P9_6 := zf Jj P9_6 cd12
   replace d := zD d cd12
   clear cd12
   refine tQ (i := 0) ?_
   try simp only [Act.put, lA, lB, lC]
   refine tQ (i := 1) ?_
   try simp only [Act.put, lA, lB, lC]
   refine rA 2 (fun K hK => ?_)
   go_simp
   refine (toEngine_T a0_1 a0_2 a0_7 (.slice c0_0 x0_0.length k0_0) (.slice c0_3 x0_3.length k0_3) (.slice c0_4 x0_4.length k0_4) (.slice c0_5 x0_5.length k0_5) (.slice c0_6 x0_6.length k0_6) x0_0 x0_3 x0_4 x0_5 x0_6 (v11.drew) (Jc Jd A0_0.out d.out) (Jc Jb A0_3.out d.out) (Jc Ji A0_4.out d.out) (Jc Jg A0_5.out d.out) (Jc Jj A0_6.out d.out) S0_0.out S0_3.out S0_4.out S0_5.out S0_6.out).mono ?_
   rintro e v13 ⟨cs, rfl, ow, c13⟩
   replace B0 := zb c13 B0
   replace X1 := zb c13 X1
   replace X2 := zb c13 X2
   replace X3 := zb c13 X3
   replace P2_0 := zf Jd P2_0 c13
   replace P2_3 := zf Jb P2_3 c13
   replace P2_4 := zf Ji P2_4 c13
   replace P2_5 := zf Jg P2_5 c13
   replace P2_6 := zf Jj P2_6 c13
   replace P3 := zf Jb P3 c13
   replace P4_0 := zf Jd P4_0 c13
   replace P4_3 := zf Jb P4_3 c13
   replace P4_4 := zf Ji P4_4 c13
   replace P4_5 := zf Jg P4_5 c13
   replace P4_6 := zf Jj P4_6 c13
   replace P6_0 := zf Jd P6_0 c13
   replace P6_3 := zf Jb P6_3 c13
   replace P6_4 := zf Ji P6_4 c13
   replace P6_5 := zf Jg P6_5 c13
   replace P6_6 := zf Jj P6_6 c13
   replace P8 := zf Jb P8 c13
   replace P9_0 := zf Jd P9_0 c13
   replace P9_3 := zf Jb P9_3 c13
   replace P9_4 := zf Ji P9_4 c13
   replace P9_5 := zf Jg P9_5 c13
   replace P9_6 := zf Jj P9_6 c13
   replace d := zD d c13
   have Z_v13 := hd (show v11.heap.size ≤ v13.heap.size from c13.size)
   clear c13
   replace ow := Kf.lt ow
   obtain ⟨y13_0, y13_3, y13_4, y13_5, y13_6, ety13_3, K13_0, K13_3, K13_4, K13_5, K13_6, rfl, p13_0, p13_3, p13_4, p13_5, p13_6, w13_0, w13_3, w13_4, w13_5, w13_6, d13_0_3, d13_0_4, d13_0_5, d13_0_6, d13_3_4, d13_3_5, d13_3_6, d13_4_5, d13_4_6, d13_5_6⟩ := Xv ow
   obtain ⟨ya13_0, yc13_0, rfl⟩ := Js p13_0
   have P13_0 := hd p13_0
   have Q13_0 := hd (fun b h => (show (v11.drew).heap.size ≤ b ∧ b < v13.heap.size from w13_0 b h))
   obtain ⟨ya13_3, yc13_3, rfl⟩ := Js p13_3
   have P13_3 := hd p13_3
   have Q13_3 := hd (fun b h => (show (v11.drew).heap.size ≤ b ∧ b < v13.heap.size from w13_3 b h))
   obtain ⟨ya13_4, yc13_4, rfl⟩ := Js p13_4
   have P13_4 := hd p13_4
   have Q13_4 := hd (fun b h => (show (v11.drew).heap.size ≤ b ∧ b < v13.heap.size from w13_4 b h))
   obtain ⟨ya13_5, yc13_5, rfl⟩ := Js p13_5
   have P13_5 := hd p13_5
   have Q13_5 := hd (fun b h => (show (v11.drew).heap.size ≤ b ∧ b < v13.heap.size from w13_5 b h))
   obtain ⟨ya13_6, yc13_6, rfl⟩ := Js p13_6
   have P13_6 := hd p13_6
   have Q13_6 := hd (fun b h => (show (v11.drew).heap.size ≤ b ∧ b < v13.heap.size from w13_6 b h))
   have D13_0_3 := hd d13_0_3
   clear d13_0_3
   have D13_0_4 := hd d13_0_4
   clear d13_0_4
   have D13_0_5 := hd d13_0_5
   clear d13_0_5
   have D13_0_6 := hd d13_0_6
   clear d13_0_6
   have D13_3_4 := hd d13_3_4
   clear d13_3_4
   have D13_3_5 := hd d13_3_5
   clear d13_3_5
   have D13_3_6 := hd d13_3_6
   clear d13_3_6
   have D13_4_5 := hd d13_4_5
   clear d13_4_5
   have D13_4_6 := hd d13_4_6
   clear d13_4_6
   have D13_5_6 := hd d13_5_6
   clear d13_5_6
   clear p13_0 w13_0 p13_3 w13_3 p13_4 w13_4 p13_5 w13_5 p13_6 w13_6 ow
   obtain ⟨p_B0_0, p_B0_1, p_B0_2, p_B0_3, p_B0_4, p_B0_5, p_B0_6, p_B0_7⟩ := Kh B0.out
   have cp_X2_0 := Kh X2.out
   refine hK.out _ _ ⟨p_B0_0, p_B0_1, p_B0_2, p_B0_3, p_B0_4, p_B0_5, p_B0_6, p_B0_7, cp_X2_0⟩ (fun hHeld => ?_)
   clear p_B0_0 p_B0_1 p_B0_2 p_B0_3 p_B0_4 p_B0_5 p_B0_6 p_B0_7 cp_X2_0
   clear hK K
   try simp only [Act.put, lA, lB, lC]
   refine rA 3 (fun K hK => ?_)
   go_simp
   refine (eqEngine_T a0_1 a0_2 a0_7 (.slice ya6_0 x0_0.length yc6_0) (.slice ya6_3 x0_3.length yc6_3) (.slice ya6_4 x0_4.length yc6_4) (.slice ya6_5 x0_5.length yc6_5) (.slice ya6_6 x0_6.length yc6_6) x0_0 x0_3 x0_4 x0_5 x0_6 (.slice ya13_0 x0_0.length yc13_0) (.slice ya13_3 x0_3.length yc13_3) (.slice ya13_4 x0_4.length yc13_4) (.slice ya13_5 x0_5.length yc13_5) (.slice ya13_6 x0_6.length yc13_6) v13 (Jw Jd P6_0.out) (Jw Jb P6_3.out) (Jw Ji P6_4.out) (Jw Jg P6_5.out) (Jw Jj P6_6.out) (Jw Jd P13_0.out) (Jw Jb P13_3.out) (Jw Ji P13_4.out) (Jw Jg P13_5.out) (Jw Jj P13_6.out) S0_0.out S0_3.out S0_4.out S0_5.out S0_6.out).mono ?_
   rintro e v14 ⟨rfl, c14⟩
   replace B0 := zb c14 B0
   replace X1 := zb c14 X1
   replace X2 := zb c14 X2
   replace X3 := zb c14 X3
   replace P2_0 := zf Jd P2_0 c14
   replace P2_3 := zf Jb P2_3 c14
   replace P2_4 := zf Ji P2_4 c14
   replace P2_5 := zf Jg P2_5 c14
   replace P2_6 := zf Jj P2_6 c14
   replace P3 := zf Jb P3 c14
   replace P4_0 := zf Jd P4_0 c14
   replace P4_3 := zf Jb P4_3 c14
   replace P4_4 := zf Ji P4_4 c14
   replace P4_5 := zf Jg P4_5 c14
   replace P4_6 := zf Jj P4_6 c14
   replace P6_0 := zf Jd P6_0 c14
   replace P6_3 := zf Jb P6_3 c14
   replace P6_4 := zf Ji P6_4 c14
   replace P6_5 := zf Jg P6_5 c14
   replace P6_6 := zf Jj P6_6 c14
   replace P8 := zf Jb P8 c14
   replace P9_0 := zf Jd P9_0 c14
   replace P9_3 := zf Jb P9_3 c14
   replace P9_4 := zf Ji P9_4 c14
   replace P9_5 := zf Jg P9_5 c14
   replace P9_6 := zf Jj P9_6 c14
   replace P13_0 := zf Jd P13_0 c14
   replace P13_3 := zf Jb P13_3 c14
   replace P13_4 := zf Ji P13_4 c14
   replace P13_5 := zf Jg P13_5 c14
   replace P13_6 := zf Jj P13_6 c14
   replace d := zD d c14
   have Z_v14 := hd (show v13.heap.size ≤ v14.heap.size from c14.size)
   clear c14
   clear P13_0 P13_3 P13_4 P13_5 P13_6
   obtain ⟨p_B0_0, p_B0_1, p_B0_2, p_B0_3, p_B0_4, p_B0_5, p_B0_6, p_B0_7⟩ := Kh B0.out
   have cp_X2_0 := Kh X2.out
   refine hK.out _ _ ⟨p_B0_0, p_B0_1, p_B0_2, p_B0_3, p_B0_4, p_B0_5, p_B0_6, p_B0_7, cp_X2_0⟩ (fun hHeld => ?_)
   clear p_B0_0 p_B0_1 p_B0_2 p_B0_3 p_B0_4 p_B0_5 p_B0_6 p_B0_7 cp_X2_0
   clear hK K
   try simp only [Act.put, lA, lB, lC]
   refine tQ (i := 4) ?_
   try simp only [Act.put, lA, lB, lC]
   refine wpAnyH_done (by kernel_rfl) ?_ _
   clear hHeld
   go_wp2_with fail
   refine (Xh (.slice c1_0 x1_0.length k1_0) x1_0 v14 (Jc Jb A1_0.out d.out) S1_0.out).mono ?_
   rintro e v15 ⟨y, rfl, o, c15⟩
   replace B0 := zb c15 B0
   replace X1 := zb c15 X1
   replace X2 := zb c15 X2
   replace X3 := zb c15 X3
   replace P2_0 := zf Jd P2_0 c15
   replace P2_3 := zf Jb P2_3 c15
   replace P2_4 := zf Ji P2_4 c15
   replace P2_5 := zf Jg P2_5 c15
   replace P2_6 := zf Jj P2_6 c15
   replace P3 := zf Jb P3 c15
   replace P4_0 := zf Jd P4_0 c15
   replace P4_3 := zf Jb P4_3 c15
   replace P4_4 := zf Ji P4_4 c15
   replace P4_5 := zf Jg P4_5 c15
   replace P4_6 := zf Jj P4_6 c15
   replace P6_0 := zf Jd P6_0 c15
   replace P6_3 := zf Jb P6_3 c15
   replace P6_4 := zf Ji P6_4 c15
   replace P6_5 := zf Jg P6_5 c15
   replace P6_6 := zf Jj P6_6 c15
   replace P8 := zf Jb P8 c15
   replace P9_0 := zf Jd P9_0 c15
   replace P9_3 := zf Jb P9_3 c15
   replace P9_4 := zf Ji P9_4 c15
   replace P9_5 := zf Jg P9_5 c15
   replace P9_6 := zf Jj P9_6 c15
   replace d := zD d c15
   have Z_v15 := hd (show v14.heap.size ≤ v15.heap.size from c15.size)
   clear c15
   obtain ⟨ya15, yc15, rfl⟩ := Js o
   have P15 := hd (Ki Jb o)
   have Q15 := hd (fun b (h : Kg v14 b ∧ b < v15.heap.size) => (show v14.heap.size ≤ b ∧ b < v15.heap.size from h))
   clear o
   go_wp2_with fail
   refine (Ur (.slice ya8 x1_0.length yc8) (.slice ya15 x1_0.length yc15) x1_0 v15 (Jw Jb P8.out) (Jw Jb P15.out) S1_0.out).mono ?_
   rintro e v16 ⟨rfl, c16⟩
   replace B0 := zb c16 B0
   replace X1 := zb c16 X1
   replace X2 := zb c16 X2
   replace X3 := zb c16 X3
   replace P2_0 := zf Jd P2_0 c16
   replace P2_3 := zf Jb P2_3 c16
   replace P2_4 := zf Ji P2_4 c16
   replace P2_5 := zf Jg P2_5 c16
   replace P2_6 := zf Jj P2_6 c16
   replace P3 := zf Jb P3 c16
   replace P4_0 := zf Jd P4_0 c16
   replace P4_3 := zf Jb P4_3 c16
   replace P4_4 := zf Ji P4_4 c16
   replace P4_5 := zf Jg P4_5 c16
   replace P4_6 := zf Jj P4_6 c16
   replace P6_0 := zf Jd P6_0 c16
   replace P6_3 := zf Jb P6_3 c16
   replace P6_4 := zf Ji P6_4 c16
   replace P6_5 := zf Jg P6_5 c16
   replace P6_6 := zf Jj P6_6 c16
   replace P8 := zf Jb P8 c16
   replace P9_0 := zf Jd P9_0 c16
   replace P9_3 := zf Jb P9_3 c16
   replace P9_4 := zf Ji P9_4 c16
   replace P9_5 := zf Jg P9_5 c16
   replace P9_6 := zf Jj P9_6 c16
   replace P15 := zf Jb P15 c16
   replace d := zD d c16
   have Z_v16 := hd (show v15.heap.size ≤ v16.heap.size from c16.size)
   clear c16
   clear P15
   have cp_X2_0 := Kh X2.out
   go_wp2_with fail
   clear cp_X2_0
   refine (markEngine_T a0_1 a0_2 a0_7 (.slice ya6_0 x0_0.length yc6_0) (.slice ya6_3 x0_3.length yc6_3) (.slice ya6_4 x0_4.length yc6_4) (.slice ya6_5 x0_5.length yc6_5) (.slice ya6_6 x0_6.length yc6_6) x0_0 x0_3 x0_4 x0_5 x0_6 (fun b => u5.heap.size ≤ b ∧ b < v6.heap.size) _ _ _ _ _ (1) v16 P6_0.out P6_3.out P6_4.out P6_5.out P6_6.out Q6_0.out Q6_3.out Q6_4.out Q6_5.out Q6_6.out D6_0_3.out D6_0_4.out D6_0_5.out D6_0_6.out D6_3_4.out D6_3_5.out D6_3_6.out D6_4_5.out D6_4_6.out D6_5_6.out S0_0.out S0_3.out S0_4.out S0_5.out S0_6.out M0.out.1 (by have := M0.out.2; omega)).mono ?_
   rintro e v17 ⟨rfl, ⟨m0, m1, m2, m3, m4⟩, c17⟩
   have y0 := Y_W.out
   have y1 := Z_v1.out
   have y2 := Z_v2.out
   have y3 := Z_v3.out
   have y4 := Z_v4.out
   have y5 := Y_X1.out
   have y6 := Z_v6.out
   have y7 := Y_X2.out
   have y8 := Z_v8.out
   have y9 := Z_v9.out
   have y10 := Y_X3.out
   have y11 := Z_v11.out
   have y12 := Z_v13.out
   have y13 := Z_v14.out
   have y14 := Z_v15.out
   have y15 := Z_v16.out
   have yd : W.heap.size ≤ v16.heap.size := d.out.size
   replace B0 := zB c17 B0 (fun h => by have r2 := h; omega)
   replace X1 := zB c17 X1 (fun h => by have r2 := h; omega)
   replace X2 := zB c17 X2 (fun h => by have r2 := h; omega)
   replace X3 := zB c17 X3 (fun h => by have r2 := h; omega)
   replace P2_0 := zt Jd P2_0 c17 (fun b h1 h2 => by have r1 := Q2_0.out b h1; have r2 := h2; omega)
   replace P2_3 := zt Jb P2_3 c17 (fun b h1 h2 => by have r1 := Q2_3.out b h1; have r2 := h2; omega)
   replace P2_4 := zt Ji P2_4 c17 (fun b h1 h2 => by have r1 := Q2_4.out b h1; have r2 := h2; omega)
   replace P2_5 := zt Jg P2_5 c17 (fun b h1 h2 => by have r1 := Q2_5.out b h1; have r2 := h2; omega)
   replace P2_6 := zt Jj P2_6 c17 (fun b h1 h2 => by have r1 := Q2_6.out b h1; have r2 := h2; omega)
   replace P3 := zt Jb P3 c17 (fun b h1 h2 => by have r1 := Q3.out b h1; have r2 := h2; omega)
   replace P4_0 := zt Jd P4_0 c17 (fun b h1 h2 => by have r1 := Q4_0.out b h1; have r2 := h2; omega)
   replace P4_3 := zt Jb P4_3 c17 (fun b h1 h2 => by have r1 := Q4_3.out b h1; have r2 := h2; omega)
   replace P4_4 := zt Ji P4_4 c17 (fun b h1 h2 => by have r1 := Q4_4.out b h1; have r2 := h2; omega)
   replace P4_5 := zt Jg P4_5 c17 (fun b h1 h2 => by have r1 := Q4_5.out b h1; have r2 := h2; omega)
   replace P4_6 := zt Jj P4_6 c17 (fun b h1 h2 => by have r1 := Q4_6.out b h1; have r2 := h2; omega)
   replace P8 := zt Jb P8 c17 (fun b h1 h2 => by have r1 := Q8.out b h1; have r2 := h2; omega)
   replace P9_0 := zt Jd P9_0 c17 (fun b h1 h2 => by have r1 := Q9_0.out b h1; have r2 := h2; omega)
   replace P9_3 := zt Jb P9_3 c17 (fun b h1 h2 => by have r1 := Q9_3.out b h1; have r2 := h2; omega)
   replace P9_4 := zt Ji P9_4 c17 (fun b h1 h2 => by have r1 := Q9_4.out b h1; have r2 := h2; omega)
   replace P9_5 := zt Jg P9_5 c17 (fun b h1 h2 => by have r1 := Q9_5.out b h1; have r2 := h2; omega)
   replace P9_6 := zt Jj P9_6 c17 (fun b h1 h2 => by have r1 := Q9_6.out b h1; have r2 := h2; omega)
   replace d := hd (Jr d.out c17 (fun b h => by have r2 := h; omega) (by omega))
   clear yd y0 y1 y2 y3 y4 y5 y6 y7 y8 y9 y10 y11 y12 y13 y14 y15
   have Z_v17 := hd (show v16.heap.size ≤ v17.heap.size from c17.size)
   clear P6_0 P6_3 P6_4 P6_5 P6_6
   clear m0 m1 m2 m3 m4 c17
   go_wp2_with fail
   refine (Xf (.slice ya8 x1_0.length yc8) x1_0 _ (1 + (Jt Je x0_0 : Int) + (Jt Jf x0_3 : Int) + (Jt Jm x0_4 : Int) + (Jt Jk x0_5 : Int) + (Jt Jp x0_6 : Int)) v17 P8.out S1_0.out M1.out.1 (by have := M1.out.2; omega)).mono ?_
   rintro e v18 ⟨rfl, m0, c18⟩
   have y0 := Y_W.out
   have y1 := Z_v1.out
   have y2 := Z_v2.out
   have y3 := Z_v3.out
   have y4 := Z_v4.out
   have y5 := Y_X1.out
   have y6 := Z_v6.out
   have y7 := Y_X2.out
   have y8 := Z_v8.out
   have y9 := Z_v9.out
   have y10 := Y_X3.out
   have y11 := Z_v11.out
   have y12 := Z_v13.out
   have y13 := Z_v14.out
   have y14 := Z_v15.out
   have y15 := Z_v16.out
   have y16 := Z_v17.out
   have yd : W.heap.size ≤ v17.heap.size := d.out.size
   replace B0 := zB c18 B0 (fun h => by have r2 := Q8.out w.heap.size h; omega)
   replace X1 := zB c18 X1 (fun h => by have r2 := Q8.out v4.heap.size h; omega)
   replace X2 := zB c18 X2 (fun h => by have r2 := Q8.out v6.heap.size h; omega)
   replace X3 := zB c18 X3 (fun h => by have r2 := Q8.out v9.heap.size h; omega)
   replace P2_0 := zt Jd P2_0 c18 (fun b h1 h2 => by have r1 := Q2_0.out b h1; have r2 := Q8.out b h2; omega)
   replace P2_3 := zt Jb P2_3 c18 (fun b h1 h2 => by have r1 := Q2_3.out b h1; have r2 := Q8.out b h2; omega)
   replace P2_4 := zt Ji P2_4 c18 (fun b h1 h2 => by have r1 := Q2_4.out b h1; have r2 := Q8.out b h2; omega)
   replace P2_5 := zt Jg P2_5 c18 (fun b h1 h2 => by have r1 := Q2_5.out b h1; have r2 := Q8.out b h2; omega)
   replace P2_6 := zt Jj P2_6 c18 (fun b h1 h2 => by have r1 := Q2_6.out b h1; have r2 := Q8.out b h2; omega)
   replace P3 := zt Jb P3 c18 (fun b h1 h2 => by have r1 := Q3.out b h1; have r2 := Q8.out b h2; omega)
   replace P4_0 := zt Jd P4_0 c18 (fun b h1 h2 => by have r1 := Q4_0.out b h1; have r2 := Q8.out b h2; omega)
   replace P4_3 := zt Jb P4_3 c18 (fun b h1 h2 => by have r1 := Q4_3.out b h1; have r2 := Q8.out b h2; omega)
   replace P4_4 := zt Ji P4_4 c18 (fun b h1 h2 => by have r1 := Q4_4.out b h1; have r2 := Q8.out b h2; omega)
   replace P4_5 := zt Jg P4_5 c18 (fun b h1 h2 => by have r1 := Q4_5.out b h1; have r2 := Q8.out b h2; omega)
   replace P4_6 := zt Jj P4_6 c18 (fun b h1 h2 => by have r1 := Q4_6.out b h1; have r2 := Q8.out b h2; omega)
   replace P9_0 := zt Jd P9_0 c18 (fun b h1 h2 => by have r1 := Q9_0.out b h1; have r2 := Q8.out b h2; omega)
   replace P9_3 := zt Jb P9_3 c18 (fun b h1 h2 => by have r1 := Q9_3.out b h1; have r2 := Q8.out b h2; omega)
   replace P9_4 := zt Ji P9_4 c18 (fun b h1 h2 => by have r1 := Q9_4.out b h1; have r2 := Q8.out b h2; omega)
   replace P9_5 := zt Jg P9_5 c18 (fun b h1 h2 => by have r1 := Q9_5.out b h1; have r2 := Q8.out b h2; omega)
   replace P9_6 := zt Jj P9_6 c18 (fun b h1 h2 => by have r1 := Q9_6.out b h1; have r2 := Q8.out b h2; omega)
   replace d := hd (Jr d.out c18 (fun b h => by have r2 := Q8.out b h; omega) (by omega))
   clear yd y0 y1 y2 y3 y4 y5 y6 y7 y8 y9 y10 y11 y12 y13 y14 y15 y16
   have Z_v18 := hd (show v17.heap.size ≤ v18.heap.size from c18.size)
   clear P8
   clear m0 c18
   have cp_X1_0 := Kh X1.out
   have cp_X3_0 := Kh X3.out
   go_wp2_with fail
   clear cp_X1_0 cp_X3_0
   refine (eqEngine_T ar0_1 ar0_2 ar0_7 (.slice ya9_0 xr0_0.length yc9_0) (.slice ya9_3 xr0_3.length yc9_3) (.slice ya9_4 xr0_4.length yc9_4) (.slice ya9_5 xr0_5.length yc9_5) (.slice ya9_6 xr0_6.length yc9_6) xr0_0 xr0_3 xr0_4 xr0_5 xr0_6 (.slice ya4_0 xr0_0.length yc4_0) (.slice ya4_3 xr0_3.length yc4_3) (.slice ya4_4 xr0_4.length yc4_4) (.slice ya4_5 xr0_5.length yc4_5) (.slice ya4_6 xr0_6.length yc4_6) v18 (Jw Jd P9_0.out) (Jw Jb P9_3.out) (Jw Ji P9_4.out) (Jw Jg P9_5.out) (Jw Jj P9_6.out) (Jw Jd P4_0.out) (Jw Jb P4_3.out) (Jw Ji P4_4.out) (Jw Jg P4_5.out) (Jw Jj P4_6.out) Z0_0.out Z0_3.out Z0_4.out Z0_5.out Z0_6.out).mono ?_
   rintro e v19 ⟨rfl, c19⟩
   replace B0 := zb c19 B0
   replace X1 := zb c19 X1
   replace X2 := zb c19 X2
   replace X3 := zb c19 X3
   replace P2_0 := zf Jd P2_0 c19
   replace P2_3 := zf Jb P2_3 c19
   replace P2_4 := zf Ji P2_4 c19
   replace P2_5 := zf Jg P2_5 c19
   replace P2_6 := zf Jj P2_6 c19
   replace P3 := zf Jb P3 c19
   replace P4_0 := zf Jd P4_0 c19
   replace P4_3 := zf Jb P4_3 c19
   replace P4_4 := zf Ji P4_4 c19
   replace P4_5 := zf Jg P4_5 c19
   replace P4_6 := zf Jj P4_6 c19
   replace P9_0 := zf Jd P9_0 c19
   replace P9_3 := zf Jb P9_3 c19
   replace P9_4 := zf Ji P9_4 c19
   replace P9_5 := zf Jg P9_5 c19
   replace P9_6 := zf Jj P9_6 c19
   replace d := zD d c19
   have Z_v19 := hd (show v18.heap.size ≤ v19.heap.size from c19.size)
   clear c19
   have cp_X3_0 := Kh X3.out
   go_wp2_with fail
   clear cp_X3_0
   refine (markEngine_T ar0_1 ar0_2 ar0_7 (.slice ya9_0 xr0_0.length yc9_0) (.slice ya9_3 xr0_3.length yc9_3) (.slice ya9_4 xr0_4.length yc9_4) (.slice ya9_5 xr0_5.length yc9_5) (.slice ya9_6 xr0_6.length yc9_6) xr0_0 xr0_3 xr0_4 xr0_5 xr0_6 (fun b => v8.heap.size ≤ b ∧ b < v9.heap.size) _ _ _ _ _ (1) v19 P9_0.out P9_3.out P9_4.out P9_5.out P9_6.out Q9_0.out Q9_3.out Q9_4.out Q9_5.out Q9_6.out D9_0_3.out D9_0_4.out D9_0_5.out D9_0_6.out D9_3_4.out D9_3_5.out D9_3_6.out D9_4_5.out D9_4_6.out D9_5_6.out Z0_0.out Z0_3.out Z0_4.out Z0_5.out Z0_6.out MR0.out.1 (by have := MR0.out.2; omega)).mono ?_
   rintro e v20 ⟨rfl, ⟨m0, m1, m2, m3, m4⟩, c20⟩
   have y0 := Y_W.out
   have y1 := Z_v1.out
   have y2 := Z_v2.out
   have y3 := Z_v3.out
   have y4 := Z_v4.out
   have y5 := Y_X1.out
   have y6 := Z_v6.out
   have y7 := Y_X2.out
   have y8 := Z_v8.out
   have y9 := Z_v9.out
   have y10 := Y_X3.out
   have y11 := Z_v11.out
   have y12 := Z_v13.out
   have y13 := Z_v14.out
   have y14 := Z_v15.out
   have y15 := Z_v16.out
   have y16 := Z_v17.out
   have y17 := Z_v18.out
   have y18 := Z_v19.out
   have yd : W.heap.size ≤ v19.heap.size := d.out.size
   replace B0 := zB c20 B0 (fun h => by have r2 := h; omega)
   replace X1 := zB c20 X1 (fun h => by have r2 := h; omega)
   replace X2 := zB c20 X2 (fun h => by have r2 := h; omega)
   replace X3 := zB c20 X3 (fun h => by have r2 := h; omega)
   replace P2_0 := zt Jd P2_0 c20 (fun b h1 h2 => by have r1 := Q2_0.out b h1; have r2 := h2; omega)
   replace P2_3 := zt Jb P2_3 c20 (fun b h1 h2 => by have r1 := Q2_3.out b h1; have r2 := h2; omega)
   replace P2_4 := zt Ji P2_4 c20 (fun b h1 h2 => by have r1 := Q2_4.out b h1; have r2 := h2; omega)
   replace P2_5 := zt Jg P2_5 c20 (fun b h1 h2 => by have r1 := Q2_5.out b h1; have r2 := h2; omega)
   replace P2_6 := zt Jj P2_6 c20 (fun b h1 h2 => by have r1 := Q2_6.out b h1; have r2 := h2; omega)
   replace P3 := zt Jb P3 c20 (fun b h1 h2 => by have r1 := Q3.out b h1; have r2 := h2; omega)
   replace P4_0 := zt Jd P4_0 c20 (fun b h1 h2 => by have r1 := Q4_0.out b h1; have r2 := h2; omega)
   replace P4_3 := zt Jb P4_3 c20 (fun b h1 h2 => by have r1 := Q4_3.out b h1; have r2 := h2; omega)
   replace P4_4 := zt Ji P4_4 c20 (fun b h1 h2 => by have r1 := Q4_4.out b h1; have r2 := h2; omega)
   replace P4_5 := zt Jg P4_5 c20 (fun b h1 h2 => by have r1 := Q4_5.out b h1; have r2 := h2; omega)
   replace P4_6 := zt Jj P4_6 c20 (fun b h1 h2 => by have r1 := Q4_6.out b h1; have r2 := h2; omega)
   replace d := hd (Jr d.out c20 (fun b h => by have r2 := h; omega) (by omega))
   clear yd y0 y1 y2 y3 y4 y5 y6 y7 y8 y9 y10 y11 y12 y13 y14 y15 y16 y17 y18
   have Z_v20 := hd (show v19.heap.size ≤ v20.heap.size from c20.size)
   replace P9_0 := hd m0
   replace P9_3 := hd m1
   replace P9_4 := hd m2
   replace P9_5 := hd m3
   replace P9_6 := hd m4
   clear m0 m1 m2 m3 m4 c20
   have cp_X3_0 := Kh X3.out
   go_wp2_with fail
   clear cp_X3_0
   refine (heldEngine_T ar0_1 ar0_2 ar0_7 (.slice ya9_0 xr0_0.length yc9_0) (.slice ya9_3 xr0_3.length yc9_3) (.slice ya9_4 xr0_4.length yc9_4) (.slice ya9_5 xr0_5.length yc9_5) (.slice ya9_6 xr0_6.length yc9_6) xr0_0 xr0_3 xr0_4 xr0_5 xr0_6 (1) v20 (Jw Jd P9_0.out) (Jw Jb P9_3.out) (Jw Ji P9_4.out) (Jw Jg P9_5.out) (Jw Jj P9_6.out) Z0_0.out Z0_3.out Z0_4.out Z0_5.out Z0_6.out MR0.out.1 (by have := MR0.out.2; omega)).mono ?_
   rintro e v21 ⟨rfl, c21⟩
   replace B0 := zb c21 B0
   replace X1 := zb c21 X1
   replace X2 := zb c21 X2
   replace X3 := zb c21 X3
   replace P2_0 := zf Jd P2_0 c21
   replace P2_3 := zf Jb P2_3 c21
   replace P2_4 := zf Ji P2_4 c21
   replace P2_5 := zf Jg P2_5 c21
   replace P2_6 := zf Jj P2_6 c21
   replace P3 := zf Jb P3 c21
   replace P4_0 := zf Jd P4_0 c21
   replace P4_3 := zf Jb P4_3 c21
   replace P4_4 := zf Ji P4_4 c21
   replace P4_5 := zf Jg P4_5 c21
   replace P4_6 := zf Jj P4_6 c21
   replace P9_0 := zf Jd P9_0 c21
   replace P9_3 := zf Jb P9_3 c21
   replace P9_4 := zf Ji P9_4 c21
   replace P9_5 := zf Jg P9_5 c21
   replace P9_6 := zf Jj P9_6 c21
   replace d := zD d c21
   have Z_v21 := hd (show v20.heap.size ≤ v21.heap.size from c21.size)
   clear c21
   have cp_B0_0 := Kh B0.out
   go_wp2_with fail
   clear cp_B0_0
   refine (toEngine_T a0_1 a0_2 a0_7 (.slice c0_0 x0_0.length k0_0) (.slice c0_3 x0_3.length k0_3) (.slice c0_4 x0_4.length k0_4) (.slice c0_5 x0_5.length k0_5) (.slice c0_6 x0_6.length k0_6) x0_0 x0_3 x0_4 x0_5 x0_6 v21 (Jc Jd A0_0.out d.out) (Jc Jb A0_3.out d.out) (Jc Ji A0_4.out d.out) (Jc Jg A0_5.out d.out) (Jc Jj A0_6.out d.out) S0_0.out S0_3.out S0_4.out S0_5.out S0_6.out).mono ?_
   rintro e v22 ⟨cs, rfl, ow, c22⟩
   replace B0 := zb c22 B0
   replace X1 := zb c22 X1
   replace X2 := zb c22 X2
   replace X3 := zb c22 X3
   replace P2_0 := zf Jd P2_0 c22
   replace P2_3 := zf Jb P2_3 c22
   replace P2_4 := zf Ji P2_4 c22
   replace P2_5 := zf Jg P2_5 c22
   replace P2_6 := zf Jj P2_6 c22
   replace P3 := zf Jb P3 c22
   replace P4_0 := zf Jd P4_0 c22
   replace P4_3 := zf Jb P4_3 c22
   replace P4_4 := zf Ji P4_4 c22
   replace P4_5 := zf Jg P4_5 c22
   replace P4_6 := zf Jj P4_6 c22
   replace P9_0 := zf Jd P9_0 c22
   replace P9_3 := zf Jb P9_3 c22
   replace P9_4 := zf Ji P9_4 c22
   replace P9_5 := zf Jg P9_5 c22
   replace P9_6 := zf Jj P9_6 c22
   replace d := zD d c22
   have Z_v22 := hd (show v21.heap.size ≤ v22.heap.size from c22.size)
   clear c22
   replace ow := Kf.lt ow
   obtain ⟨y22_0, y22_3, y22_4, y22_5, y22_6, ety22_3, K22_0, K22_3, K22_4, K22_5, K22_6, rfl, p22_0, p22_3, p22_4, p22_5, p22_6, w22_0, w22_3, w22_4, w22_5, w22_6, d22_0_3, d22_0_4, d22_0_5, d22_0_6, d22_3_4, d22_3_5, d22_3_6, d22_4_5, d22_4_6, d22_5_6⟩ := Xv ow
   obtain ⟨ya22_0, yc22_0, rfl⟩ := Js p22_0
   have P22_0 := hd p22_0
   have Q22_0 := hd (fun b h => (show v21.heap.size ≤ b ∧ b < v22.heap.size from w22_0 b h))
   obtain ⟨ya22_3, yc22_3, rfl⟩ := Js p22_3
   have P22_3 := hd p22_3
   have Q22_3 := hd (fun b h => (show v21.heap.size ≤ b ∧ b < v22.heap.size from w22_3 b h))
   obtain ⟨ya22_4, yc22_4, rfl⟩ := Js p22_4
   have P22_4 := hd p22_4
   have Q22_4 := hd (fun b h => (show v21.heap.size ≤ b ∧ b < v22.heap.size from w22_4 b h))
   obtain ⟨ya22_5, yc22_5, rfl⟩ := Js p22_5
   have P22_5 := hd p22_5
   have Q22_5 := hd (fun b h => (show v21.heap.size ≤ b ∧ b < v22.heap.size from w22_5 b h))
   obtain ⟨ya22_6, yc22_6, rfl⟩ := Js p22_6
   have P22_6 := hd p22_6
   have Q22_6 := hd (fun b h => (show v21.heap.size ≤ b ∧ b < v22.heap.size from w22_6 b h))
   have D22_0_3 := hd d22_0_3
   clear d22_0_3
   have D22_0_4 := hd d22_0_4
   clear d22_0_4
   have D22_0_5 := hd d22_0_5
   clear d22_0_5
   have D22_0_6 := hd d22_0_6
   clear d22_0_6
   have D22_3_4 := hd d22_3_4
   clear d22_3_4
   have D22_3_5 := hd d22_3_5
   clear d22_3_5
   have D22_3_6 := hd d22_3_6
   clear d22_3_6
   have D22_4_5 := hd d22_4_5
   clear d22_4_5
   have D22_4_6 := hd d22_4_6
   clear d22_4_6
   have D22_5_6 := hd d22_5_6
   clear d22_5_6
   clear p22_0 w22_0 p22_3 w22_3 p22_4 w22_4 p22_5 w22_5 p22_6 w22_6 ow
   go_wp2_with fail
   refine (Xh (.slice c1_0 x1_0.length k1_0) x1_0 v22 (Jc Jb A1_0.out d.out) S1_0.out).mono ?_
   rintro e v23 ⟨y, rfl, o, c23⟩
   replace B0 := zb c23 B0
   replace X1 := zb c23 X1
   replace X2 := zb c23 X2
   replace X3 := zb c23 X3
   replace P2_0 := zf Jd P2_0 c23
   replace P2_3 := zf Jb P2_3 c23
   replace P2_4 := zf Ji P2_4 c23
   replace P2_5 := zf Jg P2_5 c23
   replace P2_6 := zf Jj P2_6 c23
   replace P3 := zf Jb P3 c23
   replace P4_0 := zf Jd P4_0 c23
   replace P4_3 := zf Jb P4_3 c23
   replace P4_4 := zf Ji P4_4 c23
   replace P4_5 := zf Jg P4_5 c23
   replace P4_6 := zf Jj P4_6 c23
   replace P9_0 := zf Jd P9_0 c23
   replace P9_3 := zf Jb P9_3 c23
   replace P9_4 := zf Ji P9_4 c23
   replace P9_5 := zf Jg P9_5 c23
   replace P9_6 := zf Jj P9_6 c23
   replace P22_0 := zf Jd P22_0 c23
   replace P22_3 := zf Jb P22_3 c23
   replace P22_4 := zf Ji P22_4 c23
   replace P22_5 := zf Jg P22_5 c23
   replace P22_6 := zf Jj P22_6 c23
   replace d := zD d c23
   have Z_v23 := hd (show v22.heap.size ≤ v23.heap.size from c23.size)
   clear c23
   obtain ⟨ya23, yc23, rfl⟩ := Js o
   have P23 := hd (Ki Jb o)
   have Q23 := hd (fun b (h : Kg v22 b ∧ b < v23.heap.size) => (show v22.heap.size ≤ b ∧ b < v23.heap.size from h))
   clear o
   go_wp2_with fail
   refine (HIM.out (.slice ya22_0 x0_0.length yc22_0) (.slice ya22_3 x0_3.length yc22_3) (.slice ya22_4 x0_4.length yc22_4) (.slice ya22_5 x0_5.length yc22_5) (.slice ya22_6 x0_6.length yc22_6) (.slice ya23 x1_0.length yc23) v23 (HB0.out.trans (d.out.mono HB0.out.size)) (Jw Jd P22_0.out) (Jw Jb P22_3.out) (Jw Ji P22_4.out) (Jw Jg P22_5.out) (Jw Jj P22_6.out) (Jw Jb P23.out) HT.out HL1.out).mono ?_
   rintro e v24 ⟨g0, G0, rfl, o0, q0, c24⟩
   replace B0 := zb c24 B0
   replace X1 := zb c24 X1
   replace X2 := zb c24 X2
   replace X3 := zb c24 X3
   replace P2_0 := zf Jd P2_0 c24
   replace P2_3 := zf Jb P2_3 c24
   replace P2_4 := zf Ji P2_4 c24
   replace P2_5 := zf Jg P2_5 c24
   replace P2_6 := zf Jj P2_6 c24
   replace P3 := zf Jb P3 c24
   replace P4_0 := zf Jd P4_0 c24
   replace P4_3 := zf Jb P4_3 c24
   replace P4_4 := zf Ji P4_4 c24
   replace P4_5 := zf Jg P4_5 c24
   replace P4_6 := zf Jj P4_6 c24
   replace P9_0 := zf Jd P9_0 c24
   replace P9_3 := zf Jb P9_3 c24
   replace P9_4 := zf Ji P9_4 c24
   replace P9_5 := zf Jg P9_5 c24
   replace P9_6 := zf Jj P9_6 c24
   replace P22_0 := zf Jd P22_0 c24
   replace P22_3 := zf Jb P22_3 c24
   replace P22_4 := zf Ji P22_4 c24
   replace P22_5 := zf Jg P22_5 c24
   replace P22_6 := zf Jj P22_6 c24
   replace P23 := zf Jb P23 c24
   replace d := zD d c24
   have Z_v24 := hd (show v23.heap.size ≤ v24.heap.size from c24.size)
   clear c24
   replace o0 := Kf.lt o0
   obtain ⟨y24_0, y24_3, y24_4, y24_5, y24_6, ety24_3, K24_0, K24_3, K24_4, K24_5, K24_6, rfl, p24_0, p24_3, p24_4, p24_5, p24_6, w24_0, w24_3, w24_4, w24_5, w24_6, d24_0_3, d24_0_4, d24_0_5, d24_0_6, d24_3_4, d24_3_5, d24_3_6, d24_4_5, d24_4_6, d24_5_6⟩ := Xv o0
   obtain ⟨ya24_0, yc24_0, rfl⟩ := Js p24_0
   have P24_0 := hd p24_0
   have Q24_0 := hd (fun b h => (show v23.heap.size ≤ b ∧ b < v24.heap.size from ⟨q0 b (w24_0 b h).1, (w24_0 b h).2⟩))
   obtain ⟨ya24_3, yc24_3, rfl⟩ := Js p24_3
   have P24_3 := hd p24_3
   have Q24_3 := hd (fun b h => (show v23.heap.size ≤ b ∧ b < v24.heap.size from ⟨q0 b (w24_3 b h).1, (w24_3 b h).2⟩))
   obtain ⟨ya24_4, yc24_4, rfl⟩ := Js p24_4
   have P24_4 := hd p24_4
   have Q24_4 := hd (fun b h => (show v23.heap.size ≤ b ∧ b < v24.heap.size from ⟨q0 b (w24_4 b h).1, (w24_4 b h).2⟩))
   obtain ⟨ya24_5, yc24_5, rfl⟩ := Js p24_5
   have P24_5 := hd p24_5
   have Q24_5 := hd (fun b h => (show v23.heap.size ≤ b ∧ b < v24.heap.size from ⟨q0 b (w24_5 b h).1, (w24_5 b h).2⟩))
   obtain ⟨ya24_6, yc24_6, rfl⟩ := Js p24_6
   have P24_6 := hd p24_6
   have Q24_6 := hd (fun b h => (show v23.heap.size ≤ b ∧ b < v24.heap.size from ⟨q0 b (w24_6 b h).1, (w24_6 b h).2⟩))
   have D24_0_3 := hd d24_0_3
   clear d24_0_3
   have D24_0_4 := hd d24_0_4
   clear d24_0_4
   have D24_0_5 := hd d24_0_5
   clear d24_0_5
   have D24_0_6 := hd d24_0_6
   clear d24_0_6
   have D24_3_4 := hd d24_3_4
   clear d24_3_4
   have D24_3_5 := hd d24_3_5
   clear d24_3_5
   have D24_3_6 := hd d24_3_6
   clear d24_3_6
   have D24_4_5 := hd d24_4_5
   clear d24_4_5
   have D24_4_6 := hd d24_4_6
   clear d24_4_6
   have D24_5_6 := hd d24_5_6
   clear d24_5_6
   clear p24_0 w24_0 p24_3 w24_3 p24_4 w24_4 p24_5 w24_5 p24_6 w24_6 o0 q0
   have hal : Below v24 v24 (v24.alloc (.cells #[.slice ya24_0 xr0_0.length yc24_0, ar0_1, ar0_2, .slice ya24_3 xr0_3.length yc24_3, .slice ya24_4 xr0_4.length yc24_4, .slice ya24_5 xr0_5.length yc24_5, .slice ya24_6 xr0_6.length yc24_6, ar0_7] 43)) := (Eh _ _).alloc (Ed _) _
   have X4 := hd (Uw v24 (.cells #[.slice ya24_0 xr0_0.length yc24_0, ar0_1, ar0_2, .slice ya24_3 xr0_3.length yc24_3, .slice ya24_4 xr0_4.length yc24_4, .slice ya24_5 xr0_5.length yc24_5, .slice ya24_6 xr0_6.length yc24_6, ar0_7] 43))
   have Y_X4 := hd (show v24.heap.size < (v24.alloc (.cells #[.slice ya24_0 xr0_0.length yc24_0, ar0_1, ar0_2, .slice ya24_3 xr0_3.length yc24_3, .slice ya24_4 xr0_4.length yc24_4, .slice ya24_5 xr0_5.length yc24_5, .slice ya24_6 xr0_6.length yc24_6, ar0_7] 43)).heap.size by simp [Ux])
   replace B0 := zb hal B0
   replace X1 := zb hal X1
   replace X2 := zb hal X2
   replace X3 := zb hal X3
   replace P2_0 := zf Jd P2_0 hal
   replace P2_3 := zf Jb P2_3 hal
   replace P2_4 := zf Ji P2_4 hal
   replace P2_5 := zf Jg P2_5 hal
   replace P2_6 := zf Jj P2_6 hal
   replace P3 := zf Jb P3 hal
   replace P4_0 := zf Jd P4_0 hal
   replace P4_3 := zf Jb P4_3 hal
   replace P4_4 := zf Ji P4_4 hal
   replace P4_5 := zf Jg P4_5 hal
   replace P4_6 := zf Jj P4_6 hal
   replace P9_0 := zf Jd P9_0 hal
   replace P9_3 := zf Jb P9_3 hal
   replace P9_4 := zf Ji P9_4 hal
   replace P9_5 := zf Jg P9_5 hal
   replace P9_6 := zf Jj P9_6 hal
   replace P22_0 := zf Jd P22_0 hal
   replace P22_3 := zf Jb P22_3 hal
   replace P22_4 := zf Ji P22_4 hal
   replace P22_5 := zf Jg P22_5 hal
   replace P22_6 := zf Jj P22_6 hal
   replace P23 := zf Jb P23 hal
   replace P24_0 := zf Jd P24_0 hal
   replace P24_3 := zf Jb P24_3 hal
   replace P24_4 := zf Ji P24_4 hal
   replace P24_5 := zf Jg P24_5 hal
   replace P24_6 := zf Jj P24_6 hal
   replace d := zD d hal
   clear hal
   have cp_X1_0 := Kh X1.out
   have cp_X4_0 := Kh X4.out
   go_wp2_with fail
   clear cp_X1_0 cp_X4_0
   generalize (v24.alloc (.cells #[.slice ya24_0 xr0_0.length yc24_0, ar0_1, ar0_2, .slice ya24_3 xr0_3.length yc24_3, .slice ya24_4 xr0_4.length yc24_4, .slice ya24_5 xr0_5.length yc24_5, .slice ya24_6 xr0_6.length yc24_6, ar0_7] 43)) = u25 at *
   refine (eqEngine_T ar0_1 ar0_2 ar0_7 (.slice ya24_0 xr0_0.length yc24_0) (.slice ya24_3 xr0_3.length yc24_3) (.slice ya24_4 xr0_4.length yc24_4) (.slice ya24_5 xr0_5.length yc24_5) (.slice ya24_6 xr0_6.length yc24_6) xr0_0 xr0_3 xr0_4 xr0_5 xr0_6 (.slice ya4_0 xr0_0.length yc4_0) (.slice ya4_3 xr0_3.length yc4_3) (.slice ya4_4 xr0_4.length yc4_4) (.slice ya4_5 xr0_5.length yc4_5) (.slice ya4_6 xr0_6.length yc4_6) u25 (Jw Jd P24_0.out) (Jw Jb P24_3.out) (Jw Ji P24_4.out) (Jw Jg P24_5.out) (Jw Jj P24_6.out) (Jw Jd P4_0.out) (Jw Jb P4_3.out) (Jw Ji P4_4.out) (Jw Jg P4_5.out) (Jw Jj P4_6.out) Z0_0.out Z0_3.out Z0_4.out Z0_5.out Z0_6.out).mono ?_
   rintro e v26 ⟨rfl, c26⟩
   replace B0 := zb c26 B0
   replace X1 := zb c26 X1
   replace X2 := zb c26 X2
   replace X3 := zb c26 X3
   replace X4 := zb c26 X4
   replace P2_0 := zf Jd P2_0 c26
   replace P2_3 := zf Jb P2_3 c26
   replace P2_4 := zf Ji P2_4 c26
   replace P2_5 := zf Jg P2_5 c26
   replace P2_6 := zf Jj P2_6 c26
   replace P3 := zf Jb P3 c26
   replace P4_0 := zf Jd P4_0 c26
   replace P4_3 := zf Jb P4_3 c26
   replace P4_4 := zf Ji P4_4 c26
   replace P4_5 := zf Jg P4_5 c26
   replace P4_6 := zf Jj P4_6 c26
   replace P9_0 := zf Jd P9_0 c26
   replace P9_3 := zf Jb P9_3 c26
   replace P9_4 := zf Ji P9_4 c26
   replace P9_5 := zf Jg P9_5 c26
   replace P9_6 := zf Jj P9_6 c26
   replace P22_0 := zf Jd P22_0 c26
   replace P22_3 := zf Jb P22_3 c26
   replace P22_4 := zf Ji P22_4 c26
   replace P22_5 := zf Jg P22_5 c26
   replace P22_6 := zf Jj P22_6 c26
   replace P23 := zf Jb P23 c26
   replace P24_0 := zf Jd P24_0 c26
   replace P24_3 := zf Jb P24_3 c26
   replace P24_4 := zf Ji P24_4 c26
   replace P24_5 := zf Jg P24_5 c26
   replace P24_6 := zf Jj P24_6 c26
   replace d := zD d c26
   have Z_v26 := hd (show u25.heap.size ≤ v26.heap.size from c26.size)
   clear c26
   have cp_X3_0 := Kh X3.out
   go_wp2_with fail
   clear cp_X3_0
   refine (heldEngine_T ar0_1 ar0_2 ar0_7 (.slice ya9_0 xr0_0.length yc9_0) (.slice ya9_3 xr0_3.length yc9_3) (.slice ya9_4 xr0_4.length yc9_4) (.slice ya9_5 xr0_5.length yc9_5) (.slice ya9_6 xr0_6.length yc9_6) xr0_0 xr0_3 xr0_4 xr0_5 xr0_6 (1) v26 (Jw Jd P9_0.out) (Jw Jb P9_3.out) (Jw Ji P9_4.out) (Jw Jg P9_5.out) (Jw Jj P9_6.out) Z0_0.out Z0_3.out Z0_4.out Z0_5.out Z0_6.out MR0.out.1 (by have := MR0.out.2; omega)).mono ?_
   rintro e v27 ⟨rfl, c27⟩
   replace B0 := zb c27 B0
   replace X1 := zb c27 X1
   replace X2 := zb c27 X2
   replace X3 := zb c27 X3
   replace X4 := zb c27 X4
   replace P2_0 := zf Jd P2_0 c27
   replace P2_3 := zf Jb P2_3 c27
   replace P2_4 := zf Ji P2_4 c27
   replace P2_5 := zf Jg P2_5 c27
   replace P2_6 := zf Jj P2_6 c27
   replace P3 := zf Jb P3 c27
   replace P4_0 := zf Jd P4_0 c27
   replace P4_3 := zf Jb P4_3 c27
   replace P4_4 := zf Ji P4_4 c27
   replace P4_5 := zf Jg P4_5 c27
   replace P4_6 := zf Jj P4_6 c27
   replace P9_0 := zf Jd P9_0 c27
   replace P9_3 := zf Jb P9_3 c27
   replace P9_4 := zf Ji P9_4 c27
   replace P9_5 := zf Jg P9_5 c27
   replace P9_6 := zf Jj P9_6 c27
   replace P22_0 := zf Jd P22_0 c27
   replace P22_3 := zf Jb P22_3 c27
   replace P22_4 := zf Ji P22_4 c27
   replace P22_5 := zf Jg P22_5 c27
   replace P22_6 := zf Jj P22_6 c27
   replace P23 := zf Jb P23 c27
   replace P24_0 := zf Jd P24_0 c27
   replace P24_3 := zf Jb P24_3 c27
   replace P24_4 := zf Ji P24_4 c27
   replace P24_5 := zf Jg P24_5 c27
   replace P24_6 := zf Jj P24_6 c27
   replace d := zD d c27
   have Z_v27 := hd (show v26.heap.size ≤ v27.heap.size from c27.size)
   clear c27
   go_wp2
   go_ret
   exact ⟨rfl, HB0.out.trans (d.out.mono HB0.out.size)⟩
  ·
   have hl1 : ¬ (1048576 : Int) < (x1_0.length : Int) := by omega
   have HL1 := hd c0
   have HZ0 : Hid ((1048576 : Int) < ((zL Je x0_0 + zL Jf x0_3 + zL Jm x0_4 + zL Jk x0_5 + zL Jp x0_6 : Nat) : Int)) := hd (by omega)
   have HP0 : Hid (0 ≤ (1048576 : Int)) := hd (by omega)
   have HK0 : Hid ((1048576 : Int) ≤ 1048576) := hd (by omega)
   clear c1
   go_enter Tryz.func6, Tryz.ntmps6
   go_wp2_with fail
   have Y_W : Hid (w.heap.size + 1 ≤ (w.alloc (.cells #[.slice c0_0 x0_0.length k0_0, a0_1, a0_2, .slice c0_3 x0_3.length k0_3, .slice c0_4 x0_4.length k0_4, .slice c0_5 x0_5.length k0_5, .slice c0_6 x0_6.length k0_6, a0_7] 30)).heap.size) := hd (by simp [Ux])
   generalize (w.alloc (.cells #[.slice c0_0 x0_0.length k0_0, a0_1, a0_2, .slice c0_3 x0_3.length k0_3, .slice c0_4 x0_4.length k0_4, .slice c0_5 x0_5.length k0_5, .slice c0_6 x0_6.length k0_6, a0_7] 30)) = W at *
   have d := hd (Eh W.heap.size W)
   refine (szEngine_N a0_1 a0_2 a0_7 (.slice c0_0 x0_0.length k0_0) (.slice c0_3 x0_3.length k0_3) (.slice c0_4 x0_4.length k0_4) (.slice c0_5 x0_5.length k0_5) (.slice c0_6 x0_6.length k0_6) x0_0 x0_3 x0_4 x0_5 x0_6 ((1048576 : Int)) W (Jc Jd A0_0.out d.out) (Jc Jb A0_3.out d.out) (Jc Ji A0_4.out d.out) (Jc Jg A0_5.out d.out) (Jc Jj A0_6.out d.out) HZ0.out HK0.out HP0.out O0_0.out O0_3.out O0_4.out O0_5.out O0_6.out).mono ?_
   rintro e v1 ⟨rfl, c1⟩
   replace B0 := zb c1 B0
   replace d := zD d c1
   have Z_v1 := hd (show W.heap.size ≤ v1.heap.size from c1.size)
   clear c1
   go_wp2
   go_ret
   exact ⟨rfl, HB0.out.trans (d.out.mono HB0.out.size)⟩
 ·
  have hl1 : (1048576 : Int) < (x1_0.length : Int) := by omega
  have hm1 : (x1_0.length : Int) ≤ 9223372036854775807 := O1_0.out.1
  clear c0
  go_enter Tryz.func6, Tryz.ntmps6
  go_wp2
  go_ret
  exact ⟨rfl, HB0.out⟩
end Go.Proofs.YtcolddalajoheaaGreatDoor
