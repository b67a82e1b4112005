/-
 Texts of the proof, merged: JIntS, JVersion, JVersionS, JVersionSS, JStore, JCond, JCondS, JQuery, JRow, JRowS, JActive, JFinished, JCharge, JActiveS, JFinishedS, JChargeS, JEngine.
-/
import Derived.Test.YtnepfacnmaoieaaGreatDoorCA1
import Derived.Test.YtnepfacnmaoieaaGreatDoorCA2
import Derived.Test.YtnepfacnmaoieaaGreatDoorCA4
import Derived.BigQuiet
import Derived.Deep.QuietTactic
import Derived.Deep.RegionHeld3
import Derived.Deep.Cut
namespace Go.Proofs.YtnepfacnmaoieaaGreatDoor
open Go.RowKit
open Go renaming frozen_of_row → Ez
open Go.World renaming size_alloc → Ie
open Nat renaming le_refl → Ii, zero_le → Ij
open Go.Value.slice renaming injEq → Ik
open Go.RowKit.Below renaming refl → Il
open ZD0
set_option maxRecDepth 100000
set_option linter.unusedVariables false
set_option linter.unusedSimpArgs false
theorem tIntES_one : tIntES.One := fun {w cs x} h v hv => by
 obtain ⟨u, rfl, h⟩ := h
 obtain ⟨a, c, rfl⟩ := Jl h
 simp at hv; subst hv; rfl
theorem El {v : Value} {xs : _} {k0 : Int} {w : World} (h : Ko Je w v xs) (hk : k0 ≤ 1048576) (hp : 0 ≤ k0) (ho : tIntS.ok xs) :
  Calls Tryz.prog 50 #[v, .int .i64 k0] w fun e w' => e = .returned (.int .i64 (szR k0 (zL Je xs))) ∧ Below w w w' := by
 by_cases z : ((zL Je xs : Nat) : Int) ≤ k0
 ·
  rw [Yc z]; exact szIntS_Y _ _ _ _ h z hk
 ·
  rw [Vg z]; exact szIntS_N _ _ _ _ h (by omega) hk hp ho
theorem Ek {v : Value} {xs : _} {w : World} (h : Ko Je w v xs) (hs : zL Je xs ≤ 1048576) : Calls Tryz.prog 57 #[v] w (Xg 3 Je w xs) := toIntS_S _ _ _ h hs
theorem En {v u : Value} {xs : _} {w : World} (h : Ko Je w v xs) (g : Ko Je w u xs) (hs : zL Je xs ≤ 1048576) :
  Calls Tryz.prog 65 #[v, u] w fun e w' => e = .returned (.bool true) ∧ Below w w w' := eqIntS_S _ _ _ _ h g hs
theorem tVersion_one : Jh.One := (Kl Vh (Kl (Xm _ _) (Kl Vh Vh)))
theorem tVersion_P {w : World} {cs : List Value} {x0 : _} {x1 : _} {x2 : _} {x3 : _} (h : Jh.R w cs (x0, x1, x2, x3)) : ∃ v1, cs = [.int .i64 x0, v1, .int .i64 x2, .int .i64 x3] ∧ Ko Je w v1 x1 := by
 obtain ⟨_, _, rfl, rfl, ⟨_, _, rfl, ⟨v1, rfl, h1⟩, ⟨_, _, rfl, rfl, rfl⟩⟩⟩ := h
 exact ⟨v1, rfl, h1⟩
theorem szVersion_eq {x0 : _} {x1 : _} {x2 : _} {x3 : _} : Jh.sz (x0, x1, x2, x3) = zL Je x1 := by
 simp only [Jh, Vt, Yk, Xo]; try omega
def leVersion (x : Int × List Int × Int × Int) : Prop := zL Je x.2.1 ≤ 1048576
theorem leVersion_of {x : Int × List Int × Int × Int} (h : Jh.sz x ≤ 1048576) : leVersion x := by
 obtain ⟨x0, x1, x2, x3⟩ := x
 rw [szVersion_eq] at h
 show zL Je x1 ≤ _; omega
set_option maxHeartbeats 8000000 in
theorem szK_Version {cs : List Value} {x : _} {k0 : Int} {w : World} (h : Jh.R w cs x) (hk : k0 ≤ 1048576) (hp : 0 ≤ k0) (ho : Jh.ok x) :
  Calls Tryz.prog 235 #[.agg cs.toArray, .int .i64 k0] w fun e w' => e = .returned (.int .i64 (szR k0 (Jh.sz x))) ∧ Below w w w' := by
 obtain ⟨x0, x1, x2, x3⟩ := x
 obtain ⟨v1, rfl, h1⟩ := tVersion_P h
 rw [szVersion_eq]
 obtain ⟨o0, o1, o2, o3⟩ := ho
 have H1 := zh h1
 have O1 := zh o1
 clear h1
 clear o0 o1 o2 o3
 have SP := zh ((St.init w).box [.int .i64 x0, v1, .int .i64 x2, .int .i64 x3] 286)
 go_enter Tryz.func235, Tryz.ntmps235
 have ld := Vv (SP.out.gB 0 rfl)
 go_wp2_with fail
 clear ld
 generalize (w.alloc (.cells #[.int .i64 x0, v1, .int .i64 x2, .int .i64 x3] 286)) = W0 at *
 refine (El (Jb Jc H1.out SP.out.d) (k0 := k0) (by omega) (by omega) O1.out).mono ?_
 rintro e W1 ⟨rfl, c⟩
 replace SP := zh (SP.out.below c)
 clear c
 by_cases z0 : ((zL Je x1 : Nat) : Int) ≤ k0
 rotate_left
 ·
  rw [Vg z0]
  have HE := zh (Vg (k := k0) (z := zL Je x1) (by omega))
  clear z0
  go_wp2
  go_ret
  exact ⟨Vc HE.out.symm, SP.out.d⟩
 rw [Yc z0]
 have n0 : ¬ k0 - ((zL Je x1 : Nat) : Int) < 0 := by omega
 have HE : Hid (szR k0 (zL Je x1) = k0 - ((zL Je x1 : Nat) : Int)) := zh (by rw [Yc (by omega)]; try omega)
 go_wp2
 go_ret
 exact ⟨Vc HE.out.symm, SP.out.d⟩
set_option maxHeartbeats 8000000 in
theorem eqK_Version {cs ds : List Value} {x : _} {w : World} (h : Jh.R w cs x) (g : Jh.R w ds x) (hs : leVersion x) :
  Calls Tryz.prog 244 #[.agg cs.toArray, .agg ds.toArray] w fun e w' => e = .returned (.bool true) ∧ Below w w w' := by
 obtain ⟨x0, x1, x2, x3⟩ := x
 obtain ⟨v1, rfl, h1⟩ := tVersion_P h
 obtain ⟨v1', rfl, h1'⟩ := tVersion_P g
 have l1 := hs
 have H1 := zh h1; have G1 := zh h1'; have S1 := zh l1
 clear h1 h1'
 clear l1
 have e0 : (x0 != x0) = false := by simp
 have e2 : (x2 != x2) = false := by simp
 have e3 : (x3 != x3) = false := by simp
 have SP : Hid (St w [iB (w.heap.size + 1) [.int .i64 x0, v1', .int .i64 x2, .int .i64 x3] 212, iB w.heap.size [.int .i64 x0, v1, .int .i64 x2, .int .i64 x3] 212] ((w.alloc (.cells #[.int .i64 x0, v1, .int .i64 x2, .int .i64 x3] 212)).alloc (.cells #[.int .i64 x0, v1', .int .i64 x2, .int .i64 x3] 212))) := zh (by have := ((St.init w).box [.int .i64 x0, v1, .int .i64 x2, .int .i64 x3] 212).box [.int .i64 x0, v1', .int .i64 x2, .int .i64 x3] 212; simpa only [Ie] using this)
 go_enter Tryz.func244, Tryz.ntmps244
 have ld := Vv (SP.out.gB 1 rfl)
 have lc := Vv (SP.out.gB 0 rfl)
 go_wp2_with fail
 clear ld lc
 generalize ((w.alloc (.cells #[.int .i64 x0, v1, .int .i64 x2, .int .i64 x3] 212)).alloc (.cells #[.int .i64 x0, v1', .int .i64 x2, .int .i64 x3] 212)) = W0 at *
 refine (En (Jb Jc H1.out SP.out.d) (Jb Jc G1.out SP.out.d) S1.out).mono ?_
 rintro e W1 ⟨rfl, c⟩
 replace SP := zh (SP.out.below c)
 clear c
 have ld := Vv (SP.out.gB 1 rfl)
 have lc := Vv (SP.out.gB 0 rfl)
 go_wp2
 go_ret
 exact ⟨rfl, SP.out.d⟩
set_option maxHeartbeats 8000000 in
theorem toK_Version {cs : List Value} {x : _} {w : World} (h : Jh.R w cs x) (hs : Jh.sz x ≤ 1048576) :
  Calls Tryz.prog 236 #[.agg cs.toArray] w (Yy Jh (fun cs => .agg cs.toArray) w x) := by
 obtain ⟨x0, x1, x2, x3⟩ := x
 obtain ⟨v1, rfl, h1⟩ := tVersion_P h
 rw [szVersion_eq] at hs
 have H1 := zh h1; have S1 := zh (show zL Je x1 ≤ 1048576 by omega)
 clear hs h1
 have SP : Hid (St w [iB (w.heap.size + 1 + 1) [Ja, (), Ja, Ja] 212, iB (w.heap.size + 1) [Ja, (), Ja, Ja] 212, iB w.heap.size [.int .i64 x0, v1, .int .i64 x2, .int .i64 x3] 286] (((w.alloc (.cells #[.int .i64 x0, v1, .int .i64 x2, .int .i64 x3] 286)).alloc (.cells #[Ja, (), Ja, Ja] 212)).alloc (.cells #[Ja, (), Ja, Ja] 212))) := zh (by have := (((St.init w).box [.int .i64 x0, v1, .int .i64 x2, .int .i64 x3] 286).box [Ja, (), Ja, Ja] 212).box [Ja, (), Ja, Ja] 212; simpa only [Ie] using this)
 go_enter Tryz.func236, Tryz.ntmps236
 go_upto_region 2 with fail
 generalize (((w.alloc (.cells #[.int .i64 x0, v1, .int .i64 x2, .int .i64 x3] 286)).alloc (.cells #[Ja, (), Ja, Ja] 212)).alloc (.cells #[Ja, (), Ja, Ja] 212)) = W0 at *
 have ld := Vv (SP.out.gB 2 rfl)
 have le := Vv (SP.out.gB 0 rfl)
 have fz := froz4 (SP.out.gB 0 rfl)
 go_upto_region 3 with fail
 clear ld le fz
 have e := Jv (SP.out.gB 0 rfl) 0 (.int .i64 x0)
 simp only [List.setIfInBounds_toArray, List.set_cons_succ, List.set_cons_zero] at e
 rw [e]
 clear e
 replace SP := zh (SP.out.store 0 rfl [.int .i64 x0, (), Ja, Ja])
 generalize W0.setRow (w.heap.size + 1 + 1) #[.int .i64 x0, .slice none 0 0, .int .i64 0, .int .i64 0] = Y0 at *
 have ld := Vv (SP.out.gB 2 rfl)
 go_wp2_with fail
 clear ld
 refine (Ek (Jb Jc H1.out SP.out.d) S1.out).mono ?_
 rintro e V1 ⟨g1, rfl, o, c⟩
 obtain ⟨ga1, gc1, rfl⟩ := Ju o
 obtain ⟨F1, sp⟩ := SP.out.pushTE Jc Vm c o (fun b h => h)
 replace SP := zh sp
 clear sp o c
 have le := Vv (SP.out.gB 1 rfl)
 have fz := froz4 (SP.out.gB 1 rfl)
 go_upto_region 4 with fail
 clear le fz
 have e := Jv (SP.out.gB 1 rfl) 1 (.slice ga1 x1.length gc1)
 simp only [List.setIfInBounds_toArray, List.set_cons_succ, List.set_cons_zero] at e
 rw [e]
 clear e
 replace SP := zh (SP.out.store 1 rfl [.int .i64 x0, .slice ga1 x1.length gc1, Ja, Ja])
 generalize V1.setRow (w.heap.size + 1 + 1) #[.int .i64 x0, .slice ga1 x1.length gc1, .int .i64 0, .int .i64 0] = Y1 at *
 have ld := Vv (SP.out.gB 3 rfl)
 have le := Vv (SP.out.gB 1 rfl)
 have fz := froz4 (SP.out.gB 1 rfl)
 go_upto_region 5 with fail
 clear ld le fz
 have e := Jv (SP.out.gB 1 rfl) 2 (.int .i64 x2)
 simp only [List.setIfInBounds_toArray, List.set_cons_succ, List.set_cons_zero] at e
 rw [e]
 clear e
 replace SP := zh (SP.out.store 1 rfl [.int .i64 x0, .slice ga1 x1.length gc1, .int .i64 x2, Ja])
 generalize Y1.setRow (w.heap.size + 1 + 1) #[.int .i64 x0, .slice ga1 x1.length gc1, .int .i64 x2, .int .i64 0] = Y2 at *
 have ld := Vv (SP.out.gB 3 rfl)
 have le := Vv (SP.out.gB 1 rfl)
 have fz := froz4 (SP.out.gB 1 rfl)
 go_upto_region 6 with fail
 clear ld le fz
 have e := Jv (SP.out.gB 1 rfl) 3 (.int .i64 x3)
 simp only [List.setIfInBounds_toArray, List.set_cons_succ, List.set_cons_zero] at e
 rw [e]
 clear e
 replace SP := zh (SP.out.store 1 rfl [.int .i64 x0, .slice ga1 x1.length gc1, .int .i64 x2, .int .i64 x3])
 generalize Y2.setRow (w.heap.size + 1 + 1) #[.int .i64 x0, .slice ga1 x1.length gc1, .int .i64 x2, .int .i64 x3] = Y3 at *
 generalize hu0 : Value.int .i64 x0 = u0 at SP
 have on0 : ∀ v ∈ [u0], v.oneCell' = true := by rw [← hu0]; simp [Value.oneCell']
 have HU0 := zh hu0
 clear hu0
 generalize hu1 : Value.slice ga1 x1.length gc1 = u1 at SP
 have on1 : ∀ v ∈ [u1], v.oneCell' = true := by rw [← hu1]; simp [Value.oneCell']
 have HU1 := zh hu1
 clear hu1
 generalize hu2 : Value.int .i64 x2 = u2 at SP
 have on2 : ∀ v ∈ [u2], v.oneCell' = true := by rw [← hu2]; simp [Value.oneCell']
 have HU2 := zh hu2
 clear hu2
 generalize hu3 : Value.int .i64 x3 = u3 at SP
 have on3 : ∀ v ∈ [u3], v.oneCell' = true := by rw [← hu3]; simp [Value.oneCell']
 have HU3 := zh hu3
 clear hu3
 have hone := (Kk on0 (Kk on1 (Kk on2 on3)))
 clear on0 on1 on2 on3
 have ld := Vv (SP.out.gB 1 rfl)
 have st := rst4 (P := Tryz.prog) (SP.out.gB 2 rfl) hone
 go_wp2
 clear ld st hone
 replace SP := zh (SP.out.store 2 rfl [u0, u1, u2, u3])
 generalize Y3.setRow (w.heap.size + 1) #[u0, u1, u2, u3] = YY at *
 have ld := Vv (SP.out.gB 2 rfl)
 have J := SP.out.sub [0] (by decide)
 refine bodyPost_ret (v := .agg #[u0, u1, u2, u3]) (by simp [results, Tryz.f236, go_sem, ld]) rfl ?_
 replace J := J.pval (Km Jc Jc) (o_pair (o_int x2) (o_int x3))
 replace J := J.intp x0
 obtain rfl := HU0.out
 obtain rfl := HU1.out
 obtain rfl := HU2.out
 obtain rfl := HU3.out
 exact ⟨_, rfl, J.outC, SP.out.d⟩
set_option maxHeartbeats 8000000 in
theorem szKS_VersionS {v : Value} {xs : _} {k0 : Int} {w : World} (h : Ko Jh w v xs) (hk : k0 ≤ 1048576) (hp : 0 ≤ k0) (ho : Jd.ok xs) :
  Calls Tryz.prog 182 #[v, .int .i64 k0] w fun e w' => e = .returned (.int .i64 (szR k0 (zL Jh xs))) ∧ Below w w w' := by
 have H := zh h
 have OX := zh ho.2
 have hn := ho.1
 obtain ⟨a, cap, rfl⟩ := Jl h
 clear h ho
 by_cases h1 : k0 < (xs.length : Int)
 ·
  have hneg : k0 - (xs.length : Int) < 0 := by omega
  have HE := zh (Vg (k := k0) (z := zL Jh xs) (by have := Eo (T := Jh) (xs := xs) (Ij _); rw [Yf] at this; omega))
  go_enter Tryz.func182, Tryz.ntmps182
  go_wp2
  go_ret
  exact ⟨Vc HE.out.symm, Il _ _⟩
 ·
  go_enter Tryz.func182, Tryz.ntmps182
  have hneg : ¬ k0 - (xs.length : Int) < 0 := by omega
  go_wp2
  clear hneg
  go_loopw [1, 5] (fun l i wr => ∃ k : Nat, k ≤ xs.length ∧ i = .int .i64 k ∧ l = .int .i64 (k0 - (zTo Jh xs k : Int)) ∧ (zTo Jh xs k : Int) ≤ k0 ∧ Below w w wr) (fun _ i _ => xs.length - (intOf i).toNat)
  case atStart => exact ⟨0, Ij _, rfl, by rw [Yf], by rw [Yf]; omega, Il _ _⟩
  case round =>
   obtain ⟨k, hk', rfl, rfl, hle, hbel⟩ := hrel
   by_cases hlt : k < xs.length
   ·
    have HST := zh (zTo_step (T := Jh) hlt)
    have HLE := zh (Eo (T := Jh) (xs := xs) (k := k + 1) (by omega))
    have HX := zh (OX.out k hlt)
    have i1 : (0 : Int) ≤ (k : Int) := by omega
    have i2 : (k : Int) < (xs.length : Int) := by omega
    obtain ⟨b, off, cap', cs, hv, hbl, hcs, hR⟩ := Ku (Jb Jp H.out hbel) hlt
    simp only [Ik] at hv
    obtain ⟨rfl, _, rfl⟩ := hv
    generalize xs.getD k Jh.d = x at *
    obtain ⟨y0, y1, y2, y3, rfl⟩ := len4 (Jp.len hR)
    have p := row4 (o := off + k * 4) hcs
    have HR := zh hR
    clear hcs hR
    go_wp2_with fail
    refine (szK_Version (k0 := k0 - (zTo Jh xs k : Int)) (Jp.below HR.out (Il _ _)) (by omega) (by omega) HX.out).mono ?_
    rintro e w1 ⟨rfl, b1⟩
    have b2 := hbel.trans (b1.mono hbel.size)
    by_cases hz : ((Jh.sz x : Nat) : Int) ≤ k0 - (zTo Jh xs k : Int)
    ·
     rw [Yc hz]
     have hneg : ¬ k0 - (zTo Jh xs k : Int) - ((Jh.sz x : Nat) : Int) < 0 := by omega
     have HZ := zh hz
     clear hz
     go_wp2
     go_roundw
     case rel => exact ⟨k + 1, by omega, by go_num, by rw [HST.out]; go_num, by rw [HST.out]; have := HZ.out; omega, b2⟩
     case measure => simp [intOf]; omega
    ·
     rw [Vg hz]
     have HE := zh (Vg (k := k0) (z := zL Jh xs) (by have := HST.out; have := HLE.out; omega))
     clear hz
     go_wp2
     go_ret
     exact ⟨Vc HE.out.symm, b2⟩
   ·
    obtain rfl : k = xs.length := by omega
    have HE := zh (Yc (k := k0) (z := zL Jh xs) hle)
    go_wp2
    go_ret
    exact ⟨Vc HE.out.symm, hbel⟩
theorem Tryz.kinfo_VersionS : (Tryz.prog.info? 212).map (fun i => (i.zero, i.size)) = some (some (.agg #[Ja, (), Ja, Ja]), 4) := by kernel_rfl
theorem Tryz.kbytes_VersionS : ((Tryz.prog.info? 212).map (fun i => decide (i.bytes ≤ 512))) = some true := by kernel_rfl
set_option maxHeartbeats 8000000 in
theorem toKS_VersionS {v : Value} {xs : _} {w : World} (h : Ko Jh w v xs) (hs : zL Jh xs ≤ 1048576) :
  Calls Tryz.prog 191 #[v] w (Xg 212 Jh w xs) := by
 obtain ⟨i0, hi, hz0, hz1⟩ : ∃ i0, Tryz.prog.info? 212 = some i0 ∧ i0.zero = some (.agg #[Ja, (), Ja, Ja]) ∧ i0.size = 4 := by
  have h0 := Tryz.kinfo_VersionS
  cases q : Tryz.prog.info? 212 with
  | none => rw [q] at h0; simp at h0
  | some i => rw [q] at h0; simp only [Option.map_some, Option.some.injEq, Prod.mk.injEq] at h0; exact ⟨i, rfl, h0.1, h0.2⟩
 have hz2 : i0.bytes ≤ 512 := by
  have h0 := Tryz.kbytes_VersionS
  rw [hi] at h0
  simpa using h0
 have HI := zh hi; have HZ0 := zh hz0; have HZ1 := zh hz1; have HZ2 := zh hz2
 clear hi hz0 hz1 hz2
 have H := zh h
 have hlen := Jz hs
 have HS := zh hs
 obtain ⟨a, cap, rfl⟩ := Jl h
 clear h hs
 go_enter Tryz.func191, Tryz.ntmps191
 go_wp2_with (at_make; refine wpList_make_full _ rfl (.tmp 6) (.tmp 6) 213 rfl w.heap.size 212 i0 (.agg #[Ja, (), Ja, Ja]) 4 Tryz.underlying213 HI.out HZ0.out HZ1.out _ _ _ _ xs.length rfl rfl rfl rfl (by have h9 := Nat.mul_le_mul HZ2.out hlen; have h8 := Nat.mul_le_mul hlen HZ2.out; omega) (by unfold maxLen; omega) (Ii _) ?_)
 intro w1 hown0 hg0
 have hown1 : Kp 212 Jh w1 (Kw w) (.slice (some ⟨w, 0, none⟩) xs.length xs.length) (List.replicate xs.length Jh.d) := Yz (z := #[.int .i64 0, .slice none 0 0, .int .i64 0, .int .i64 0]) Jp rfl (tVersion_zero w1) (Ii _) hown0
 have hbel1 := (Il w.heap.size w).grown hg0 (Ii _) (fun k hk => by cases hk)
 clear hown0 hg0
 go_wp2
 go_loopw [4] (fun i wr => ∃ k : Nat, k ≤ xs.length ∧ i = .int .i64 k ∧ Kp 212 Jh wr (Kw w) (.slice (some ⟨w, 0, none⟩) xs.length xs.length) (xs.take k ++ List.replicate (xs.length - k) Jh.d) ∧ Below w w wr) (fun i _ => xs.length - (intOf i).toNat)
 case atStart => exact ⟨0, Ij _, rfl, by simpa using hown1, hbel1⟩
 case round =>
  obtain ⟨k, hk, rfl, hown, hbel⟩ := hrel
  by_cases hlt : k < xs.length
  ·
   have HSET := zh (Xb (d := Jh.d) hlt)
   have HKL : k < (xs.take k ++ List.replicate (xs.length - k) Jh.d).length := by rw [Xn hk]; exact hlt
   have i1 : (0 : Int) ≤ (k : Int) := by omega
   have i2 : (k : Int) < (xs.length : Int) := by omega
   have S1 := zh (Vj HS.out hlt)
   obtain ⟨b, off, cap', cs, hv, hbl, hcs, hR⟩ := Ku (Jb Jp H.out hbel) hlt
   simp only [Ik] at hv
   obtain ⟨rfl, _, rfl⟩ := hv
   obtain ⟨cur, hg, hsz, hput⟩ := Xq Jp hown HKL
   have HG := zh hg; have HP := zh hput; have HB := zh hbel
   clear HKL hown1 hbel1 hg hput hown hbel
   generalize xs.getD k Jh.d = x at *
   obtain ⟨y0, y1, y2, y3, rfl⟩ := len4 (Jp.len hR)
   have p := row4 (o := off + k * 4) hcs
   have HR := zh hR
   clear hcs hR
   go_wp2_with fail
   refine (toK_Version HR.out S1.out).mono ?_
   rintro e w2 ⟨gs, rfl, ow, b2⟩
   obtain ⟨g0, g1, g2, g3, rfl⟩ := len4 (Jp.len (Jp.reads ow))
   have hgl := (Array.getElem?_eq_some_iff.1 HG.out).1
   have st := fill4 (P := Tryz.prog) (o := k * 4) ((b2.block _ hgl).trans HG.out) hsz (tVersion_one (Jp.reads ow))
   have HST := zh (HP.out w2 _ _ _ b2 ow (fun b hb => ⟨Nat.le_trans HB.out.size hb, hb⟩))
   rw [HSET.out] at HST
   have B3 := zh (Js (HB.out.trans (b2.mono HB.out.size)) (Vk (b := w.heap.size) (c := Ki cur (k * 4) [g0, g1, g2, g3])) (fun b hb => by rw [hb]; exact Ii _) (Nat.le_trans HB.out.size b2.size))
   clear hsz hgl b2 ow
   go_wp2
   go_roundw
   case rel => exact ⟨k + 1, by omega, by go_num, HST.out, B3.out⟩
   case measure => simp [intOf]; omega
  ·
   obtain rfl : k = xs.length := by omega
   have HE : Hid (xs.take xs.length ++ List.replicate (xs.length - xs.length) Jh.d = xs) := zh (by simp)
   rw [HE.out] at hown
   go_wp2
   go_ret
   exact ⟨_, rfl, hown, hbel⟩
set_option maxHeartbeats 8000000 in
theorem eqKS_VersionS {v u : Value} {xs : _} {w : World} (h : Ko Jh w v xs) (g : Ko Jh w u xs) (hs : zL Jh xs ≤ 1048576) :
  Calls Tryz.prog 204 #[v, u] w fun e w' => e = .returned (.bool true) ∧ Below w w w' := by
 have H := zh h
 have G := zh g
 have HS := zh hs
 obtain ⟨a, cap, rfl⟩ := Jl h
 obtain ⟨a2, cap2, rfl⟩ := Jl g
 have hlen := Jz hs
 clear h g hs
 go_enter Tryz.func204, Tryz.ntmps204
 go_wp2
 go_loopw [5] (fun i wr => ∃ k : Nat, k ≤ xs.length ∧ i = .int .i64 k ∧ Below w w wr) (fun i _ => xs.length - (intOf i).toNat)
 case atStart => exact ⟨0, Ij _, rfl, Il _ _⟩
 case round =>
  obtain ⟨k, hk, rfl, hbel⟩ := hrel
  by_cases hlt : k < xs.length
  ·
   obtain ⟨b, off, cap', cs, hv, hbl, hcs, hR⟩ := Ku (Jb Jp H.out hbel) hlt
   simp only [Ik] at hv
   obtain ⟨rfl, _, rfl⟩ := hv
   obtain ⟨b2, off2, cap2', ds, hv2, hbl2, hds, hQ⟩ := Ku (Jb Jp G.out hbel) hlt
   simp only [Ik] at hv2
   obtain ⟨rfl, _, rfl⟩ := hv2
   have S1 := zh (Vj HS.out hlt)
   have i1 : (0 : Int) ≤ (k : Int) := by omega
   have i2 : (k : Int) < (xs.length : Int) := by omega
   generalize xs.getD k Jh.d = x at *
   obtain ⟨y0, y1, y2, y3, rfl⟩ := len4 (Jp.len hR)
   obtain ⟨z0, z1, z2, z3, rfl⟩ := len4 (Jp.len hQ)
   have p := row4 (o := off + k * 4) hcs; have q := row4 (o := off2 + k * 4) hds
   have HR := zh hR; have HQ := zh hQ; have HB := zh hbel
   clear hcs hds hR hQ hbel
   go_wp2
   go_region_with (first | (go_at_call 244; refine (eqK_Version (by exact Jp.below HR.out ⟨rfl, rfl, rfl, Ii _, fun _ _ => rfl⟩) (by exact Jp.below HQ.out ⟨rfl, rfl, rfl, Ii _, fun _ _ => rfl⟩) (leVersion_of S1.out)).mono ?_; rintro e w8 ⟨rfl, b9⟩; have b11 := zh (HB.out.trans (Below.mono (B := wr.heap.size) ⟨b9.os, b9.tape, b9.output, b9.size, b9.block⟩ HB.out.size)); clear b9))
   all_goals
    go_wp2
    go_roundw
    case rel => exact ⟨k + 1, by omega, by go_num, b11.out⟩
    case measure => simp [intOf]; omega
  ·
   go_wp2
   go_ret
   exact ⟨rfl, hbel⟩
set_option maxHeartbeats 8000000 in
theorem szKS_VersionSS {v : Value} {xs : _} {k0 : Int} {w : World} (h : Ko Jd w v xs) (hk : k0 ≤ 1048576) (hp : 0 ≤ k0) (ho : tVersionSS.ok xs) :
  Calls Tryz.prog 117 #[v, .int .i64 k0] w fun e w' => e = .returned (.int .i64 (szR k0 (zL Jd xs))) ∧ Below w w w' := by
 have H := zh h
 have OX := zh ho.2
 have hn := ho.1
 obtain ⟨a, cap, rfl⟩ := Jl h
 clear h ho
 by_cases h1 : k0 < (xs.length : Int)
 ·
  have hneg : k0 - (xs.length : Int) < 0 := by omega
  have HE := zh (Vg (k := k0) (z := zL Jd xs) (by have := Eo (T := Jd) (xs := xs) (Ij _); rw [Yf] at this; omega))
  go_enter Tryz.func117, Tryz.ntmps117
  go_wp2
  go_ret
  exact ⟨Vc HE.out.symm, Il _ _⟩
 ·
  go_enter Tryz.func117, Tryz.ntmps117
  have hneg : ¬ k0 - (xs.length : Int) < 0 := by omega
  go_wp2
  clear hneg
  go_loopw [1, 5] (fun l i wr => ∃ k : Nat, k ≤ xs.length ∧ i = .int .i64 k ∧ l = .int .i64 (k0 - (zTo Jd xs k : Int)) ∧ (zTo Jd xs k : Int) ≤ k0 ∧ Below w w wr) (fun _ i _ => xs.length - (intOf i).toNat)
  case atStart => exact ⟨0, Ij _, rfl, by rw [Yf], by rw [Yf]; omega, Il _ _⟩
  case round =>
   obtain ⟨k, hk', rfl, rfl, hle, hbel⟩ := hrel
   by_cases hlt : k < xs.length
   ·
    have HST := zh (show zTo Jd xs (k + 1) = zTo Jd xs k + zL Jh (xs.getD k Jd.d) from zTo_step hlt)
    have HLE := zh (Eo (T := Jd) (xs := xs) (k := k + 1) (by omega))
    have HX := zh (OX.out k hlt)
    have i1 : (0 : Int) ≤ (k : Int) := by omega
    have i2 : (k : Int) < (xs.length : Int) := by omega
    obtain ⟨b, off, cap', cs, hv, hbl, hcs, hR⟩ := Ku (Jb Jf H.out hbel) hlt
    simp only [Ik] at hv
    obtain ⟨rfl, _, rfl⟩ := hv
    generalize xs.getD k Jd.d = x at *
    obtain ⟨y0, rfl, hR⟩ := hR
    have p : wr.cell? ⟨b, off + k, none⟩ = some y0 := by have q := hcs 0 Nat.one_pos; rw [show Jd.n = 1 from rfl, Nat.mul_one, Nat.add_zero] at q; exact q
    have HR := zh hR
    clear hcs hR
    go_wp2_with fail
    refine (szKS_VersionS (k0 := k0 - (zTo Jd xs k : Int)) HR.out (by omega) (by omega) HX.out).mono ?_
    rintro e w1 ⟨rfl, b1⟩
    have b2 := hbel.trans (b1.mono hbel.size)
    by_cases hz : ((zL Jh x : Nat) : Int) ≤ k0 - (zTo Jd xs k : Int)
    ·
     rw [Yc hz]
     have hneg : ¬ k0 - (zTo Jd xs k : Int) - ((zL Jh x : Nat) : Int) < 0 := by omega
     have HZ := zh hz
     clear hz
     go_wp2
     go_roundw
     case rel => exact ⟨k + 1, by omega, by go_num, by rw [HST.out]; go_num, by rw [HST.out]; have := HZ.out; omega, b2⟩
     case measure => simp [intOf]; omega
    ·
     rw [Vg hz]
     have HE := zh (Vg (k := k0) (z := zL Jd xs) (by have := HST.out; have := HLE.out; omega))
     clear hz
     go_wp2
     go_ret
     exact ⟨Vc HE.out.symm, b2⟩
   ·
    obtain rfl : k = xs.length := by omega
    have HE := zh (Yc (k := k0) (z := zL Jd xs) hle)
    go_wp2
    go_ret
    exact ⟨Vc HE.out.symm, hbel⟩
theorem Tryz.kinfo_VersionSS : (Tryz.prog.info? 213).map (fun i => (i.zero, i.size)) = some (some (.slice none 0 0), 1) := by kernel_rfl
theorem Tryz.kbytes_VersionSS : ((Tryz.prog.info? 213).map (fun i => decide (i.bytes ≤ 512))) = some true := by kernel_rfl
set_option maxHeartbeats 8000000 in
theorem toKS_VersionSS {v : Value} {xs : _} {w : World} (h : Ko Jd w v xs) (hs : zL Jd xs ≤ 1048576) :
  Calls Tryz.prog 126 #[v] w (Xg 213 Jd w xs) := by
 obtain ⟨i0, hi, hz0, hz1⟩ : ∃ i0, Tryz.prog.info? 213 = some i0 ∧ i0.zero = some (.slice none 0 0) ∧ i0.size = 1 := by
  have h0 := Tryz.kinfo_VersionSS
  cases q : Tryz.prog.info? 213 with
  | none => rw [q] at h0; simp at h0
  | some i => rw [q] at h0; simp only [Option.map_some, Option.some.injEq, Prod.mk.injEq] at h0; exact ⟨i, rfl, h0.1, h0.2⟩
 have hz2 : i0.bytes ≤ 512 := by
  have h0 := Tryz.kbytes_VersionSS
  rw [hi] at h0
  simpa using h0
 have HI := zh hi; have HZ0 := zh hz0; have HZ1 := zh hz1; have HZ2 := zh hz2
 clear hi hz0 hz1 hz2
 have H := zh h
 have hlen := Jz hs
 have HS := zh hs
 obtain ⟨a, cap, rfl⟩ := Jl h
 clear h hs
 go_enter Tryz.func126, Tryz.ntmps126
 go_wp2_with (at_make; refine wpList_make_full _ rfl (.tmp 6) (.tmp 6) 33 rfl w.heap.size 213 i0 () 1 Tryz.underlying33 HI.out HZ0.out HZ1.out _ _ _ _ xs.length rfl rfl rfl rfl (by have h9 := Nat.mul_le_mul HZ2.out hlen; have h8 := Nat.mul_le_mul hlen HZ2.out; omega) (by unfold maxLen; omega) (Ii _) ?_)
 intro w1 hown0 hg0
 have hown1 : Kp 213 Jd w1 (Kw w) (.slice (some ⟨w, 0, none⟩) xs.length xs.length) (List.replicate xs.length Jd.d) := Yz (z := #[.slice none 0 0]) Jf rfl (⟨_, rfl, Ya _ _ _ _⟩) (Ii _) (by rw [show xs.length * Jd.n = xs.length from Nat.mul_one _]; exact hown0)
 have hbel1 := (Il w.heap.size w).grown hg0 (Ii _) (fun k hk => by cases hk)
 clear hown0 hg0
 go_wp2
 go_loopw [4] (fun i wr => ∃ k : Nat, k ≤ xs.length ∧ i = .int .i64 k ∧ Kp 213 Jd wr (Kw w) (.slice (some ⟨w, 0, none⟩) xs.length xs.length) (xs.take k ++ List.replicate (xs.length - k) Jd.d) ∧ Below w w wr) (fun i _ => xs.length - (intOf i).toNat)
 case atStart => exact ⟨0, Ij _, rfl, by simpa using hown1, hbel1⟩
 case round =>
  obtain ⟨k, hk, rfl, hown, hbel⟩ := hrel
  by_cases hlt : k < xs.length
  ·
   have HSET := zh (Xb (d := Jd.d) hlt)
   have HKL : k < (xs.take k ++ List.replicate (xs.length - k) Jd.d).length := by rw [Xn hk]; exact hlt
   have i1 : (0 : Int) ≤ (k : Int) := by omega
   have i2 : (k : Int) < (xs.length : Int) := by omega
   have S1 := zh (Vj HS.out hlt)
   obtain ⟨b, off, cap', cs, hv, hbl, hcs, hR⟩ := Ku (Jb Jf H.out hbel) hlt
   simp only [Ik] at hv
   obtain ⟨rfl, _, rfl⟩ := hv
   obtain ⟨cur, hg, hsz, hput⟩ := Xq Jf hown HKL
   have HG := zh hg; have HP := zh hput; have HB := zh hbel
   clear HKL hown1 hbel1 hg hput hown hbel
   generalize xs.getD k Jd.d = x at *
   obtain ⟨y0, rfl, hR⟩ := hR
   have p : wr.cell? ⟨b, off + k, none⟩ = some y0 := by have q := hcs 0 Nat.one_pos; rw [show Jd.n = 1 from rfl, Nat.mul_one, Nat.add_zero] at q; exact q
   have HR := zh hR
   clear hcs hR
   go_wp2_with fail
   refine (toKS_VersionS HR.out S1.out).mono ?_
   rintro e w2 ⟨g0, rfl, ow, b2⟩
   obtain ⟨ga, gc, rfl⟩ := Ju ow
   replace ow : Jd.O w2 (Kw wr) [.slice ga x.length gc] x := ⟨_, rfl, ow⟩
   have hgl := (Array.getElem?_eq_some_iff.1 HG.out).1
   have hsk : k < cur.size := by rw [show Jd.n = 1 from rfl] at hsz; omega
   have HK := zh hsk; have HG2 := zh ((b2.block _ hgl).trans HG.out)
   obtain ⟨u, hu⟩ := cell_ex HG2.out hsk
   have fz := Ez w2 _ k _ _ HG2.out
   have HST := zh (HP.out w2 _ _ _ b2 ow (fun b hb => ⟨Nat.le_trans HB.out.size hb, hb⟩))
   rw [HSET.out, show Jd.n = 1 from rfl, Nat.mul_one] at HST
   have B3 := zh (Js (HB.out.trans (b2.mono HB.out.size)) (Vk (b := w.heap.size) (c := Ki cur (k) [.slice ga x.length gc])) (fun b hb => by rw [hb]; exact Ii _) (Nat.le_trans HB.out.size b2.size))
   clear hsz hgl b2 ow hsk
   go_upto_region 4 with fail
   clear hu fz
   rw [Jv HG2.out k _, Es HK.out]
   go_wp2
   go_roundw
   case rel => exact ⟨k + 1, by omega, by go_num, HST.out, B3.out⟩
   case measure => simp [intOf]; omega
  ·
   obtain rfl : k = xs.length := by omega
   have HE : Hid (xs.take xs.length ++ List.replicate (xs.length - xs.length) Jd.d = xs) := zh (by simp)
   rw [HE.out] at hown
   go_wp2
   go_ret
   exact ⟨_, rfl, hown, hbel⟩
set_option maxHeartbeats 8000000 in
theorem eqKS_VersionSS {v u : Value} {xs : _} {w : World} (h : Ko Jd w v xs) (g : Ko Jd w u xs) (hs : zL Jd xs ≤ 1048576) :
  Calls Tryz.prog 138 #[v, u] w fun e w' => e = .returned (.bool true) ∧ Below w w w' := by
 have H := zh h
 have G := zh g
 have HS := zh hs
 obtain ⟨a, cap, rfl⟩ := Jl h
 obtain ⟨a2, cap2, rfl⟩ := Jl g
 have hlen := Jz hs
 clear h g hs
 go_enter Tryz.func138, Tryz.ntmps138
 go_wp2
 go_loopw [5] (fun i wr => ∃ k : Nat, k ≤ xs.length ∧ i = .int .i64 k ∧ Below w w wr) (fun i _ => xs.length - (intOf i).toNat)
 case atStart => exact ⟨0, Ij _, rfl, Il _ _⟩
 case round =>
  obtain ⟨k, hk, rfl, hbel⟩ := hrel
  by_cases hlt : k < xs.length
  ·
   obtain ⟨b, off, cap', cs, hv, hbl, hcs, hR⟩ := Ku (Jb Jf H.out hbel) hlt
   simp only [Ik] at hv
   obtain ⟨rfl, _, rfl⟩ := hv
   obtain ⟨b2, off2, cap2', ds, hv2, hbl2, hds, hQ⟩ := Ku (Jb Jf G.out hbel) hlt
   simp only [Ik] at hv2
   obtain ⟨rfl, _, rfl⟩ := hv2
   have S1 := zh (Vj HS.out hlt)
   have i1 : (0 : Int) ≤ (k : Int) := by omega
   have i2 : (k : Int) < (xs.length : Int) := by omega
   generalize xs.getD k Jd.d = x at *
   obtain ⟨y0, rfl, hR⟩ := hR
   obtain ⟨z0, rfl, hQ⟩ := hQ
   have p : wr.cell? ⟨b, off + k, none⟩ = some y0 := by have q := hcs 0 Nat.one_pos; rw [show Jd.n = 1 from rfl, Nat.mul_one, Nat.add_zero] at q; exact q
   have q : wr.cell? ⟨b2, off2 + k, none⟩ = some z0 := by have q := hds 0 Nat.one_pos; rw [show Jd.n = 1 from rfl, Nat.mul_one, Nat.add_zero] at q; exact q
   have HR := zh hR; have HQ := zh hQ; have HB := zh hbel
   clear hcs hds hR hQ hbel
   go_wp2
   go_region_with (first | (go_at_call 204; refine (eqKS_VersionS (by exact Jb Jp HR.out ⟨rfl, rfl, rfl, Ii _, fun _ _ => rfl⟩) (by exact Jb Jp HQ.out ⟨rfl, rfl, rfl, Ii _, fun _ _ => rfl⟩) S1.out).mono ?_; rintro e w8 ⟨rfl, b9⟩; have b11 := zh (HB.out.trans (Below.mono (B := wr.heap.size) ⟨b9.os, b9.tape, b9.output, b9.size, b9.block⟩ HB.out.size)); clear b9))
   all_goals
    go_wp2
    go_roundw
    case rel => exact ⟨k + 1, by omega, by go_num, b11.out⟩
    case measure => simp [intOf]; omega
  ·
   go_wp2
   go_ret
   exact ⟨rfl, hbel⟩
theorem Eh : Ks.One := (Kl (Xm _ _) Vh)
theorem tStore_P {w : World} {cs : List Value} {x0 : _} {x1 : _} (h : Ks.R w cs (x0, x1)) : ∃ v0, cs = [v0, .int .i64 x1] ∧ Ko Jd w v0 x0 := by
 obtain ⟨_, _, rfl, ⟨v0, rfl, h0⟩, rfl⟩ := h
 exact ⟨v0, rfl, h0⟩
theorem szStore_eq {x0 : _} {x1 : _} : Ks.sz (x0, x1) = zL Jd x0 := by
 simp only [Ks, Vt, Yk, Xo]; try omega
def leStore (x : List (List (Int × List Int × Int × Int)) × Int) : Prop := zL Jd x.1 ≤ 1048576
theorem leStore_of {x : List (List (Int × List Int × Int × Int)) × Int} (h : Ks.sz x ≤ 1048576) : leStore x := by
 obtain ⟨x0, x1⟩ := x
 rw [szStore_eq] at h
 show zL Jd x0 ≤ _; omega
set_option maxHeartbeats 8000000 in
theorem szK_Store {cs : List Value} {x : _} {k0 : Int} {w : World} (h : Ks.R w cs x) (hk : k0 ≤ 1048576) (hp : 0 ≤ k0) (ho : Ks.ok x) :
  Calls Tryz.prog 49 #[.agg cs.toArray, .int .i64 k0] w fun e w' => e = .returned (.int .i64 (szR k0 (Ks.sz x))) ∧ Below w w w' := by
 obtain ⟨x0, x1⟩ := x
 obtain ⟨v0, rfl, h0⟩ := tStore_P h
 rw [szStore_eq]
 obtain ⟨o0, o1⟩ := ho
 have H0 := zh h0
 have O0 := zh o0
 clear h0
 clear o0 o1
 have SP := zh ((St.init w).box [v0, .int .i64 x1] 24)
 go_enter Tryz.func49, Tryz.ntmps49
 have ld := Xk (SP.out.gB 0 rfl)
 go_wp2_with fail
 clear ld
 generalize (w.alloc (.cells #[v0, .int .i64 x1] 24)) = W0 at *
 refine (szKS_VersionSS (Jb Jf H0.out SP.out.d) (k0 := k0) (by omega) (by omega) O0.out).mono ?_
 rintro e W1 ⟨rfl, c⟩
 replace SP := zh (SP.out.below c)
 clear c
 by_cases z0 : ((zL Jd x0 : Nat) : Int) ≤ k0
 rotate_left
 ·
  rw [Vg z0]
  have HE := zh (Vg (k := k0) (z := zL Jd x0) (by omega))
  clear z0
  go_wp2
  go_ret
  exact ⟨Vc HE.out.symm, SP.out.d⟩
 rw [Yc z0]
 have n0 : ¬ k0 - ((zL Jd x0 : Nat) : Int) < 0 := by omega
 have HE : Hid (szR k0 (zL Jd x0) = k0 - ((zL Jd x0 : Nat) : Int)) := zh (by rw [Yc (by omega)]; try omega)
 go_wp2
 go_ret
 exact ⟨Vc HE.out.symm, SP.out.d⟩
set_option maxHeartbeats 8000000 in
theorem eqK_Store {cs ds : List Value} {x : _} {w : World} (h : Ks.R w cs x) (g : Ks.R w ds x) (hs : leStore x) :
  Calls Tryz.prog 64 #[.agg cs.toArray, .agg ds.toArray] w fun e w' => e = .returned (.bool true) ∧ Below w w w' := by
 obtain ⟨x0, x1⟩ := x
 obtain ⟨v0, rfl, h0⟩ := tStore_P h
 obtain ⟨v0', rfl, h0'⟩ := tStore_P g
 have l0 := hs
 have H0 := zh h0; have G0 := zh h0'; have S0 := zh l0
 clear h0 h0'
 clear l0
 have e1 : (x1 != x1) = false := by simp
 have SP : Hid (St w [iB (w.heap.size + 1) [v0', .int .i64 x1] 35, iB w.heap.size [v0, .int .i64 x1] 35] ((w.alloc (.cells #[v0, .int .i64 x1] 35)).alloc (.cells #[v0', .int .i64 x1] 35))) := zh (by have := ((St.init w).box [v0, .int .i64 x1] 35).box [v0', .int .i64 x1] 35; simpa only [Ie] using this)
 go_enter Tryz.func64, Tryz.ntmps64
 have ld := Xk (SP.out.gB 1 rfl)
 have lc := Xk (SP.out.gB 0 rfl)
 go_wp2_with fail
 clear ld lc
 generalize ((w.alloc (.cells #[v0, .int .i64 x1] 35)).alloc (.cells #[v0', .int .i64 x1] 35)) = W0 at *
 refine (eqKS_VersionSS (Jb Jf H0.out SP.out.d) (Jb Jf G0.out SP.out.d) S0.out).mono ?_
 rintro e W1 ⟨rfl, c⟩
 replace SP := zh (SP.out.below c)
 clear c
 have ld := Xk (SP.out.gB 1 rfl)
 have lc := Xk (SP.out.gB 0 rfl)
 go_wp2
 go_ret
 exact ⟨rfl, SP.out.d⟩
set_option maxHeartbeats 8000000 in
theorem toK_Store {cs : List Value} {x : _} {w : World} (h : Ks.R w cs x) (hs : Ks.sz x ≤ 1048576) :
  Calls Tryz.prog 56 #[.agg cs.toArray] w (Yy Ks (fun cs => .agg cs.toArray) w x) := by
 obtain ⟨x0, x1⟩ := x
 obtain ⟨v0, rfl, h0⟩ := tStore_P h
 rw [szStore_eq] at hs
 have H0 := zh h0; have S0 := zh (show zL Jd x0 ≤ 1048576 by omega)
 clear hs h0
 have SP : Hid (St w [iB (w.heap.size + 1 + 1) [(), Ja] 35, iB (w.heap.size + 1) [(), Ja] 35, iB w.heap.size [v0, .int .i64 x1] 24] (((w.alloc (.cells #[v0, .int .i64 x1] 24)).alloc (.cells #[(), Ja] 35)).alloc (.cells #[(), Ja] 35))) := zh (by have := (((St.init w).box [v0, .int .i64 x1] 24).box [(), Ja] 35).box [(), Ja] 35; simpa only [Ie] using this)
 go_enter Tryz.func56, Tryz.ntmps56
 go_upto_region 2 with fail
 generalize (((w.alloc (.cells #[v0, .int .i64 x1] 24)).alloc (.cells #[(), Ja] 35)).alloc (.cells #[(), Ja] 35)) = W0 at *
 have ld := Xk (SP.out.gB 2 rfl)
 go_wp2_with fail
 clear ld
 refine (toKS_VersionSS (Jb Jf H0.out SP.out.d) S0.out).mono ?_
 rintro e V0 ⟨g0, rfl, o, c⟩
 obtain ⟨ga0, gc0, rfl⟩ := Ju o
 obtain ⟨F0, sp⟩ := SP.out.pushTE Jf tVersionSS_law c o (fun b h => h)
 replace SP := zh sp
 clear sp o c
 have le := Xk (SP.out.gB 1 rfl)
 have fz := froz2 (SP.out.gB 1 rfl)
 go_upto_region 3 with fail
 clear le fz
 have e := Jv (SP.out.gB 1 rfl) 0 (.slice ga0 x0.length gc0)
 simp only [List.setIfInBounds_toArray, List.set_cons_succ, List.set_cons_zero] at e
 rw [e]
 clear e
 replace SP := zh (SP.out.store 1 rfl [.slice ga0 x0.length gc0, Ja])
 generalize V0.setRow (w.heap.size + 1 + 1) #[.slice ga0 x0.length gc0, .int .i64 0] = Y0 at *
 have ld := Xk (SP.out.gB 3 rfl)
 have le := Xk (SP.out.gB 1 rfl)
 have fz := froz2 (SP.out.gB 1 rfl)
 go_upto_region 4 with fail
 clear ld le fz
 have e := Jv (SP.out.gB 1 rfl) 1 (.int .i64 x1)
 simp only [List.setIfInBounds_toArray, List.set_cons_succ, List.set_cons_zero] at e
 rw [e]
 clear e
 replace SP := zh (SP.out.store 1 rfl [.slice ga0 x0.length gc0, .int .i64 x1])
 generalize Y0.setRow (w.heap.size + 1 + 1) #[.slice ga0 x0.length gc0, .int .i64 x1] = Y1 at *
 generalize hu0 : Value.slice ga0 x0.length gc0 = u0 at SP
 have on0 : ∀ v ∈ [u0], v.oneCell' = true := by rw [← hu0]; simp [Value.oneCell']
 have HU0 := zh hu0
 clear hu0
 generalize hu1 : Value.int .i64 x1 = u1 at SP
 have on1 : ∀ v ∈ [u1], v.oneCell' = true := by rw [← hu1]; simp [Value.oneCell']
 have HU1 := zh hu1
 clear hu1
 have hone := (Kk on0 on1)
 clear on0 on1
 have ld := Xk (SP.out.gB 1 rfl)
 have st := rst2 (P := Tryz.prog) (SP.out.gB 2 rfl) hone
 go_wp2
 clear ld st hone
 replace SP := zh (SP.out.store 2 rfl [u0, u1])
 generalize Y1.setRow (w.heap.size + 1) #[u0, u1] = YY at *
 have ld := Xk (SP.out.gB 2 rfl)
 have J := SP.out.sub [0] (by decide)
 refine bodyPost_ret (v := .agg #[u0, u1]) (by simp [results, Tryz.f56, go_sem, ld]) rfl ?_
 replace J := J.pval Jc (o_int x1)
 obtain rfl := HU0.out
 obtain rfl := HU1.out
 exact ⟨_, rfl, J.outC, SP.out.d⟩
theorem tCond_one : Jk.One := (Kl Vh (Kl Vh Vh))
theorem toK_Cond {cs : List Value} {x : _} {w : World} (h : Jk.R w cs x) : Calls Tryz.prog 141 #[.agg cs.toArray] w (Yy Jk (fun cs => .agg cs.toArray) w x) := by
 obtain ⟨a0, a1, a2⟩ := x
 obtain rfl := tCond_R h
 exact toCond_T _ _ _ w
theorem eqK_Cond {cs ds : List Value} {x : _} {w : World} (h : Jk.R w cs x) (g : Jk.R w ds x) : Calls Tryz.prog 147 #[.agg cs.toArray, .agg ds.toArray] w fun e w' => e = .returned (.bool true) ∧ Below w w w' := by
 obtain ⟨a0, a1, a2⟩ := x
 obtain rfl := tCond_R h
 obtain rfl := tCond_R g
 exact eqCond_T _ _ _ w
theorem szKS_CondS {v : Value} {xs : _} {k0 : Int} {w : World} (h : Ko Jk w v xs) (hk : k0 ≤ 1048576) (hp : 0 ≤ k0) (ho : tCondS.ok xs) :
  Calls Tryz.prog 73 #[v, .int .i64 k0] w fun e w' => e = .returned (.int .i64 (szR k0 (zL Jk xs))) ∧ Below w w w' := by
 by_cases z : ((zL Jk xs : Nat) : Int) ≤ k0
 ·
  rw [Yc z]; exact szCondS_Y _ _ _ _ h z hk
 ·
  rw [Vg z]; exact szCondS_N _ _ _ _ h (by omega) hk hp ho
theorem Tryz.kinfo_CondS : (Tryz.prog.info? 177).map (fun i => (i.zero, i.size)) = some (some (.agg #[Ja, Ja, Ja]), 3) := by kernel_rfl
theorem Tryz.kbytes_CondS : ((Tryz.prog.info? 177).map (fun i => decide (i.bytes ≤ 512))) = some true := by kernel_rfl
set_option maxHeartbeats 8000000 in
theorem toKS_CondS {v : Value} {xs : _} {w : World} (h : Ko Jk w v xs) (hs : zL Jk xs ≤ 1048576) :
  Calls Tryz.prog 75 #[v] w (Xg 177 Jk w xs) := by
 obtain ⟨i0, hi, hz0, hz1⟩ : ∃ i0, Tryz.prog.info? 177 = some i0 ∧ i0.zero = some (.agg #[Ja, Ja, Ja]) ∧ i0.size = 3 := by
  have h0 := Tryz.kinfo_CondS
  cases q : Tryz.prog.info? 177 with
  | none => rw [q] at h0; simp at h0
  | some i => rw [q] at h0; simp only [Option.map_some, Option.some.injEq, Prod.mk.injEq] at h0; exact ⟨i, rfl, h0.1, h0.2⟩
 have hz2 : i0.bytes ≤ 512 := by
  have h0 := Tryz.kbytes_CondS
  rw [hi] at h0
  simpa using h0
 have HI := zh hi; have HZ0 := zh hz0; have HZ1 := zh hz1; have HZ2 := zh hz2
 clear hi hz0 hz1 hz2
 have H := zh h
 have hlen := Jz hs
 have HS := zh hs
 obtain ⟨a, cap, rfl⟩ := Jl h
 clear h hs
 go_enter Tryz.func75, Tryz.ntmps75
 go_wp2_with (at_make; refine wpList_make_full _ rfl (.tmp 6) (.tmp 6) 51 rfl w.heap.size 177 i0 (.agg #[Ja, Ja, Ja]) 3 Tryz.underlying51 HI.out HZ0.out HZ1.out _ _ _ _ xs.length rfl rfl rfl rfl (by have h9 := Nat.mul_le_mul HZ2.out hlen; have h8 := Nat.mul_le_mul hlen HZ2.out; omega) (by unfold maxLen; omega) (Ii _) ?_)
 intro w1 hown0 hg0
 have hown1 : Kp 177 Jk w1 (Kw w) (.slice (some ⟨w, 0, none⟩) xs.length xs.length) (List.replicate xs.length Jk.d) := Yz (z := #[.int .i64 0, .int .i64 0, .int .i64 0]) Jt rfl (tCond_zero w1) (Ii _) hown0
 have hbel1 := (Il w.heap.size w).grown hg0 (Ii _) (fun k hk => by cases hk)
 clear hown0 hg0
 go_wp2
 go_loopw [4] (fun i wr => ∃ k : Nat, k ≤ xs.length ∧ i = .int .i64 k ∧ Kp 177 Jk wr (Kw w) (.slice (some ⟨w, 0, none⟩) xs.length xs.length) (xs.take k ++ List.replicate (xs.length - k) Jk.d) ∧ Below w w wr) (fun i _ => xs.length - (intOf i).toNat)
 case atStart => exact ⟨0, Ij _, rfl, by simpa using hown1, hbel1⟩
 case round =>
  obtain ⟨k, hk, rfl, hown, hbel⟩ := hrel
  by_cases hlt : k < xs.length
  ·
   have HSET := zh (Xb (d := Jk.d) hlt)
   have HKL : k < (xs.take k ++ List.replicate (xs.length - k) Jk.d).length := by rw [Xn hk]; exact hlt
   have i1 : (0 : Int) ≤ (k : Int) := by omega
   have i2 : (k : Int) < (xs.length : Int) := by omega
   have S1 := zh (Vj HS.out hlt)
   obtain ⟨b, off, cap', cs, hv, hbl, hcs, hR⟩ := Ku (Jb Jt H.out hbel) hlt
   simp only [Ik] at hv
   obtain ⟨rfl, _, rfl⟩ := hv
   obtain ⟨cur, hg, hsz, hput⟩ := Xq Jt hown HKL
   have HG := zh hg; have HP := zh hput; have HB := zh hbel
   clear HKL hown1 hbel1 hg hput hown hbel
   generalize xs.getD k Jk.d = x at *
   obtain ⟨y0, y1, y2, rfl⟩ := len3 (Jt.len hR)
   have p := row3 (o := off + k * 3) hcs
   have HR := zh hR
   clear hcs hR
   go_wp2_with fail
   refine (toK_Cond HR.out).mono ?_
   rintro e w2 ⟨gs, rfl, ow, b2⟩
   obtain ⟨g0, g1, g2, rfl⟩ := len3 (Jt.len (Jt.reads ow))
   have hgl := (Array.getElem?_eq_some_iff.1 HG.out).1
   have st := fill3 (P := Tryz.prog) (o := k * 3) ((b2.block _ hgl).trans HG.out) hsz (tCond_one (Jt.reads ow))
   have HST := zh (HP.out w2 _ _ _ b2 ow (fun b hb => ⟨Nat.le_trans HB.out.size hb, hb⟩))
   rw [HSET.out] at HST
   have B3 := zh (Js (HB.out.trans (b2.mono HB.out.size)) (Vk (b := w.heap.size) (c := Ki cur (k * 3) [g0, g1, g2])) (fun b hb => by rw [hb]; exact Ii _) (Nat.le_trans HB.out.size b2.size))
   clear hsz hgl b2 ow
   go_wp2
   go_roundw
   case rel => exact ⟨k + 1, by omega, by go_num, HST.out, B3.out⟩
   case measure => simp [intOf]; omega
  ·
   obtain rfl : k = xs.length := by omega
   have HE : Hid (xs.take xs.length ++ List.replicate (xs.length - xs.length) Jk.d = xs) := zh (by simp)
   rw [HE.out] at hown
   go_wp2
   go_ret
   exact ⟨_, rfl, hown, hbel⟩
set_option maxHeartbeats 8000000 in
theorem eqKS_CondS {v u : Value} {xs : _} {w : World} (h : Ko Jk w v xs) (g : Ko Jk w u xs) (hs : zL Jk xs ≤ 1048576) :
  Calls Tryz.prog 78 #[v, u] w fun e w' => e = .returned (.bool true) ∧ Below w w w' := by
 have H := zh h
 have G := zh g
 have HS := zh hs
 obtain ⟨a, cap, rfl⟩ := Jl h
 obtain ⟨a2, cap2, rfl⟩ := Jl g
 have hlen := Jz hs
 clear h g hs
 go_enter Tryz.func78, Tryz.ntmps78
 go_wp2
 go_loopw [5] (fun i wr => ∃ k : Nat, k ≤ xs.length ∧ i = .int .i64 k ∧ Below w w wr) (fun i _ => xs.length - (intOf i).toNat)
 case atStart => exact ⟨0, Ij _, rfl, Il _ _⟩
 case round =>
  obtain ⟨k, hk, rfl, hbel⟩ := hrel
  by_cases hlt : k < xs.length
  ·
   obtain ⟨b, off, cap', cs, hv, hbl, hcs, hR⟩ := Ku (Jb Jt H.out hbel) hlt
   simp only [Ik] at hv
   obtain ⟨rfl, _, rfl⟩ := hv
   obtain ⟨b2, off2, cap2', ds, hv2, hbl2, hds, hQ⟩ := Ku (Jb Jt G.out hbel) hlt
   simp only [Ik] at hv2
   obtain ⟨rfl, _, rfl⟩ := hv2
   have S1 := zh (Vj HS.out hlt)
   have i1 : (0 : Int) ≤ (k : Int) := by omega
   have i2 : (k : Int) < (xs.length : Int) := by omega
   generalize xs.getD k Jk.d = x at *
   obtain ⟨y0, y1, y2, rfl⟩ := len3 (Jt.len hR)
   obtain ⟨z0, z1, z2, rfl⟩ := len3 (Jt.len hQ)
   have p := row3 (o := off + k * 3) hcs; have q := row3 (o := off2 + k * 3) hds
   have HR := zh hR; have HQ := zh hQ; have HB := zh hbel
   clear hcs hds hR hQ hbel
   go_wp2
   go_region_with (first | (go_at_call 147; refine (eqK_Cond (by exact Jt.below HR.out ⟨rfl, rfl, rfl, Ii _, fun _ _ => rfl⟩) (by exact Jt.below HQ.out ⟨rfl, rfl, rfl, Ii _, fun _ _ => rfl⟩)).mono ?_; rintro e w8 ⟨rfl, b9⟩; have b11 := zh (HB.out.trans (Below.mono (B := wr.heap.size) ⟨b9.os, b9.tape, b9.output, b9.size, b9.block⟩ HB.out.size)); clear b9))
   all_goals
    go_wp2
    go_roundw
    case rel => exact ⟨k + 1, by omega, by go_num, b11.out⟩
    case measure => simp [intOf]; omega
  ·
   go_wp2
   go_ret
   exact ⟨rfl, hbel⟩
theorem Vf : Kq.One := (Kl Vh (Kl Vh (Kl (Xm _ _) (Xm _ _))))
theorem tQuery_P {w : World} {cs : List Value} {x0 : _} {x1 : _} {x2 : _} {x3 : _} (h : Kq.R w cs (x0, x1, x2, x3)) : ∃ v2 v3, cs = [.int .i64 x0, .int .i64 x1, v2, v3] ∧ Ko Jk w v2 x2 ∧ Ko Je w v3 x3 := by
 obtain ⟨_, _, rfl, rfl, ⟨_, _, rfl, rfl, ⟨_, _, rfl, ⟨v2, rfl, h2⟩, ⟨v3, rfl, h3⟩⟩⟩⟩ := h
 exact ⟨v2, v3, rfl, h2, h3⟩
theorem szQuery_eq {x0 : _} {x1 : _} {x2 : _} {x3 : _} : Kq.sz (x0, x1, x2, x3) = zL Jk x2 + zL Je x3 := by
 simp only [Kq, Vt, Yk, Xo]; try omega
def leQuery (x : Int × Int × List (Int × Int × Int) × List Int) : Prop := zL Jk x.2.2.1 ≤ 1048576 ∧ zL Je x.2.2.2 ≤ 1048576
theorem leQuery_of {x : Int × Int × List (Int × Int × Int) × List Int} (h : Kq.sz x ≤ 1048576) : leQuery x := by
 obtain ⟨x0, x1, x2, x3⟩ := x
 rw [szQuery_eq] at h
 exact ⟨by show zL Jk x2 ≤ _; omega, by show zL Je x3 ≤ _; omega⟩
set_option maxHeartbeats 8000000 in
theorem szK_Query {cs : List Value} {x : _} {k0 : Int} {w : World} (h : Kq.R w cs x) (hk : k0 ≤ 1048576) (hp : 0 ≤ k0) (ho : Kq.ok x) :
  Calls Tryz.prog 20 #[.agg cs.toArray, .int .i64 k0] w fun e w' => e = .returned (.int .i64 (szR k0 (Kq.sz x))) ∧ Below w w w' := by
 obtain ⟨x0, x1, x2, x3⟩ := x
 obtain ⟨v2, v3, rfl, h2, h3⟩ := tQuery_P h
 rw [szQuery_eq]
 obtain ⟨o0, o1, o2, o3⟩ := ho
 have H2 := zh h2
 have O2 := zh o2
 have H3 := zh h3
 have O3 := zh o3
 clear h2 h3
 clear o0 o1 o2 o3
 have SP := zh ((St.init w).box [.int .i64 x0, .int .i64 x1, v2, v3] 48)
 go_enter Tryz.func20, Tryz.ntmps20
 have ld := Vv (SP.out.gB 0 rfl)
 go_wp2_with fail
 clear ld
 generalize (w.alloc (.cells #[.int .i64 x0, .int .i64 x1, v2, v3] 48)) = W0 at *
 refine (szKS_CondS (Jb Jt H2.out SP.out.d) (k0 := k0) (by omega) (by omega) O2.out).mono ?_
 rintro e W1 ⟨rfl, c⟩
 replace SP := zh (SP.out.below c)
 clear c
 by_cases z0 : ((zL Jk x2 : Nat) : Int) ≤ k0
 rotate_left
 ·
  rw [Vg z0]
  have HE := zh (Vg (k := k0) (z := zL Jk x2 + zL Je x3) (by omega))
  clear z0
  go_wp2
  go_ret
  exact ⟨Vc HE.out.symm, SP.out.d⟩
 rw [Yc z0]
 have n0 : ¬ k0 - ((zL Jk x2 : Nat) : Int) < 0 := by omega
 have ld := Vv (SP.out.gB 0 rfl)
 go_wp2_with fail
 clear ld
 refine (El (Jb Jc H3.out SP.out.d) (k0 := k0 - ((zL Jk x2 : Nat) : Int)) (by omega) (by omega) O3.out).mono ?_
 rintro e W2 ⟨rfl, c⟩
 replace SP := zh (SP.out.below c)
 clear c
 by_cases z1 : ((zL Je x3 : Nat) : Int) ≤ k0 - ((zL Jk x2 : Nat) : Int)
 rotate_left
 ·
  rw [Vg z1]
  have HE := zh (Vg (k := k0) (z := zL Jk x2 + zL Je x3) (by omega))
  clear z0 z1
  go_wp2
  go_ret
  exact ⟨Vc HE.out.symm, SP.out.d⟩
 rw [Yc z1]
 have n1 : ¬ k0 - ((zL Jk x2 : Nat) : Int) - ((zL Je x3 : Nat) : Int) < 0 := by omega
 have HE : Hid (szR k0 (zL Jk x2 + zL Je x3) = k0 - ((zL Jk x2 : Nat) : Int) - ((zL Je x3 : Nat) : Int)) := zh (by rw [Yc (by omega)]; try omega)
 go_wp2
 go_ret
 exact ⟨Vc HE.out.symm, SP.out.d⟩
set_option maxHeartbeats 8000000 in
theorem eqK_Query {cs ds : List Value} {x : _} {w : World} (h : Kq.R w cs x) (g : Kq.R w ds x) (hs : leQuery x) :
  Calls Tryz.prog 24 #[.agg cs.toArray, .agg ds.toArray] w fun e w' => e = .returned (.bool true) ∧ Below w w w' := by
 obtain ⟨x0, x1, x2, x3⟩ := x
 obtain ⟨v2, v3, rfl, h2, h3⟩ := tQuery_P h
 obtain ⟨v2', v3', rfl, h2', h3'⟩ := tQuery_P g
 obtain ⟨l2, l3⟩ := hs
 have H2 := zh h2; have G2 := zh h2'; have S2 := zh l2
 have H3 := zh h3; have G3 := zh h3'; have S3 := zh l3
 clear h2 h2' h3 h3'
 clear l2 l3
 have e0 : (x0 != x0) = false := by simp
 have e1 : (x1 != x1) = false := by simp
 have SP : Hid (St w [iB (w.heap.size + 1) [.int .i64 x0, .int .i64 x1, v2', v3'] 53, iB w.heap.size [.int .i64 x0, .int .i64 x1, v2, v3] 53] ((w.alloc (.cells #[.int .i64 x0, .int .i64 x1, v2, v3] 53)).alloc (.cells #[.int .i64 x0, .int .i64 x1, v2', v3'] 53))) := zh (by have := ((St.init w).box [.int .i64 x0, .int .i64 x1, v2, v3] 53).box [.int .i64 x0, .int .i64 x1, v2', v3'] 53; simpa only [Ie] using this)
 go_enter Tryz.func24, Tryz.ntmps24
 have ld := Vv (SP.out.gB 1 rfl)
 have lc := Vv (SP.out.gB 0 rfl)
 go_wp2_with fail
 clear ld lc
 generalize ((w.alloc (.cells #[.int .i64 x0, .int .i64 x1, v2, v3] 53)).alloc (.cells #[.int .i64 x0, .int .i64 x1, v2', v3'] 53)) = W0 at *
 refine (eqKS_CondS (Jb Jt H2.out SP.out.d) (Jb Jt G2.out SP.out.d) S2.out).mono ?_
 rintro e W1 ⟨rfl, c⟩
 replace SP := zh (SP.out.below c)
 clear c
 have ld := Vv (SP.out.gB 1 rfl)
 have lc := Vv (SP.out.gB 0 rfl)
 go_wp2_with fail
 clear ld lc
 refine (En (Jb Jc H3.out SP.out.d) (Jb Jc G3.out SP.out.d) S3.out).mono ?_
 rintro e W2 ⟨rfl, c⟩
 replace SP := zh (SP.out.below c)
 clear c
 have ld := Vv (SP.out.gB 1 rfl)
 have lc := Vv (SP.out.gB 0 rfl)
 go_wp2
 go_ret
 exact ⟨rfl, SP.out.d⟩
set_option maxHeartbeats 8000000 in
theorem toK_Query {cs : List Value} {x : _} {w : World} (h : Kq.R w cs x) (hs : Kq.sz x ≤ 1048576) :
  Calls Tryz.prog 22 #[.agg cs.toArray] w (Yy Kq (fun cs => .agg cs.toArray) w x) := by
 obtain ⟨x0, x1, x2, x3⟩ := x
 obtain ⟨v2, v3, rfl, h2, h3⟩ := tQuery_P h
 rw [szQuery_eq] at hs
 have H2 := zh h2; have S2 := zh (show zL Jk x2 ≤ 1048576 by omega)
 have H3 := zh h3; have S3 := zh (show zL Je x3 ≤ 1048576 by omega)
 clear hs h2 h3
 have SP : Hid (St w [iB (w.heap.size + 1 + 1) [Ja, Ja, (), ()] 53, iB (w.heap.size + 1) [Ja, Ja, (), ()] 53, iB w.heap.size [.int .i64 x0, .int .i64 x1, v2, v3] 48] (((w.alloc (.cells #[.int .i64 x0, .int .i64 x1, v2, v3] 48)).alloc (.cells #[Ja, Ja, (), ()] 53)).alloc (.cells #[Ja, Ja, (), ()] 53))) := zh (by have := (((St.init w).box [.int .i64 x0, .int .i64 x1, v2, v3] 48).box [Ja, Ja, (), ()] 53).box [Ja, Ja, (), ()] 53; simpa only [Ie] using this)
 go_enter Tryz.func22, Tryz.ntmps22
 go_upto_region 2 with fail
 generalize (((w.alloc (.cells #[.int .i64 x0, .int .i64 x1, v2, v3] 48)).alloc (.cells #[Ja, Ja, (), ()] 53)).alloc (.cells #[Ja, Ja, (), ()] 53)) = W0 at *
 have ld := Vv (SP.out.gB 2 rfl)
 have le := Vv (SP.out.gB 0 rfl)
 have fz := froz4 (SP.out.gB 0 rfl)
 go_upto_region 3 with fail
 clear ld le fz
 have e := Jv (SP.out.gB 0 rfl) 0 (.int .i64 x0)
 simp only [List.setIfInBounds_toArray, List.set_cons_succ, List.set_cons_zero] at e
 rw [e]
 clear e
 replace SP := zh (SP.out.store 0 rfl [.int .i64 x0, Ja, (), ()])
 generalize W0.setRow (w.heap.size + 1 + 1) #[.int .i64 x0, .int .i64 0, .slice none 0 0, .slice none 0 0] = Y0 at *
 have ld := Vv (SP.out.gB 2 rfl)
 have le := Vv (SP.out.gB 0 rfl)
 have fz := froz4 (SP.out.gB 0 rfl)
 go_upto_region 4 with fail
 clear ld le fz
 have e := Jv (SP.out.gB 0 rfl) 1 (.int .i64 x1)
 simp only [List.setIfInBounds_toArray, List.set_cons_succ, List.set_cons_zero] at e
 rw [e]
 clear e
 replace SP := zh (SP.out.store 0 rfl [.int .i64 x0, .int .i64 x1, (), ()])
 generalize Y0.setRow (w.heap.size + 1 + 1) #[.int .i64 x0, .int .i64 x1, .slice none 0 0, .slice none 0 0] = Y1 at *
 have ld := Vv (SP.out.gB 2 rfl)
 go_wp2_with fail
 clear ld
 refine (toKS_CondS (Jb Jt H2.out SP.out.d) S2.out).mono ?_
 rintro e V2 ⟨g2, rfl, o, c⟩
 obtain ⟨ga2, gc2, rfl⟩ := Ju o
 obtain ⟨F2, sp⟩ := SP.out.pushTE Jt tCondS_law c o (fun b h => h)
 replace SP := zh sp
 clear sp o c
 have le := Vv (SP.out.gB 1 rfl)
 have fz := froz4 (SP.out.gB 1 rfl)
 go_upto_region 5 with fail
 clear le fz
 have e := Jv (SP.out.gB 1 rfl) 2 (.slice ga2 x2.length gc2)
 simp only [List.setIfInBounds_toArray, List.set_cons_succ, List.set_cons_zero] at e
 rw [e]
 clear e
 replace SP := zh (SP.out.store 1 rfl [.int .i64 x0, .int .i64 x1, .slice ga2 x2.length gc2, ()])
 generalize V2.setRow (w.heap.size + 1 + 1) #[.int .i64 x0, .int .i64 x1, .slice ga2 x2.length gc2, .slice none 0 0] = Y2 at *
 have ld := Vv (SP.out.gB 3 rfl)
 go_wp2_with fail
 clear ld
 refine (Ek (Jb Jc H3.out SP.out.d) S3.out).mono ?_
 rintro e V3 ⟨g3, rfl, o, c⟩
 obtain ⟨ga3, gc3, rfl⟩ := Ju o
 obtain ⟨F3, sp⟩ := SP.out.pushTE Jc Vm c o (fun b h => h)
 replace SP := zh sp
 clear sp o c
 have le := Vv (SP.out.gB 2 rfl)
 have fz := froz4 (SP.out.gB 2 rfl)
 go_upto_region 6 with fail
 clear le fz
 have e := Jv (SP.out.gB 2 rfl) 3 (.slice ga3 x3.length gc3)
 simp only [List.setIfInBounds_toArray, List.set_cons_succ, List.set_cons_zero] at e
 rw [e]
 clear e
 replace SP := zh (SP.out.store 2 rfl [.int .i64 x0, .int .i64 x1, .slice ga2 x2.length gc2, .slice ga3 x3.length gc3])
 generalize V3.setRow (w.heap.size + 1 + 1) #[.int .i64 x0, .int .i64 x1, .slice ga2 x2.length gc2, .slice ga3 x3.length gc3] = Y3 at *
 generalize hu0 : Value.int .i64 x0 = u0 at SP
 have on0 : ∀ v ∈ [u0], v.oneCell' = true := by rw [← hu0]; simp [Value.oneCell']
 have HU0 := zh hu0
 clear hu0
 generalize hu1 : Value.int .i64 x1 = u1 at SP
 have on1 : ∀ v ∈ [u1], v.oneCell' = true := by rw [← hu1]; simp [Value.oneCell']
 have HU1 := zh hu1
 clear hu1
 generalize hu2 : Value.slice ga2 x2.length gc2 = u2 at SP
 have on2 : ∀ v ∈ [u2], v.oneCell' = true := by rw [← hu2]; simp [Value.oneCell']
 have HU2 := zh hu2
 clear hu2
 generalize hu3 : Value.slice ga3 x3.length gc3 = u3 at SP
 have on3 : ∀ v ∈ [u3], v.oneCell' = true := by rw [← hu3]; simp [Value.oneCell']
 have HU3 := zh hu3
 clear hu3
 have hone := (Kk on0 (Kk on1 (Kk on2 on3)))
 clear on0 on1 on2 on3
 have ld := Vv (SP.out.gB 2 rfl)
 have st := rst4 (P := Tryz.prog) (SP.out.gB 3 rfl) hone
 go_wp2
 clear ld st hone
 replace SP := zh (SP.out.store 3 rfl [u0, u1, u2, u3])
 generalize Y3.setRow (w.heap.size + 1) #[u0, u1, u2, u3] = YY at *
 have ld := Vv (SP.out.gB 3 rfl)
 have J := SP.out.sub [0, 1] (by decide)
 refine bodyPost_ret (v := .agg #[u0, u1, u2, u3]) (by simp [results, Tryz.f22, go_sem, ld]) rfl ?_
 obtain ⟨_, J⟩ := J.cat
 replace J := J.intp x1
 replace J := J.intp x0
 obtain rfl := HU0.out
 obtain rfl := HU1.out
 obtain rfl := HU2.out
 obtain rfl := HU3.out
 exact ⟨_, rfl, J.outC, SP.out.d⟩
theorem tRow_one : Ke.One := (Kl Vh (Xm _ _))
theorem tRow_P {w : World} {cs : List Value} {x0 : _} {x1 : _} (h : Ke.R w cs (x0, x1)) : ∃ v1, cs = [.int .i64 x0, v1] ∧ Ko Je w v1 x1 := by
 obtain ⟨_, _, rfl, rfl, ⟨v1, rfl, h1⟩⟩ := h
 exact ⟨v1, rfl, h1⟩
theorem szRow_eq {x0 : _} {x1 : _} : Ke.sz (x0, x1) = zL Je x1 := by
 simp only [Ke, Vt, Yk, Xo]; try omega
def leRow (x : Int × List Int) : Prop := zL Je x.2 ≤ 1048576
theorem leRow_of {x : Int × List Int} (h : Ke.sz x ≤ 1048576) : leRow x := by
 obtain ⟨x0, x1⟩ := x
 rw [szRow_eq] at h
 show zL Je x1 ≤ _; omega
set_option maxHeartbeats 8000000 in
theorem szK_Row {cs : List Value} {x : _} {k0 : Int} {w : World} (h : Ke.R w cs x) (hk : k0 ≤ 1048576) (hp : 0 ≤ k0) (ho : Ke.ok x) :
  Calls Tryz.prog 109 #[.agg cs.toArray, .int .i64 k0] w fun e w' => e = .returned (.int .i64 (szR k0 (Ke.sz x))) ∧ Below w w w' := by
 obtain ⟨x0, x1⟩ := x
 obtain ⟨v1, rfl, h1⟩ := tRow_P h
 rw [szRow_eq]
 obtain ⟨o0, o1⟩ := ho
 have H1 := zh h1
 have O1 := zh o1
 clear h1
 clear o0 o1
 have SP := zh ((St.init w).box [.int .i64 x0, v1] 70)
 go_enter Tryz.func109, Tryz.ntmps109
 have ld := Xk (SP.out.gB 0 rfl)
 go_wp2_with fail
 clear ld
 generalize (w.alloc (.cells #[.int .i64 x0, v1] 70)) = W0 at *
 refine (El (Jb Jc H1.out SP.out.d) (k0 := k0) (by omega) (by omega) O1.out).mono ?_
 rintro e W1 ⟨rfl, c⟩
 replace SP := zh (SP.out.below c)
 clear c
 by_cases z0 : ((zL Je x1 : Nat) : Int) ≤ k0
 rotate_left
 ·
  rw [Vg z0]
  have HE := zh (Vg (k := k0) (z := zL Je x1) (by omega))
  clear z0
  go_wp2
  go_ret
  exact ⟨Vc HE.out.symm, SP.out.d⟩
 rw [Yc z0]
 have n0 : ¬ k0 - ((zL Je x1 : Nat) : Int) < 0 := by omega
 have HE : Hid (szR k0 (zL Je x1) = k0 - ((zL Je x1 : Nat) : Int)) := zh (by rw [Yc (by omega)]; try omega)
 go_wp2
 go_ret
 exact ⟨Vc HE.out.symm, SP.out.d⟩
set_option maxHeartbeats 8000000 in
theorem eqK_Row {cs ds : List Value} {x : _} {w : World} (h : Ke.R w cs x) (g : Ke.R w ds x) (hs : leRow x) :
  Calls Tryz.prog 113 #[.agg cs.toArray, .agg ds.toArray] w fun e w' => e = .returned (.bool true) ∧ Below w w w' := by
 obtain ⟨x0, x1⟩ := x
 obtain ⟨v1, rfl, h1⟩ := tRow_P h
 obtain ⟨v1', rfl, h1'⟩ := tRow_P g
 have l1 := hs
 have H1 := zh h1; have G1 := zh h1'; have S1 := zh l1
 clear h1 h1'
 clear l1
 have e0 : (x0 != x0) = false := by simp
 have SP : Hid (St w [iB (w.heap.size + 1) [.int .i64 x0, v1'] 75, iB w.heap.size [.int .i64 x0, v1] 75] ((w.alloc (.cells #[.int .i64 x0, v1] 75)).alloc (.cells #[.int .i64 x0, v1'] 75))) := zh (by have := ((St.init w).box [.int .i64 x0, v1] 75).box [.int .i64 x0, v1'] 75; simpa only [Ie] using this)
 go_enter Tryz.func113, Tryz.ntmps113
 have ld := Xk (SP.out.gB 1 rfl)
 have lc := Xk (SP.out.gB 0 rfl)
 go_wp2_with fail
 clear ld lc
 generalize ((w.alloc (.cells #[.int .i64 x0, v1] 75)).alloc (.cells #[.int .i64 x0, v1'] 75)) = W0 at *
 refine (En (Jb Jc H1.out SP.out.d) (Jb Jc G1.out SP.out.d) S1.out).mono ?_
 rintro e W1 ⟨rfl, c⟩
 replace SP := zh (SP.out.below c)
 clear c
 have ld := Xk (SP.out.gB 1 rfl)
 have lc := Xk (SP.out.gB 0 rfl)
 go_wp2
 go_ret
 exact ⟨rfl, SP.out.d⟩
set_option maxHeartbeats 8000000 in
theorem toK_Row {cs : List Value} {x : _} {w : World} (h : Ke.R w cs x) (hs : Ke.sz x ≤ 1048576) :
  Calls Tryz.prog 111 #[.agg cs.toArray] w (Yy Ke (fun cs => .agg cs.toArray) w x) := by
 obtain ⟨x0, x1⟩ := x
 obtain ⟨v1, rfl, h1⟩ := tRow_P h
 rw [szRow_eq] at hs
 have H1 := zh h1; have S1 := zh (show zL Je x1 ≤ 1048576 by omega)
 clear hs h1
 have SP : Hid (St w [iB (w.heap.size + 1 + 1) [Ja, ()] 75, iB (w.heap.size + 1) [Ja, ()] 75, iB w.heap.size [.int .i64 x0, v1] 70] (((w.alloc (.cells #[.int .i64 x0, v1] 70)).alloc (.cells #[Ja, ()] 75)).alloc (.cells #[Ja, ()] 75))) := zh (by have := (((St.init w).box [.int .i64 x0, v1] 70).box [Ja, ()] 75).box [Ja, ()] 75; simpa only [Ie] using this)
 go_enter Tryz.func111, Tryz.ntmps111
 go_upto_region 2 with fail
 generalize (((w.alloc (.cells #[.int .i64 x0, v1] 70)).alloc (.cells #[Ja, ()] 75)).alloc (.cells #[Ja, ()] 75)) = W0 at *
 have ld := Xk (SP.out.gB 2 rfl)
 have le := Xk (SP.out.gB 0 rfl)
 have fz := froz2 (SP.out.gB 0 rfl)
 go_upto_region 3 with fail
 clear ld le fz
 have e := Jv (SP.out.gB 0 rfl) 0 (.int .i64 x0)
 simp only [List.setIfInBounds_toArray, List.set_cons_succ, List.set_cons_zero] at e
 rw [e]
 clear e
 replace SP := zh (SP.out.store 0 rfl [.int .i64 x0, ()])
 generalize W0.setRow (w.heap.size + 1 + 1) #[.int .i64 x0, .slice none 0 0] = Y0 at *
 have ld := Xk (SP.out.gB 2 rfl)
 go_wp2_with fail
 clear ld
 refine (Ek (Jb Jc H1.out SP.out.d) S1.out).mono ?_
 rintro e V1 ⟨g1, rfl, o, c⟩
 obtain ⟨ga1, gc1, rfl⟩ := Ju o
 obtain ⟨F1, sp⟩ := SP.out.pushTE Jc Vm c o (fun b h => h)
 replace SP := zh sp
 clear sp o c
 have le := Xk (SP.out.gB 1 rfl)
 have fz := froz2 (SP.out.gB 1 rfl)
 go_upto_region 4 with fail
 clear le fz
 have e := Jv (SP.out.gB 1 rfl) 1 (.slice ga1 x1.length gc1)
 simp only [List.setIfInBounds_toArray, List.set_cons_succ, List.set_cons_zero] at e
 rw [e]
 clear e
 replace SP := zh (SP.out.store 1 rfl [.int .i64 x0, .slice ga1 x1.length gc1])
 generalize V1.setRow (w.heap.size + 1 + 1) #[.int .i64 x0, .slice ga1 x1.length gc1] = Y1 at *
 generalize hu0 : Value.int .i64 x0 = u0 at SP
 have on0 : ∀ v ∈ [u0], v.oneCell' = true := by rw [← hu0]; simp [Value.oneCell']
 have HU0 := zh hu0
 clear hu0
 generalize hu1 : Value.slice ga1 x1.length gc1 = u1 at SP
 have on1 : ∀ v ∈ [u1], v.oneCell' = true := by rw [← hu1]; simp [Value.oneCell']
 have HU1 := zh hu1
 clear hu1
 have hone := (Kk on0 on1)
 clear on0 on1
 have ld := Xk (SP.out.gB 1 rfl)
 have st := rst2 (P := Tryz.prog) (SP.out.gB 2 rfl) hone
 go_wp2
 clear ld st hone
 replace SP := zh (SP.out.store 2 rfl [u0, u1])
 generalize Y1.setRow (w.heap.size + 1) #[u0, u1] = YY at *
 have ld := Xk (SP.out.gB 2 rfl)
 have J := SP.out.sub [0] (by decide)
 refine bodyPost_ret (v := .agg #[u0, u1]) (by simp [results, Tryz.f111, go_sem, ld]) rfl ?_
 replace J := J.intp x0
 obtain rfl := HU0.out
 obtain rfl := HU1.out
 exact ⟨_, rfl, J.outC, SP.out.d⟩
set_option maxHeartbeats 8000000 in
theorem szKS_RowS {v : Value} {xs : _} {k0 : Int} {w : World} (h : Ko Ke w v xs) (hk : k0 ≤ 1048576) (hp : 0 ≤ k0) (ho : tRowS.ok xs) :
  Calls Tryz.prog 183 #[v, .int .i64 k0] w fun e w' => e = .returned (.int .i64 (szR k0 (zL Ke xs))) ∧ Below w w w' := by
 have H := zh h
 have OX := zh ho.2
 have hn := ho.1
 obtain ⟨a, cap, rfl⟩ := Jl h
 clear h ho
 by_cases h1 : k0 < (xs.length : Int)
 ·
  have hneg : k0 - (xs.length : Int) < 0 := by omega
  have HE := zh (Vg (k := k0) (z := zL Ke xs) (by have := Eo (T := Ke) (xs := xs) (Ij _); rw [Yf] at this; omega))
  go_enter Tryz.func183, Tryz.ntmps183
  go_wp2
  go_ret
  exact ⟨Vc HE.out.symm, Il _ _⟩
 ·
  go_enter Tryz.func183, Tryz.ntmps183
  have hneg : ¬ k0 - (xs.length : Int) < 0 := by omega
  go_wp2
  clear hneg
  go_loopw [1, 5] (fun l i wr => ∃ k : Nat, k ≤ xs.length ∧ i = .int .i64 k ∧ l = .int .i64 (k0 - (zTo Ke xs k : Int)) ∧ (zTo Ke xs k : Int) ≤ k0 ∧ Below w w wr) (fun _ i _ => xs.length - (intOf i).toNat)
  case atStart => exact ⟨0, Ij _, rfl, by rw [Yf], by rw [Yf]; omega, Il _ _⟩
  case round =>
   obtain ⟨k, hk', rfl, rfl, hle, hbel⟩ := hrel
   by_cases hlt : k < xs.length
   ·
    have HST := zh (zTo_step (T := Ke) hlt)
    have HLE := zh (Eo (T := Ke) (xs := xs) (k := k + 1) (by omega))
    have HX := zh (OX.out k hlt)
    have i1 : (0 : Int) ≤ (k : Int) := by omega
    have i2 : (k : Int) < (xs.length : Int) := by omega
    obtain ⟨b, off, cap', cs, hv, hbl, hcs, hR⟩ := Ku (Jb Jw H.out hbel) hlt
    simp only [Ik] at hv
    obtain ⟨rfl, _, rfl⟩ := hv
    generalize xs.getD k Ke.d = x at *
    obtain ⟨y0, y1, rfl⟩ := len2 (Jw.len hR)
    have p := row2 (o := off + k * 2) hcs
    have HR := zh hR
    clear hcs hR
    go_wp2_with fail
    refine (szK_Row (k0 := k0 - (zTo Ke xs k : Int)) (Jw.below HR.out (Il _ _)) (by omega) (by omega) HX.out).mono ?_
    rintro e w1 ⟨rfl, b1⟩
    have b2 := hbel.trans (b1.mono hbel.size)
    by_cases hz : ((Ke.sz x : Nat) : Int) ≤ k0 - (zTo Ke xs k : Int)
    ·
     rw [Yc hz]
     have hneg : ¬ k0 - (zTo Ke xs k : Int) - ((Ke.sz x : Nat) : Int) < 0 := by omega
     have HZ := zh hz
     clear hz
     go_wp2
     go_roundw
     case rel => exact ⟨k + 1, by omega, by go_num, by rw [HST.out]; go_num, by rw [HST.out]; have := HZ.out; omega, b2⟩
     case measure => simp [intOf]; omega
    ·
     rw [Vg hz]
     have HE := zh (Vg (k := k0) (z := zL Ke xs) (by have := HST.out; have := HLE.out; omega))
     clear hz
     go_wp2
     go_ret
     exact ⟨Vc HE.out.symm, b2⟩
   ·
    obtain rfl : k = xs.length := by omega
    have HE := zh (Yc (k := k0) (z := zL Ke xs) hle)
    go_wp2
    go_ret
    exact ⟨Vc HE.out.symm, hbel⟩
theorem Tryz.kinfo_RowS : (Tryz.prog.info? 75).map (fun i => (i.zero, i.size)) = some (some (.agg #[Ja, ()]), 2) := by kernel_rfl
theorem Tryz.kbytes_RowS : ((Tryz.prog.info? 75).map (fun i => decide (i.bytes ≤ 512))) = some true := by kernel_rfl
set_option maxHeartbeats 8000000 in
theorem toKS_RowS {v : Value} {xs : _} {w : World} (h : Ko Ke w v xs) (hs : zL Ke xs ≤ 1048576) :
  Calls Tryz.prog 192 #[v] w (Xg 75 Ke w xs) := by
 obtain ⟨i0, hi, hz0, hz1⟩ : ∃ i0, Tryz.prog.info? 75 = some i0 ∧ i0.zero = some (.agg #[Ja, ()]) ∧ i0.size = 2 := by
  have h0 := Tryz.kinfo_RowS
  cases q : Tryz.prog.info? 75 with
  | none => rw [q] at h0; simp at h0
  | some i => rw [q] at h0; simp only [Option.map_some, Option.some.injEq, Prod.mk.injEq] at h0; exact ⟨i, rfl, h0.1, h0.2⟩
 have hz2 : i0.bytes ≤ 512 := by
  have h0 := Tryz.kbytes_RowS
  rw [hi] at h0
  simpa using h0
 have HI := zh hi; have HZ0 := zh hz0; have HZ1 := zh hz1; have HZ2 := zh hz2
 clear hi hz0 hz1 hz2
 have H := zh h
 have hlen := Jz hs
 have HS := zh hs
 obtain ⟨a, cap, rfl⟩ := Jl h
 clear h hs
 go_enter Tryz.func192, Tryz.ntmps192
 go_wp2_with (at_make; refine wpList_make_full _ rfl (.tmp 6) (.tmp 6) 57 rfl w.heap.size 75 i0 (.agg #[Ja, ()]) 2 Tryz.underlying57 HI.out HZ0.out HZ1.out _ _ _ _ xs.length rfl rfl rfl rfl (by have h9 := Nat.mul_le_mul HZ2.out hlen; have h8 := Nat.mul_le_mul hlen HZ2.out; omega) (by unfold maxLen; omega) (Ii _) ?_)
 intro w1 hown0 hg0
 have hown1 : Kp 75 Ke w1 (Kw w) (.slice (some ⟨w, 0, none⟩) xs.length xs.length) (List.replicate xs.length Ke.d) := Yz (z := #[.int .i64 0, .slice none 0 0]) Jw rfl (tRow_zero w1) (Ii _) hown0
 have hbel1 := (Il w.heap.size w).grown hg0 (Ii _) (fun k hk => by cases hk)
 clear hown0 hg0
 go_wp2
 go_loopw [4] (fun i wr => ∃ k : Nat, k ≤ xs.length ∧ i = .int .i64 k ∧ Kp 75 Ke wr (Kw w) (.slice (some ⟨w, 0, none⟩) xs.length xs.length) (xs.take k ++ List.replicate (xs.length - k) Ke.d) ∧ Below w w wr) (fun i _ => xs.length - (intOf i).toNat)
 case atStart => exact ⟨0, Ij _, rfl, by simpa using hown1, hbel1⟩
 case round =>
  obtain ⟨k, hk, rfl, hown, hbel⟩ := hrel
  by_cases hlt : k < xs.length
  ·
   have HSET := zh (Xb (d := Ke.d) hlt)
   have HKL : k < (xs.take k ++ List.replicate (xs.length - k) Ke.d).length := by rw [Xn hk]; exact hlt
   have i1 : (0 : Int) ≤ (k : Int) := by omega
   have i2 : (k : Int) < (xs.length : Int) := by omega
   have S1 := zh (Vj HS.out hlt)
   obtain ⟨b, off, cap', cs, hv, hbl, hcs, hR⟩ := Ku (Jb Jw H.out hbel) hlt
   simp only [Ik] at hv
   obtain ⟨rfl, _, rfl⟩ := hv
   obtain ⟨cur, hg, hsz, hput⟩ := Xq Jw hown HKL
   have HG := zh hg; have HP := zh hput; have HB := zh hbel
   clear HKL hown1 hbel1 hg hput hown hbel
   generalize xs.getD k Ke.d = x at *
   obtain ⟨y0, y1, rfl⟩ := len2 (Jw.len hR)
   have p := row2 (o := off + k * 2) hcs
   have HR := zh hR
   clear hcs hR
   go_wp2_with fail
   refine (toK_Row HR.out S1.out).mono ?_
   rintro e w2 ⟨gs, rfl, ow, b2⟩
   obtain ⟨g0, g1, rfl⟩ := len2 (Jw.len (Jw.reads ow))
   have hgl := (Array.getElem?_eq_some_iff.1 HG.out).1
   have st := fill2 (P := Tryz.prog) (o := k * 2) ((b2.block _ hgl).trans HG.out) hsz (tRow_one (Jw.reads ow))
   have HST := zh (HP.out w2 _ _ _ b2 ow (fun b hb => ⟨Nat.le_trans HB.out.size hb, hb⟩))
   rw [HSET.out] at HST
   have B3 := zh (Js (HB.out.trans (b2.mono HB.out.size)) (Vk (b := w.heap.size) (c := Ki cur (k * 2) [g0, g1])) (fun b hb => by rw [hb]; exact Ii _) (Nat.le_trans HB.out.size b2.size))
   clear hsz hgl b2 ow
   go_wp2
   go_roundw
   case rel => exact ⟨k + 1, by omega, by go_num, HST.out, B3.out⟩
   case measure => simp [intOf]; omega
  ·
   obtain rfl : k = xs.length := by omega
   have HE : Hid (xs.take xs.length ++ List.replicate (xs.length - xs.length) Ke.d = xs) := zh (by simp)
   rw [HE.out] at hown
   go_wp2
   go_ret
   exact ⟨_, rfl, hown, hbel⟩
set_option maxHeartbeats 8000000 in
theorem eqKS_RowS {v u : Value} {xs : _} {w : World} (h : Ko Ke w v xs) (g : Ko Ke w u xs) (hs : zL Ke xs ≤ 1048576) :
  Calls Tryz.prog 82 #[v, u] w fun e w' => e = .returned (.bool true) ∧ Below w w w' := by
 have H := zh h
 have G := zh g
 have HS := zh hs
 obtain ⟨a, cap, rfl⟩ := Jl h
 obtain ⟨a2, cap2, rfl⟩ := Jl g
 have hlen := Jz hs
 clear h g hs
 go_enter Tryz.func82, Tryz.ntmps82
 go_wp2
 go_loopw [5] (fun i wr => ∃ k : Nat, k ≤ xs.length ∧ i = .int .i64 k ∧ Below w w wr) (fun i _ => xs.length - (intOf i).toNat)
 case atStart => exact ⟨0, Ij _, rfl, Il _ _⟩
 case round =>
  obtain ⟨k, hk, rfl, hbel⟩ := hrel
  by_cases hlt : k < xs.length
  ·
   obtain ⟨b, off, cap', cs, hv, hbl, hcs, hR⟩ := Ku (Jb Jw H.out hbel) hlt
   simp only [Ik] at hv
   obtain ⟨rfl, _, rfl⟩ := hv
   obtain ⟨b2, off2, cap2', ds, hv2, hbl2, hds, hQ⟩ := Ku (Jb Jw G.out hbel) hlt
   simp only [Ik] at hv2
   obtain ⟨rfl, _, rfl⟩ := hv2
   have S1 := zh (Vj HS.out hlt)
   have i1 : (0 : Int) ≤ (k : Int) := by omega
   have i2 : (k : Int) < (xs.length : Int) := by omega
   generalize xs.getD k Ke.d = x at *
   obtain ⟨y0, y1, rfl⟩ := len2 (Jw.len hR)
   obtain ⟨z0, z1, rfl⟩ := len2 (Jw.len hQ)
   have p := row2 (o := off + k * 2) hcs; have q := row2 (o := off2 + k * 2) hds
   have HR := zh hR; have HQ := zh hQ; have HB := zh hbel
   clear hcs hds hR hQ hbel
   go_wp2
   go_region_with (first | (go_at_call 113; refine (eqK_Row (by exact Jw.below HR.out ⟨rfl, rfl, rfl, Ii _, fun _ _ => rfl⟩) (by exact Jw.below HQ.out ⟨rfl, rfl, rfl, Ii _, fun _ _ => rfl⟩) (leRow_of S1.out)).mono ?_; rintro e w8 ⟨rfl, b9⟩; have b11 := zh (HB.out.trans (Below.mono (B := wr.heap.size) ⟨b9.os, b9.tape, b9.output, b9.size, b9.block⟩ HB.out.size)); clear b9))
   all_goals
    go_wp2
    go_roundw
    case rel => exact ⟨k + 1, by omega, by go_num, b11.out⟩
    case measure => simp [intOf]; omega
  ·
   go_wp2
   go_ret
   exact ⟨rfl, hbel⟩
theorem tActive_one : Ji.One := (Kl Vf (Kl Vh (Kl (Xm _ _) (Kl Vh (Kl Vh (Kl Vh (Xm _ _)))))))
theorem tActive_P {w : World} {cs : List Value} {x0 : _} {x1 : _} {x2 : _} {x3 : _} {x4 : _} {x5 : _} {x6 : _} (h : Ji.R w cs (x0, x1, x2, x3, x4, x5, x6)) : ∃ p0_0 p0_1 p0_2 p0_3 v2 v6, cs = [p0_0, p0_1, p0_2, p0_3, .int .i64 x1, v2, .int .i64 x3, .int .i64 x4, .int .i64 x5, v6] ∧ Kq.R w [p0_0, p0_1, p0_2, p0_3] x0 ∧ Ko Je w v2 x2 ∧ Ko Ke w v6 x6 := by
 obtain ⟨c0, _, rfl, h0, ⟨_, _, rfl, rfl, ⟨_, _, rfl, ⟨v2, rfl, h2⟩, ⟨_, _, rfl, rfl, ⟨_, _, rfl, rfl, ⟨_, _, rfl, rfl, ⟨v6, rfl, h6⟩⟩⟩⟩⟩⟩⟩ := h
 obtain ⟨p0_0, p0_1, p0_2, p0_3, rfl⟩ := len4 (Kt.len h0)
 exact ⟨p0_0, p0_1, p0_2, p0_3, v2, v6, rfl, h0, h2, h6⟩
theorem szActive_eq {x0 : _} {x1 : _} {x2 : _} {x3 : _} {x4 : _} {x5 : _} {x6 : _} : Ji.sz (x0, x1, x2, x3, x4, x5, x6) = Kq.sz x0 + zL Je x2 + zL Ke x6 := by
 simp only [Ji, Vt, Yk, Xo]; try omega
def leActive (x : (Int × Int × List (Int × Int × Int) × List Int) × Int × List Int × Int × Int × Int × List (Int × List Int)) : Prop := leQuery x.1 ∧ zL Je x.2.2.1 ≤ 1048576 ∧ zL Ke x.2.2.2.2.2.2 ≤ 1048576
theorem leActive_of {x : (Int × Int × List (Int × Int × Int) × List Int) × Int × List Int × Int × Int × Int × List (Int × List Int)} (h : Ji.sz x ≤ 1048576) : leActive x := by
 obtain ⟨x0, x1, x2, x3, x4, x5, x6⟩ := x
 rw [szActive_eq] at h
 exact ⟨leQuery_of (show Kq.sz x0 ≤ _ by omega), by show zL Je x2 ≤ _; omega, by show zL Ke x6 ≤ _; omega⟩
set_option maxHeartbeats 8000000 in
theorem szK_Active {cs : List Value} {x : _} {k0 : Int} {w : World} (h : Ji.R w cs x) (hk : k0 ≤ 1048576) (hp : 0 ≤ k0) (ho : Ji.ok x) :
  Calls Tryz.prog 118 #[.agg cs.toArray, .int .i64 k0] w fun e w' => e = .returned (.int .i64 (szR k0 (Ji.sz x))) ∧ Below w w w' := by
 obtain ⟨x0, x1, x2, x3, x4, x5, x6⟩ := x
 obtain ⟨p0_0, p0_1, p0_2, p0_3, v2, v6, rfl, h0, h2, h6⟩ := tActive_P h
 rw [szActive_eq]
 obtain ⟨o0, o1, o2, o3, o4, o5, o6⟩ := ho
 have H0 := zh h0
 have O0 := zh o0
 have H2 := zh h2
 have O2 := zh o2
 have H6 := zh h6
 have O6 := zh o6
 clear h0 h2 h6
 clear o0 o1 o2 o3 o4 o5 o6
 have SP := zh ((St.init w).box [p0_0, p0_1, p0_2, p0_3, .int .i64 x1, v2, .int .i64 x3, .int .i64 x4, .int .i64 x5, v6] 150)
 go_enter Tryz.func118, Tryz.ntmps118
 have ld := Vr (SP.out.gB 0 rfl)
 go_wp2_with fail
 clear ld
 generalize (w.alloc (.cells #[p0_0, p0_1, p0_2, p0_3, .int .i64 x1, v2, .int .i64 x3, .int .i64 x4, .int .i64 x5, v6] 150)) = W0 at *
 refine (szK_Query (Kt.below H0.out SP.out.d) (k0 := k0) (by omega) (by omega) O0.out).mono ?_
 rintro e W1 ⟨rfl, c⟩
 replace SP := zh (SP.out.below c)
 clear c
 by_cases z0 : ((Kq.sz x0 : Nat) : Int) ≤ k0
 rotate_left
 ·
  rw [Vg z0]
  have HE := zh (Vg (k := k0) (z := Kq.sz x0 + zL Je x2 + zL Ke x6) (by omega))
  clear z0
  go_wp2
  go_ret
  exact ⟨Vc HE.out.symm, SP.out.d⟩
 rw [Yc z0]
 have n0 : ¬ k0 - ((Kq.sz x0 : Nat) : Int) < 0 := by omega
 have ld := Vr (SP.out.gB 0 rfl)
 go_wp2_with fail
 clear ld
 refine (El (Jb Jc H2.out SP.out.d) (k0 := k0 - ((Kq.sz x0 : Nat) : Int)) (by omega) (by omega) O2.out).mono ?_
 rintro e W2 ⟨rfl, c⟩
 replace SP := zh (SP.out.below c)
 clear c
 by_cases z1 : ((zL Je x2 : Nat) : Int) ≤ k0 - ((Kq.sz x0 : Nat) : Int)
 rotate_left
 ·
  rw [Vg z1]
  have HE := zh (Vg (k := k0) (z := Kq.sz x0 + zL Je x2 + zL Ke x6) (by omega))
  clear z0 z1
  go_wp2
  go_ret
  exact ⟨Vc HE.out.symm, SP.out.d⟩
 rw [Yc z1]
 have n1 : ¬ k0 - ((Kq.sz x0 : Nat) : Int) - ((zL Je x2 : Nat) : Int) < 0 := by omega
 have ld := Vr (SP.out.gB 0 rfl)
 go_wp2_with fail
 clear ld
 refine (szKS_RowS (Jb Jw H6.out SP.out.d) (k0 := k0 - ((Kq.sz x0 : Nat) : Int) - ((zL Je x2 : Nat) : Int)) (by omega) (by omega) O6.out).mono ?_
 rintro e W3 ⟨rfl, c⟩
 replace SP := zh (SP.out.below c)
 clear c
 by_cases z2 : ((zL Ke x6 : Nat) : Int) ≤ k0 - ((Kq.sz x0 : Nat) : Int) - ((zL Je x2 : Nat) : Int)
 rotate_left
 ·
  rw [Vg z2]
  have HE := zh (Vg (k := k0) (z := Kq.sz x0 + zL Je x2 + zL Ke x6) (by omega))
  clear z0 z1 z2
  go_wp2
  go_ret
  exact ⟨Vc HE.out.symm, SP.out.d⟩
 rw [Yc z2]
 have n2 : ¬ k0 - ((Kq.sz x0 : Nat) : Int) - ((zL Je x2 : Nat) : Int) - ((zL Ke x6 : Nat) : Int) < 0 := by omega
 have HE : Hid (szR k0 (Kq.sz x0 + zL Je x2 + zL Ke x6) = k0 - ((Kq.sz x0 : Nat) : Int) - ((zL Je x2 : Nat) : Int) - ((zL Ke x6 : Nat) : Int)) := zh (by rw [Yc (by omega)]; try omega)
 go_wp2
 go_ret
 exact ⟨Vc HE.out.symm, SP.out.d⟩
set_option maxHeartbeats 8000000 in
theorem eqK_Active {cs ds : List Value} {x : _} {w : World} (h : Ji.R w cs x) (g : Ji.R w ds x) (hs : leActive x) :
  Calls Tryz.prog 139 #[.agg cs.toArray, .agg ds.toArray] w fun e w' => e = .returned (.bool true) ∧ Below w w w' := by
 obtain ⟨x0, x1, x2, x3, x4, x5, x6⟩ := x
 obtain ⟨p0_0, p0_1, p0_2, p0_3, v2, v6, rfl, h0, h2, h6⟩ := tActive_P h
 obtain ⟨p0_0', p0_1', p0_2', p0_3', v2', v6', rfl, h0', h2', h6'⟩ := tActive_P g
 obtain ⟨l0, l2, l6⟩ := hs
 have H0 := zh h0; have G0 := zh h0'; have S0 := zh l0
 have H2 := zh h2; have G2 := zh h2'; have S2 := zh l2
 have H6 := zh h6; have G6 := zh h6'; have S6 := zh l6
 clear h0 h0' h2 h2' h6 h6'
 clear l0 l2 l6
 have e1 : (x1 != x1) = false := by simp
 have e3 : (x3 != x3) = false := by simp
 have e4 : (x4 != x4) = false := by simp
 have e5 : (x5 != x5) = false := by simp
 have SP : Hid (St w [iB (w.heap.size + 1) [p0_0', p0_1', p0_2', p0_3', .int .i64 x1, v2', .int .i64 x3, .int .i64 x4, .int .i64 x5, v6'] 104, iB w.heap.size [p0_0, p0_1, p0_2, p0_3, .int .i64 x1, v2, .int .i64 x3, .int .i64 x4, .int .i64 x5, v6] 104] ((w.alloc (.cells #[p0_0, p0_1, p0_2, p0_3, .int .i64 x1, v2, .int .i64 x3, .int .i64 x4, .int .i64 x5, v6] 104)).alloc (.cells #[p0_0', p0_1', p0_2', p0_3', .int .i64 x1, v2', .int .i64 x3, .int .i64 x4, .int .i64 x5, v6'] 104))) := zh (by have := ((St.init w).box [p0_0, p0_1, p0_2, p0_3, .int .i64 x1, v2, .int .i64 x3, .int .i64 x4, .int .i64 x5, v6] 104).box [p0_0', p0_1', p0_2', p0_3', .int .i64 x1, v2', .int .i64 x3, .int .i64 x4, .int .i64 x5, v6'] 104; simpa only [Ie] using this)
 go_enter Tryz.func139, Tryz.ntmps139
 have ld := Vr (SP.out.gB 1 rfl)
 have lc := Vr (SP.out.gB 0 rfl)
 go_wp2_with fail
 clear ld lc
 generalize ((w.alloc (.cells #[p0_0, p0_1, p0_2, p0_3, .int .i64 x1, v2, .int .i64 x3, .int .i64 x4, .int .i64 x5, v6] 104)).alloc (.cells #[p0_0', p0_1', p0_2', p0_3', .int .i64 x1, v2', .int .i64 x3, .int .i64 x4, .int .i64 x5, v6'] 104)) = W0 at *
 refine (eqK_Query (Kt.below H0.out SP.out.d) (Kt.below G0.out SP.out.d) S0.out).mono ?_
 rintro e W1 ⟨rfl, c⟩
 replace SP := zh (SP.out.below c)
 clear c
 have ld := Vr (SP.out.gB 1 rfl)
 have lc := Vr (SP.out.gB 0 rfl)
 go_wp2_with fail
 clear ld lc
 refine (En (Jb Jc H2.out SP.out.d) (Jb Jc G2.out SP.out.d) S2.out).mono ?_
 rintro e W2 ⟨rfl, c⟩
 replace SP := zh (SP.out.below c)
 clear c
 have ld := Vr (SP.out.gB 1 rfl)
 have lc := Vr (SP.out.gB 0 rfl)
 go_wp2_with fail
 clear ld lc
 refine (eqKS_RowS (Jb Jw H6.out SP.out.d) (Jb Jw G6.out SP.out.d) S6.out).mono ?_
 rintro e W3 ⟨rfl, c⟩
 replace SP := zh (SP.out.below c)
 clear c
 have ld := Vr (SP.out.gB 1 rfl)
 have lc := Vr (SP.out.gB 0 rfl)
 go_wp2
 go_ret
 exact ⟨rfl, SP.out.d⟩
set_option maxHeartbeats 8000000 in
theorem toK_Active {cs : List Value} {x : _} {w : World} (h : Ji.R w cs x) (hs : Ji.sz x ≤ 1048576) :
  Calls Tryz.prog 127 #[.agg cs.toArray] w (Yy Ji (fun cs => .agg cs.toArray) w x) := by
 obtain ⟨x0, x1, x2, x3, x4, x5, x6⟩ := x
 obtain ⟨p0_0, p0_1, p0_2, p0_3, v2, v6, rfl, h0, h2, h6⟩ := tActive_P h
 rw [szActive_eq] at hs
 have H0 := zh h0; have S0 := zh (show Kq.sz x0 ≤ 1048576 by omega)
 have H2 := zh h2; have S2 := zh (show zL Je x2 ≤ 1048576 by omega)
 have H6 := zh h6; have S6 := zh (show zL Ke x6 ≤ 1048576 by omega)
 clear hs h0 h2 h6
 have SP : Hid (St w [iB (w.heap.size + 1 + 1) [Ja, Ja, (), (), Ja, (), Ja, Ja, Ja, ()] 104, iB (w.heap.size + 1) [Ja, Ja, (), (), Ja, (), Ja, Ja, Ja, ()] 104, iB w.heap.size [p0_0, p0_1, p0_2, p0_3, .int .i64 x1, v2, .int .i64 x3, .int .i64 x4, .int .i64 x5, v6] 150] (((w.alloc (.cells #[p0_0, p0_1, p0_2, p0_3, .int .i64 x1, v2, .int .i64 x3, .int .i64 x4, .int .i64 x5, v6] 150)).alloc (.cells #[Ja, Ja, (), (), Ja, (), Ja, Ja, Ja, ()] 104)).alloc (.cells #[Ja, Ja, (), (), Ja, (), Ja, Ja, Ja, ()] 104))) := zh (by have := (((St.init w).box [p0_0, p0_1, p0_2, p0_3, .int .i64 x1, v2, .int .i64 x3, .int .i64 x4, .int .i64 x5, v6] 150).box [Ja, Ja, (), (), Ja, (), Ja, Ja, Ja, ()] 104).box [Ja, Ja, (), (), Ja, (), Ja, Ja, Ja, ()] 104; simpa only [Ie] using this)
 go_enter Tryz.func127, Tryz.ntmps127
 go_upto_region 2 with fail
 generalize (((w.alloc (.cells #[p0_0, p0_1, p0_2, p0_3, .int .i64 x1, v2, .int .i64 x3, .int .i64 x4, .int .i64 x5, v6] 150)).alloc (.cells #[Ja, Ja, (), (), Ja, (), Ja, Ja, Ja, ()] 104)).alloc (.cells #[Ja, Ja, (), (), Ja, (), Ja, Ja, Ja, ()] 104)) = W0 at *
 have ld := Vr (SP.out.gB 2 rfl)
 go_wp2_with fail
 clear ld
 refine (toK_Query (Kt.below H0.out SP.out.d) S0.out).mono ?_
 rintro e V0 ⟨gs, rfl, o, c⟩
 obtain ⟨g0_0, g0_1, g0_2, g0_3, rfl⟩ := len4 (Kt.len (Kt.reads o))
 obtain ⟨F0, sp⟩ := SP.out.pushE Kt c o (fun b h => h)
 replace SP := zh sp
 clear sp o c
 have st0 := Jx (P := Tryz.prog) (j := 0) (SP.out.gB 1 rfl) (by simp) (v := g0_0) (Vf (SP.out.rT 0 rfl) _ (by simp))
 have st1 := Jx (P := Tryz.prog) (j := 1) (setRow_heap V0 (w.heap.size + 1 + 1) _ #[g0_0, Ja, (), (), Ja, (), Ja, Ja, Ja, ()] 104 (0, 0) (SP.out.gB 1 rfl)) (by simp) (v := g0_1) (Vf (SP.out.rT 0 rfl) _ (by simp))
 rw [setRow_setRow] at st1
 have st2 := Jx (P := Tryz.prog) (j := 2) (setRow_heap V0 (w.heap.size + 1 + 1) _ #[g0_0, g0_1, (), (), Ja, (), Ja, Ja, Ja, ()] 104 (0, 0) (SP.out.gB 1 rfl)) (by simp) (v := g0_2) (Vf (SP.out.rT 0 rfl) _ (by simp))
 rw [setRow_setRow] at st2
 have st3 := Jx (P := Tryz.prog) (j := 3) (setRow_heap V0 (w.heap.size + 1 + 1) _ #[g0_0, g0_1, g0_2, (), Ja, (), Ja, Ja, Ja, ()] 104 (0, 0) (SP.out.gB 1 rfl)) (by simp) (v := g0_3) (Vf (SP.out.rT 0 rfl) _ (by simp))
 rw [setRow_setRow] at st3
 simp only [List.setIfInBounds_toArray, List.set_cons_succ, List.set_cons_zero] at st0 st1 st2 st3
 go_upto_region 3 with fail
 clear st0 st1 st2 st3
 replace SP := zh (SP.out.store 1 rfl [g0_0, g0_1, g0_2, g0_3, Ja, (), Ja, Ja, Ja, ()])
 generalize V0.setRow (w.heap.size + 1 + 1) #[g0_0, g0_1, g0_2, g0_3, .int .i64 0, .slice none 0 0, .int .i64 0, .int .i64 0, .int .i64 0, .slice none 0 0] = Y0 at *
 have ld := Vr (SP.out.gB 3 rfl)
 have le := Vr (SP.out.gB 1 rfl)
 have fz := froz10 (SP.out.gB 1 rfl)
 go_upto_region 4 with fail
 clear ld le fz
 have e := Jv (SP.out.gB 1 rfl) 4 (.int .i64 x1)
 simp only [List.setIfInBounds_toArray, List.set_cons_succ, List.set_cons_zero] at e
 rw [e]
 clear e
 replace SP := zh (SP.out.store 1 rfl [g0_0, g0_1, g0_2, g0_3, .int .i64 x1, (), Ja, Ja, Ja, ()])
 generalize Y0.setRow (w.heap.size + 1 + 1) #[g0_0, g0_1, g0_2, g0_3, .int .i64 x1, .slice none 0 0, .int .i64 0, .int .i64 0, .int .i64 0, .slice none 0 0] = Y1 at *
 have ld := Vr (SP.out.gB 3 rfl)
 go_wp2_with fail
 clear ld
 refine (Ek (Jb Jc H2.out SP.out.d) S2.out).mono ?_
 rintro e V2 ⟨g2, rfl, o, c⟩
 obtain ⟨ga2, gc2, rfl⟩ := Ju o
 obtain ⟨F2, sp⟩ := SP.out.pushTE Jc Vm c o (fun b h => h)
 replace SP := zh sp
 clear sp o c
 have le := Vr (SP.out.gB 2 rfl)
 have fz := froz10 (SP.out.gB 2 rfl)
 go_upto_region 5 with fail
 clear le fz
 have e := Jv (SP.out.gB 2 rfl) 5 (.slice ga2 x2.length gc2)
 simp only [List.setIfInBounds_toArray, List.set_cons_succ, List.set_cons_zero] at e
 rw [e]
 clear e
 replace SP := zh (SP.out.store 2 rfl [g0_0, g0_1, g0_2, g0_3, .int .i64 x1, .slice ga2 x2.length gc2, Ja, Ja, Ja, ()])
 generalize V2.setRow (w.heap.size + 1 + 1) #[g0_0, g0_1, g0_2, g0_3, .int .i64 x1, .slice ga2 x2.length gc2, .int .i64 0, .int .i64 0, .int .i64 0, .slice none 0 0] = Y2 at *
 have ld := Vr (SP.out.gB 4 rfl)
 have le := Vr (SP.out.gB 2 rfl)
 have fz := froz10 (SP.out.gB 2 rfl)
 go_upto_region 6 with fail
 clear ld le fz
 have e := Jv (SP.out.gB 2 rfl) 6 (.int .i64 x3)
 simp only [List.setIfInBounds_toArray, List.set_cons_succ, List.set_cons_zero] at e
 rw [e]
 clear e
 replace SP := zh (SP.out.store 2 rfl [g0_0, g0_1, g0_2, g0_3, .int .i64 x1, .slice ga2 x2.length gc2, .int .i64 x3, Ja, Ja, ()])
 generalize Y2.setRow (w.heap.size + 1 + 1) #[g0_0, g0_1, g0_2, g0_3, .int .i64 x1, .slice ga2 x2.length gc2, .int .i64 x3, .int .i64 0, .int .i64 0, .slice none 0 0] = Y3 at *
 have ld := Vr (SP.out.gB 4 rfl)
 have le := Vr (SP.out.gB 2 rfl)
 have fz := froz10 (SP.out.gB 2 rfl)
 go_upto_region 7 with fail
 clear ld le fz
 have e := Jv (SP.out.gB 2 rfl) 7 (.int .i64 x4)
 simp only [List.setIfInBounds_toArray, List.set_cons_succ, List.set_cons_zero] at e
 rw [e]
 clear e
 replace SP := zh (SP.out.store 2 rfl [g0_0, g0_1, g0_2, g0_3, .int .i64 x1, .slice ga2 x2.length gc2, .int .i64 x3, .int .i64 x4, Ja, ()])
 generalize Y3.setRow (w.heap.size + 1 + 1) #[g0_0, g0_1, g0_2, g0_3, .int .i64 x1, .slice ga2 x2.length gc2, .int .i64 x3, .int .i64 x4, .int .i64 0, .slice none 0 0] = Y4 at *
 have ld := Vr (SP.out.gB 4 rfl)
 have le := Vr (SP.out.gB 2 rfl)
 have fz := froz10 (SP.out.gB 2 rfl)
 go_upto_region 8 with fail
 clear ld le fz
 have e := Jv (SP.out.gB 2 rfl) 8 (.int .i64 x5)
 simp only [List.setIfInBounds_toArray, List.set_cons_succ, List.set_cons_zero] at e
 rw [e]
 clear e
 replace SP := zh (SP.out.store 2 rfl [g0_0, g0_1, g0_2, g0_3, .int .i64 x1, .slice ga2 x2.length gc2, .int .i64 x3, .int .i64 x4, .int .i64 x5, ()])
 generalize Y4.setRow (w.heap.size + 1 + 1) #[g0_0, g0_1, g0_2, g0_3, .int .i64 x1, .slice ga2 x2.length gc2, .int .i64 x3, .int .i64 x4, .int .i64 x5, .slice none 0 0] = Y5 at *
 have ld := Vr (SP.out.gB 4 rfl)
 go_wp2_with fail
 clear ld
 refine (toKS_RowS (Jb Jw H6.out SP.out.d) S6.out).mono ?_
 rintro e V6 ⟨g6, rfl, o, c⟩
 obtain ⟨ga6, gc6, rfl⟩ := Ju o
 obtain ⟨F6, sp⟩ := SP.out.pushTE Jw tRowS_law c o (fun b h => h)
 replace SP := zh sp
 clear sp o c
 have le := Vr (SP.out.gB 3 rfl)
 have fz := froz10 (SP.out.gB 3 rfl)
 go_upto_region 9 with fail
 clear le fz
 have e := Jv (SP.out.gB 3 rfl) 9 (.slice ga6 x6.length gc6)
 simp only [List.setIfInBounds_toArray, List.set_cons_succ, List.set_cons_zero] at e
 rw [e]
 clear e
 replace SP := zh (SP.out.store 3 rfl [g0_0, g0_1, g0_2, g0_3, .int .i64 x1, .slice ga2 x2.length gc2, .int .i64 x3, .int .i64 x4, .int .i64 x5, .slice ga6 x6.length gc6])
 generalize V6.setRow (w.heap.size + 1 + 1) #[g0_0, g0_1, g0_2, g0_3, .int .i64 x1, .slice ga2 x2.length gc2, .int .i64 x3, .int .i64 x4, .int .i64 x5, .slice ga6 x6.length gc6] = Y6 at *
 generalize hu4 : Value.int .i64 x1 = u4 at SP
 have on4 : ∀ v ∈ [u4], v.oneCell' = true := by rw [← hu4]; simp [Value.oneCell']
 have HU4 := zh hu4
 clear hu4
 generalize hu5 : Value.slice ga2 x2.length gc2 = u5 at SP
 have on5 : ∀ v ∈ [u5], v.oneCell' = true := by rw [← hu5]; simp [Value.oneCell']
 have HU5 := zh hu5
 clear hu5
 generalize hu6 : Value.int .i64 x3 = u6 at SP
 have on6 : ∀ v ∈ [u6], v.oneCell' = true := by rw [← hu6]; simp [Value.oneCell']
 have HU6 := zh hu6
 clear hu6
 generalize hu7 : Value.int .i64 x4 = u7 at SP
 have on7 : ∀ v ∈ [u7], v.oneCell' = true := by rw [← hu7]; simp [Value.oneCell']
 have HU7 := zh hu7
 clear hu7
 generalize hu8 : Value.int .i64 x5 = u8 at SP
 have on8 : ∀ v ∈ [u8], v.oneCell' = true := by rw [← hu8]; simp [Value.oneCell']
 have HU8 := zh hu8
 clear hu8
 generalize hu9 : Value.slice ga6 x6.length gc6 = u9 at SP
 have on9 : ∀ v ∈ [u9], v.oneCell' = true := by rw [← hu9]; simp [Value.oneCell']
 have HU9 := zh hu9
 clear hu9
 have hone := (Kk (Vf (SP.out.rT 2 rfl)) (Kk on4 (Kk on5 (Kk on6 (Kk on7 (Kk on8 on9))))))
 clear on4 on5 on6 on7 on8 on9
 have ld := Vr (SP.out.gB 3 rfl)
 have st := rst10 (P := Tryz.prog) (SP.out.gB 4 rfl) hone
 go_wp2
 clear ld st hone
 replace SP := zh (SP.out.store 4 rfl [g0_0, g0_1, g0_2, g0_3, u4, u5, u6, u7, u8, u9])
 generalize Y6.setRow (w.heap.size + 1) #[g0_0, g0_1, g0_2, g0_3, u4, u5, u6, u7, u8, u9] = YY at *
 have ld := Vr (SP.out.gB 4 rfl)
 have J := SP.out.sub [0, 1, 2] (by decide)
 refine bodyPost_ret (v := .agg #[g0_0, g0_1, g0_2, g0_3, u4, u5, u6, u7, u8, u9]) (by simp [results, Tryz.f127, go_sem, ld]) rfl ?_
 replace J := J.intp x5
 replace J := J.intp x4
 replace J := J.intp x3
 obtain ⟨_, J⟩ := J.cat
 replace J := J.intp x1
 obtain ⟨_, J⟩ := J.cat
 obtain rfl := HU4.out
 obtain rfl := HU5.out
 obtain rfl := HU6.out
 obtain rfl := HU7.out
 obtain rfl := HU8.out
 obtain rfl := HU9.out
 exact ⟨_, rfl, J.outC, SP.out.d⟩
theorem tFinished_one : Jg.One := (Kl Vf (Kl Vh (Kl Vh (Xm _ _))))
theorem tFinished_P {w : World} {cs : List Value} {x0 : _} {x1 : _} {x2 : _} {x3 : _} (h : Jg.R w cs (x0, x1, x2, x3)) : ∃ p0_0 p0_1 p0_2 p0_3 v3, cs = [p0_0, p0_1, p0_2, p0_3, .int .i64 x1, .int .i64 x2, v3] ∧ Kq.R w [p0_0, p0_1, p0_2, p0_3] x0 ∧ Ko Ke w v3 x3 := by
 obtain ⟨c0, _, rfl, h0, ⟨_, _, rfl, rfl, ⟨_, _, rfl, rfl, ⟨v3, rfl, h3⟩⟩⟩⟩ := h
 obtain ⟨p0_0, p0_1, p0_2, p0_3, rfl⟩ := len4 (Kt.len h0)
 exact ⟨p0_0, p0_1, p0_2, p0_3, v3, rfl, h0, h3⟩
theorem szFinished_eq {x0 : _} {x1 : _} {x2 : _} {x3 : _} : Jg.sz (x0, x1, x2, x3) = Kq.sz x0 + zL Ke x3 := by
 simp only [Jg, Vt, Yk, Xo]; try omega
def leFinished (x : (Int × Int × List (Int × Int × Int) × List Int) × Int × Int × List (Int × List Int)) : Prop := leQuery x.1 ∧ zL Ke x.2.2.2 ≤ 1048576
theorem leFinished_of {x : (Int × Int × List (Int × Int × Int) × List Int) × Int × Int × List (Int × List Int)} (h : Jg.sz x ≤ 1048576) : leFinished x := by
 obtain ⟨x0, x1, x2, x3⟩ := x
 rw [szFinished_eq] at h
 exact ⟨leQuery_of (show Kq.sz x0 ≤ _ by omega), by show zL Ke x3 ≤ _; omega⟩
set_option maxHeartbeats 8000000 in
theorem szK_Finished {cs : List Value} {x : _} {k0 : Int} {w : World} (h : Jg.R w cs x) (hk : k0 ≤ 1048576) (hp : 0 ≤ k0) (ho : Jg.ok x) :
  Calls Tryz.prog 119 #[.agg cs.toArray, .int .i64 k0] w fun e w' => e = .returned (.int .i64 (szR k0 (Jg.sz x))) ∧ Below w w w' := by
 obtain ⟨x0, x1, x2, x3⟩ := x
 obtain ⟨p0_0, p0_1, p0_2, p0_3, v3, rfl, h0, h3⟩ := tFinished_P h
 rw [szFinished_eq]
 obtain ⟨o0, o1, o2, o3⟩ := ho
 have H0 := zh h0
 have O0 := zh o0
 have H3 := zh h3
 have O3 := zh o3
 clear h0 h3
 clear o0 o1 o2 o3
 have SP := zh ((St.init w).box [p0_0, p0_1, p0_2, p0_3, .int .i64 x1, .int .i64 x2, v3] 153)
 go_enter Tryz.func119, Tryz.ntmps119
 have ld := Uv (SP.out.gB 0 rfl)
 go_wp2_with fail
 clear ld
 generalize (w.alloc (.cells #[p0_0, p0_1, p0_2, p0_3, .int .i64 x1, .int .i64 x2, v3] 153)) = W0 at *
 refine (szK_Query (Kt.below H0.out SP.out.d) (k0 := k0) (by omega) (by omega) O0.out).mono ?_
 rintro e W1 ⟨rfl, c⟩
 replace SP := zh (SP.out.below c)
 clear c
 by_cases z0 : ((Kq.sz x0 : Nat) : Int) ≤ k0
 rotate_left
 ·
  rw [Vg z0]
  have HE := zh (Vg (k := k0) (z := Kq.sz x0 + zL Ke x3) (by omega))
  clear z0
  go_wp2
  go_ret
  exact ⟨Vc HE.out.symm, SP.out.d⟩
 rw [Yc z0]
 have n0 : ¬ k0 - ((Kq.sz x0 : Nat) : Int) < 0 := by omega
 have ld := Uv (SP.out.gB 0 rfl)
 go_wp2_with fail
 clear ld
 refine (szKS_RowS (Jb Jw H3.out SP.out.d) (k0 := k0 - ((Kq.sz x0 : Nat) : Int)) (by omega) (by omega) O3.out).mono ?_
 rintro e W2 ⟨rfl, c⟩
 replace SP := zh (SP.out.below c)
 clear c
 by_cases z1 : ((zL Ke x3 : Nat) : Int) ≤ k0 - ((Kq.sz x0 : Nat) : Int)
 rotate_left
 ·
  rw [Vg z1]
  have HE := zh (Vg (k := k0) (z := Kq.sz x0 + zL Ke x3) (by omega))
  clear z0 z1
  go_wp2
  go_ret
  exact ⟨Vc HE.out.symm, SP.out.d⟩
 rw [Yc z1]
 have n1 : ¬ k0 - ((Kq.sz x0 : Nat) : Int) - ((zL Ke x3 : Nat) : Int) < 0 := by omega
 have HE : Hid (szR k0 (Kq.sz x0 + zL Ke x3) = k0 - ((Kq.sz x0 : Nat) : Int) - ((zL Ke x3 : Nat) : Int)) := zh (by rw [Yc (by omega)]; try omega)
 go_wp2
 go_ret
 exact ⟨Vc HE.out.symm, SP.out.d⟩
set_option maxHeartbeats 8000000 in
theorem eqK_Finished {cs ds : List Value} {x : _} {w : World} (h : Jg.R w cs x) (g : Jg.R w ds x) (hs : leFinished x) :
  Calls Tryz.prog 27 #[.agg cs.toArray, .agg ds.toArray] w fun e w' => e = .returned (.bool true) ∧ Below w w w' := by
 obtain ⟨x0, x1, x2, x3⟩ := x
 obtain ⟨p0_0, p0_1, p0_2, p0_3, v3, rfl, h0, h3⟩ := tFinished_P h
 obtain ⟨p0_0', p0_1', p0_2', p0_3', v3', rfl, h0', h3'⟩ := tFinished_P g
 obtain ⟨l0, l3⟩ := hs
 have H0 := zh h0; have G0 := zh h0'; have S0 := zh l0
 have H3 := zh h3; have G3 := zh h3'; have S3 := zh l3
 clear h0 h0' h3 h3'
 clear l0 l3
 have e1 : (x1 != x1) = false := by simp
 have e2 : (x2 != x2) = false := by simp
 have SP : Hid (St w [iB (w.heap.size + 1) [p0_0', p0_1', p0_2', p0_3', .int .i64 x1, .int .i64 x2, v3'] 59, iB w.heap.size [p0_0, p0_1, p0_2, p0_3, .int .i64 x1, .int .i64 x2, v3] 59] ((w.alloc (.cells #[p0_0, p0_1, p0_2, p0_3, .int .i64 x1, .int .i64 x2, v3] 59)).alloc (.cells #[p0_0', p0_1', p0_2', p0_3', .int .i64 x1, .int .i64 x2, v3'] 59))) := zh (by have := ((St.init w).box [p0_0, p0_1, p0_2, p0_3, .int .i64 x1, .int .i64 x2, v3] 59).box [p0_0', p0_1', p0_2', p0_3', .int .i64 x1, .int .i64 x2, v3'] 59; simpa only [Ie] using this)
 go_enter Tryz.func27, Tryz.ntmps27
 have ld := Uv (SP.out.gB 1 rfl)
 have lc := Uv (SP.out.gB 0 rfl)
 go_wp2_with fail
 clear ld lc
 generalize ((w.alloc (.cells #[p0_0, p0_1, p0_2, p0_3, .int .i64 x1, .int .i64 x2, v3] 59)).alloc (.cells #[p0_0', p0_1', p0_2', p0_3', .int .i64 x1, .int .i64 x2, v3'] 59)) = W0 at *
 refine (eqK_Query (Kt.below H0.out SP.out.d) (Kt.below G0.out SP.out.d) S0.out).mono ?_
 rintro e W1 ⟨rfl, c⟩
 replace SP := zh (SP.out.below c)
 clear c
 have ld := Uv (SP.out.gB 1 rfl)
 have lc := Uv (SP.out.gB 0 rfl)
 go_wp2_with fail
 clear ld lc
 refine (eqKS_RowS (Jb Jw H3.out SP.out.d) (Jb Jw G3.out SP.out.d) S3.out).mono ?_
 rintro e W2 ⟨rfl, c⟩
 replace SP := zh (SP.out.below c)
 clear c
 have ld := Uv (SP.out.gB 1 rfl)
 have lc := Uv (SP.out.gB 0 rfl)
 go_wp2
 go_ret
 exact ⟨rfl, SP.out.d⟩
set_option maxHeartbeats 8000000 in
theorem toK_Finished {cs : List Value} {x : _} {w : World} (h : Jg.R w cs x) (hs : Jg.sz x ≤ 1048576) :
  Calls Tryz.prog 128 #[.agg cs.toArray] w (Yy Jg (fun cs => .agg cs.toArray) w x) := by
 obtain ⟨x0, x1, x2, x3⟩ := x
 obtain ⟨p0_0, p0_1, p0_2, p0_3, v3, rfl, h0, h3⟩ := tFinished_P h
 rw [szFinished_eq] at hs
 have H0 := zh h0; have S0 := zh (show Kq.sz x0 ≤ 1048576 by omega)
 have H3 := zh h3; have S3 := zh (show zL Ke x3 ≤ 1048576 by omega)
 clear hs h0 h3
 have SP : Hid (St w [iB (w.heap.size + 1 + 1) [Ja, Ja, (), (), Ja, Ja, ()] 59, iB (w.heap.size + 1) [Ja, Ja, (), (), Ja, Ja, ()] 59, iB w.heap.size [p0_0, p0_1, p0_2, p0_3, .int .i64 x1, .int .i64 x2, v3] 153] (((w.alloc (.cells #[p0_0, p0_1, p0_2, p0_3, .int .i64 x1, .int .i64 x2, v3] 153)).alloc (.cells #[Ja, Ja, (), (), Ja, Ja, ()] 59)).alloc (.cells #[Ja, Ja, (), (), Ja, Ja, ()] 59))) := zh (by have := (((St.init w).box [p0_0, p0_1, p0_2, p0_3, .int .i64 x1, .int .i64 x2, v3] 153).box [Ja, Ja, (), (), Ja, Ja, ()] 59).box [Ja, Ja, (), (), Ja, Ja, ()] 59; simpa only [Ie] using this)
 go_enter Tryz.func128, Tryz.ntmps128
 go_upto_region 2 with fail
 generalize (((w.alloc (.cells #[p0_0, p0_1, p0_2, p0_3, .int .i64 x1, .int .i64 x2, v3] 153)).alloc (.cells #[Ja, Ja, (), (), Ja, Ja, ()] 59)).alloc (.cells #[Ja, Ja, (), (), Ja, Ja, ()] 59)) = W0 at *
 have ld := Uv (SP.out.gB 2 rfl)
 go_wp2_with fail
 clear ld
 refine (toK_Query (Kt.below H0.out SP.out.d) S0.out).mono ?_
 rintro e V0 ⟨gs, rfl, o, c⟩
 obtain ⟨g0_0, g0_1, g0_2, g0_3, rfl⟩ := len4 (Kt.len (Kt.reads o))
 obtain ⟨F0, sp⟩ := SP.out.pushE Kt c o (fun b h => h)
 replace SP := zh sp
 clear sp o c
 have st0 := Jx (P := Tryz.prog) (j := 0) (SP.out.gB 1 rfl) (by simp) (v := g0_0) (Vf (SP.out.rT 0 rfl) _ (by simp))
 have st1 := Jx (P := Tryz.prog) (j := 1) (setRow_heap V0 (w.heap.size + 1 + 1) _ #[g0_0, Ja, (), (), Ja, Ja, ()] 59 (0, 0) (SP.out.gB 1 rfl)) (by simp) (v := g0_1) (Vf (SP.out.rT 0 rfl) _ (by simp))
 rw [setRow_setRow] at st1
 have st2 := Jx (P := Tryz.prog) (j := 2) (setRow_heap V0 (w.heap.size + 1 + 1) _ #[g0_0, g0_1, (), (), Ja, Ja, ()] 59 (0, 0) (SP.out.gB 1 rfl)) (by simp) (v := g0_2) (Vf (SP.out.rT 0 rfl) _ (by simp))
 rw [setRow_setRow] at st2
 have st3 := Jx (P := Tryz.prog) (j := 3) (setRow_heap V0 (w.heap.size + 1 + 1) _ #[g0_0, g0_1, g0_2, (), Ja, Ja, ()] 59 (0, 0) (SP.out.gB 1 rfl)) (by simp) (v := g0_3) (Vf (SP.out.rT 0 rfl) _ (by simp))
 rw [setRow_setRow] at st3
 simp only [List.setIfInBounds_toArray, List.set_cons_succ, List.set_cons_zero] at st0 st1 st2 st3
 go_upto_region 3 with fail
 clear st0 st1 st2 st3
 replace SP := zh (SP.out.store 1 rfl [g0_0, g0_1, g0_2, g0_3, Ja, Ja, ()])
 generalize V0.setRow (w.heap.size + 1 + 1) #[g0_0, g0_1, g0_2, g0_3, .int .i64 0, .int .i64 0, .slice none 0 0] = Y0 at *
 have ld := Uv (SP.out.gB 3 rfl)
 have le := Uv (SP.out.gB 1 rfl)
 have fz := froz7 (SP.out.gB 1 rfl)
 go_upto_region 4 with fail
 clear ld le fz
 have e := Jv (SP.out.gB 1 rfl) 4 (.int .i64 x1)
 simp only [List.setIfInBounds_toArray, List.set_cons_succ, List.set_cons_zero] at e
 rw [e]
 clear e
 replace SP := zh (SP.out.store 1 rfl [g0_0, g0_1, g0_2, g0_3, .int .i64 x1, Ja, ()])
 generalize Y0.setRow (w.heap.size + 1 + 1) #[g0_0, g0_1, g0_2, g0_3, .int .i64 x1, .int .i64 0, .slice none 0 0] = Y1 at *
 have ld := Uv (SP.out.gB 3 rfl)
 have le := Uv (SP.out.gB 1 rfl)
 have fz := froz7 (SP.out.gB 1 rfl)
 go_upto_region 5 with fail
 clear ld le fz
 have e := Jv (SP.out.gB 1 rfl) 5 (.int .i64 x2)
 simp only [List.setIfInBounds_toArray, List.set_cons_succ, List.set_cons_zero] at e
 rw [e]
 clear e
 replace SP := zh (SP.out.store 1 rfl [g0_0, g0_1, g0_2, g0_3, .int .i64 x1, .int .i64 x2, ()])
 generalize Y1.setRow (w.heap.size + 1 + 1) #[g0_0, g0_1, g0_2, g0_3, .int .i64 x1, .int .i64 x2, .slice none 0 0] = Y2 at *
 have ld := Uv (SP.out.gB 3 rfl)
 go_wp2_with fail
 clear ld
 refine (toKS_RowS (Jb Jw H3.out SP.out.d) S3.out).mono ?_
 rintro e V3 ⟨g3, rfl, o, c⟩
 obtain ⟨ga3, gc3, rfl⟩ := Ju o
 obtain ⟨F3, sp⟩ := SP.out.pushTE Jw tRowS_law c o (fun b h => h)
 replace SP := zh sp
 clear sp o c
 have le := Uv (SP.out.gB 2 rfl)
 have fz := froz7 (SP.out.gB 2 rfl)
 go_upto_region 6 with fail
 clear le fz
 have e := Jv (SP.out.gB 2 rfl) 6 (.slice ga3 x3.length gc3)
 simp only [List.setIfInBounds_toArray, List.set_cons_succ, List.set_cons_zero] at e
 rw [e]
 clear e
 replace SP := zh (SP.out.store 2 rfl [g0_0, g0_1, g0_2, g0_3, .int .i64 x1, .int .i64 x2, .slice ga3 x3.length gc3])
 generalize V3.setRow (w.heap.size + 1 + 1) #[g0_0, g0_1, g0_2, g0_3, .int .i64 x1, .int .i64 x2, .slice ga3 x3.length gc3] = Y3 at *
 generalize hu4 : Value.int .i64 x1 = u4 at SP
 have on4 : ∀ v ∈ [u4], v.oneCell' = true := by rw [← hu4]; simp [Value.oneCell']
 have HU4 := zh hu4
 clear hu4
 generalize hu5 : Value.int .i64 x2 = u5 at SP
 have on5 : ∀ v ∈ [u5], v.oneCell' = true := by rw [← hu5]; simp [Value.oneCell']
 have HU5 := zh hu5
 clear hu5
 generalize hu6 : Value.slice ga3 x3.length gc3 = u6 at SP
 have on6 : ∀ v ∈ [u6], v.oneCell' = true := by rw [← hu6]; simp [Value.oneCell']
 have HU6 := zh hu6
 clear hu6
 have hone := (Kk (Vf (SP.out.rT 1 rfl)) (Kk on4 (Kk on5 on6)))
 clear on4 on5 on6
 have ld := Uv (SP.out.gB 2 rfl)
 have st := rst7 (P := Tryz.prog) (SP.out.gB 3 rfl) hone
 go_wp2
 clear ld st hone
 replace SP := zh (SP.out.store 3 rfl [g0_0, g0_1, g0_2, g0_3, u4, u5, u6])
 generalize Y3.setRow (w.heap.size + 1) #[g0_0, g0_1, g0_2, g0_3, u4, u5, u6] = YY at *
 have ld := Uv (SP.out.gB 3 rfl)
 have J := SP.out.sub [0, 1] (by decide)
 refine bodyPost_ret (v := .agg #[g0_0, g0_1, g0_2, g0_3, u4, u5, u6]) (by simp [results, Tryz.f128, go_sem, ld]) rfl ?_
 replace J := J.intp x2
 replace J := J.intp x1
 obtain ⟨_, J⟩ := J.cat
 obtain rfl := HU4.out
 obtain rfl := HU5.out
 obtain rfl := HU6.out
 exact ⟨_, rfl, J.outC, SP.out.d⟩
theorem tCharge_one : Jo.One := (Kl Vh (Kl Vh (Kl (Xm _ _) (Kl (Xm _ _) (Xm _ _)))))
theorem tCharge_P {w : World} {cs : List Value} {x0 : _} {x1 : _} {x2 : _} {x3 : _} {x4 : _} (h : Jo.R w cs (x0, x1, x2, x3, x4)) : ∃ v2 v3 v4, cs = [.int .i64 x0, .int .i64 x1, v2, v3, v4] ∧ Ko Je w v2 x2 ∧ Ko Je w v3 x3 ∧ Ko Je w v4 x4 := by
 obtain ⟨_, _, rfl, rfl, ⟨_, _, rfl, rfl, ⟨_, _, rfl, ⟨v2, rfl, h2⟩, ⟨_, _, rfl, ⟨v3, rfl, h3⟩, ⟨v4, rfl, h4⟩⟩⟩⟩⟩ := h
 exact ⟨v2, v3, v4, rfl, h2, h3, h4⟩
theorem szCharge_eq {x0 : _} {x1 : _} {x2 : _} {x3 : _} {x4 : _} : Jo.sz (x0, x1, x2, x3, x4) = zL Je x2 + zL Je x3 + zL Je x4 := by
 simp only [Jo, Vt, Yk, Xo]; try omega
def leCharge (x : Int × Int × List Int × List Int × List Int) : Prop := zL Je x.2.2.1 ≤ 1048576 ∧ zL Je x.2.2.2.1 ≤ 1048576 ∧ zL Je x.2.2.2.2 ≤ 1048576
theorem leCharge_of {x : Int × Int × List Int × List Int × List Int} (h : Jo.sz x ≤ 1048576) : leCharge x := by
 obtain ⟨x0, x1, x2, x3, x4⟩ := x
 rw [szCharge_eq] at h
 exact ⟨by show zL Je x2 ≤ _; omega, by show zL Je x3 ≤ _; omega, by show zL Je x4 ≤ _; omega⟩
set_option maxHeartbeats 8000000 in
theorem szK_Charge {cs : List Value} {x : _} {k0 : Int} {w : World} (h : Jo.R w cs x) (hk : k0 ≤ 1048576) (hp : 0 ≤ k0) (ho : Jo.ok x) :
  Calls Tryz.prog 120 #[.agg cs.toArray, .int .i64 k0] w fun e w' => e = .returned (.int .i64 (szR k0 (Jo.sz x))) ∧ Below w w w' := by
 obtain ⟨x0, x1, x2, x3, x4⟩ := x
 obtain ⟨v2, v3, v4, rfl, h2, h3, h4⟩ := tCharge_P h
 rw [szCharge_eq]
 obtain ⟨o0, o1, o2, o3, o4⟩ := ho
 have H2 := zh h2
 have O2 := zh o2
 have H3 := zh h3
 have O3 := zh o3
 have H4 := zh h4
 have O4 := zh o4
 clear h2 h3 h4
 clear o0 o1 o2 o3 o4
 have SP := zh ((St.init w).box [.int .i64 x0, .int .i64 x1, v2, v3, v4] 156)
 go_enter Tryz.func120, Tryz.ntmps120
 have ld := Xh (SP.out.gB 0 rfl)
 go_wp2_with fail
 clear ld
 generalize (w.alloc (.cells #[.int .i64 x0, .int .i64 x1, v2, v3, v4] 156)) = W0 at *
 refine (El (Jb Jc H2.out SP.out.d) (k0 := k0) (by omega) (by omega) O2.out).mono ?_
 rintro e W1 ⟨rfl, c⟩
 replace SP := zh (SP.out.below c)
 clear c
 by_cases z0 : ((zL Je x2 : Nat) : Int) ≤ k0
 rotate_left
 ·
  rw [Vg z0]
  have HE := zh (Vg (k := k0) (z := zL Je x2 + zL Je x3 + zL Je x4) (by omega))
  clear z0
  go_wp2
  go_ret
  exact ⟨Vc HE.out.symm, SP.out.d⟩
 rw [Yc z0]
 have n0 : ¬ k0 - ((zL Je x2 : Nat) : Int) < 0 := by omega
 have ld := Xh (SP.out.gB 0 rfl)
 go_wp2_with fail
 clear ld
 refine (El (Jb Jc H3.out SP.out.d) (k0 := k0 - ((zL Je x2 : Nat) : Int)) (by omega) (by omega) O3.out).mono ?_
 rintro e W2 ⟨rfl, c⟩
 replace SP := zh (SP.out.below c)
 clear c
 by_cases z1 : ((zL Je x3 : Nat) : Int) ≤ k0 - ((zL Je x2 : Nat) : Int)
 rotate_left
 ·
  rw [Vg z1]
  have HE := zh (Vg (k := k0) (z := zL Je x2 + zL Je x3 + zL Je x4) (by omega))
  clear z0 z1
  go_wp2
  go_ret
  exact ⟨Vc HE.out.symm, SP.out.d⟩
 rw [Yc z1]
 have n1 : ¬ k0 - ((zL Je x2 : Nat) : Int) - ((zL Je x3 : Nat) : Int) < 0 := by omega
 have ld := Xh (SP.out.gB 0 rfl)
 go_wp2_with fail
 clear ld
 refine (El (Jb Jc H4.out SP.out.d) (k0 := k0 - ((zL Je x2 : Nat) : Int) - ((zL Je x3 : Nat) : Int)) (by omega) (by omega) O4.out).mono ?_
 rintro e W3 ⟨rfl, c⟩
 replace SP := zh (SP.out.below c)
 clear c
 by_cases z2 : ((zL Je x4 : Nat) : Int) ≤ k0 - ((zL Je x2 : Nat) : Int) - ((zL Je x3 : Nat) : Int)
 rotate_left
 ·
  rw [Vg z2]
  have HE := zh (Vg (k := k0) (z := zL Je x2 + zL Je x3 + zL Je x4) (by omega))
  clear z0 z1 z2
  go_wp2
  go_ret
  exact ⟨Vc HE.out.symm, SP.out.d⟩
 rw [Yc z2]
 have n2 : ¬ k0 - ((zL Je x2 : Nat) : Int) - ((zL Je x3 : Nat) : Int) - ((zL Je x4 : Nat) : Int) < 0 := by omega
 have HE : Hid (szR k0 (zL Je x2 + zL Je x3 + zL Je x4) = k0 - ((zL Je x2 : Nat) : Int) - ((zL Je x3 : Nat) : Int) - ((zL Je x4 : Nat) : Int)) := zh (by rw [Yc (by omega)]; try omega)
 go_wp2
 go_ret
 exact ⟨Vc HE.out.symm, SP.out.d⟩
set_option maxHeartbeats 8000000 in
theorem eqK_Charge {cs ds : List Value} {x : _} {w : World} (h : Jo.R w cs x) (g : Jo.R w ds x) (hs : leCharge x) :
  Calls Tryz.prog 140 #[.agg cs.toArray, .agg ds.toArray] w fun e w' => e = .returned (.bool true) ∧ Below w w w' := by
 obtain ⟨x0, x1, x2, x3, x4⟩ := x
 obtain ⟨v2, v3, v4, rfl, h2, h3, h4⟩ := tCharge_P h
 obtain ⟨v2', v3', v4', rfl, h2', h3', h4'⟩ := tCharge_P g
 obtain ⟨l2, l3, l4⟩ := hs
 have H2 := zh h2; have G2 := zh h2'; have S2 := zh l2
 have H3 := zh h3; have G3 := zh h3'; have S3 := zh l3
 have H4 := zh h4; have G4 := zh h4'; have S4 := zh l4
 clear h2 h2' h3 h3' h4 h4'
 clear l2 l3 l4
 have e0 : (x0 != x0) = false := by simp
 have e1 : (x1 != x1) = false := by simp
 have SP : Hid (St w [iB (w.heap.size + 1) [.int .i64 x0, .int .i64 x1, v2', v3', v4'] 162, iB w.heap.size [.int .i64 x0, .int .i64 x1, v2, v3, v4] 162] ((w.alloc (.cells #[.int .i64 x0, .int .i64 x1, v2, v3, v4] 162)).alloc (.cells #[.int .i64 x0, .int .i64 x1, v2', v3', v4'] 162))) := zh (by have := ((St.init w).box [.int .i64 x0, .int .i64 x1, v2, v3, v4] 162).box [.int .i64 x0, .int .i64 x1, v2', v3', v4'] 162; simpa only [Ie] using this)
 go_enter Tryz.func140, Tryz.ntmps140
 have ld := Xh (SP.out.gB 1 rfl)
 have lc := Xh (SP.out.gB 0 rfl)
 go_wp2_with fail
 clear ld lc
 generalize ((w.alloc (.cells #[.int .i64 x0, .int .i64 x1, v2, v3, v4] 162)).alloc (.cells #[.int .i64 x0, .int .i64 x1, v2', v3', v4'] 162)) = W0 at *
 refine (En (Jb Jc H2.out SP.out.d) (Jb Jc G2.out SP.out.d) S2.out).mono ?_
 rintro e W1 ⟨rfl, c⟩
 replace SP := zh (SP.out.below c)
 clear c
 have ld := Xh (SP.out.gB 1 rfl)
 have lc := Xh (SP.out.gB 0 rfl)
 go_wp2_with fail
 clear ld lc
 refine (En (Jb Jc H3.out SP.out.d) (Jb Jc G3.out SP.out.d) S3.out).mono ?_
 rintro e W2 ⟨rfl, c⟩
 replace SP := zh (SP.out.below c)
 clear c
 have ld := Xh (SP.out.gB 1 rfl)
 have lc := Xh (SP.out.gB 0 rfl)
 go_wp2_with fail
 clear ld lc
 refine (En (Jb Jc H4.out SP.out.d) (Jb Jc G4.out SP.out.d) S4.out).mono ?_
 rintro e W3 ⟨rfl, c⟩
 replace SP := zh (SP.out.below c)
 clear c
 have ld := Xh (SP.out.gB 1 rfl)
 have lc := Xh (SP.out.gB 0 rfl)
 go_wp2
 go_ret
 exact ⟨rfl, SP.out.d⟩
set_option maxHeartbeats 8000000 in
theorem toK_Charge {cs : List Value} {x : _} {w : World} (h : Jo.R w cs x) (hs : Jo.sz x ≤ 1048576) :
  Calls Tryz.prog 129 #[.agg cs.toArray] w (Yy Jo (fun cs => .agg cs.toArray) w x) := by
 obtain ⟨x0, x1, x2, x3, x4⟩ := x
 obtain ⟨v2, v3, v4, rfl, h2, h3, h4⟩ := tCharge_P h
 rw [szCharge_eq] at hs
 have H2 := zh h2; have S2 := zh (show zL Je x2 ≤ 1048576 by omega)
 have H3 := zh h3; have S3 := zh (show zL Je x3 ≤ 1048576 by omega)
 have H4 := zh h4; have S4 := zh (show zL Je x4 ≤ 1048576 by omega)
 clear hs h2 h3 h4
 have SP : Hid (St w [iB (w.heap.size + 1 + 1) [Ja, Ja, (), (), ()] 162, iB (w.heap.size + 1) [Ja, Ja, (), (), ()] 162, iB w.heap.size [.int .i64 x0, .int .i64 x1, v2, v3, v4] 156] (((w.alloc (.cells #[.int .i64 x0, .int .i64 x1, v2, v3, v4] 156)).alloc (.cells #[Ja, Ja, (), (), ()] 162)).alloc (.cells #[Ja, Ja, (), (), ()] 162))) := zh (by have := (((St.init w).box [.int .i64 x0, .int .i64 x1, v2, v3, v4] 156).box [Ja, Ja, (), (), ()] 162).box [Ja, Ja, (), (), ()] 162; simpa only [Ie] using this)
 go_enter Tryz.func129, Tryz.ntmps129
 go_upto_region 2 with fail
 generalize (((w.alloc (.cells #[.int .i64 x0, .int .i64 x1, v2, v3, v4] 156)).alloc (.cells #[Ja, Ja, (), (), ()] 162)).alloc (.cells #[Ja, Ja, (), (), ()] 162)) = W0 at *
 have ld := Xh (SP.out.gB 2 rfl)
 have le := Xh (SP.out.gB 0 rfl)
 have fz := froz5 (SP.out.gB 0 rfl)
 go_upto_region 3 with fail
 clear ld le fz
 have e := Jv (SP.out.gB 0 rfl) 0 (.int .i64 x0)
 simp only [List.setIfInBounds_toArray, List.set_cons_succ, List.set_cons_zero] at e
 rw [e]
 clear e
 replace SP := zh (SP.out.store 0 rfl [.int .i64 x0, Ja, (), (), ()])
 generalize W0.setRow (w.heap.size + 1 + 1) #[.int .i64 x0, .int .i64 0, .slice none 0 0, .slice none 0 0, .slice none 0 0] = Y0 at *
 have ld := Xh (SP.out.gB 2 rfl)
 have le := Xh (SP.out.gB 0 rfl)
 have fz := froz5 (SP.out.gB 0 rfl)
 go_upto_region 4 with fail
 clear ld le fz
 have e := Jv (SP.out.gB 0 rfl) 1 (.int .i64 x1)
 simp only [List.setIfInBounds_toArray, List.set_cons_succ, List.set_cons_zero] at e
 rw [e]
 clear e
 replace SP := zh (SP.out.store 0 rfl [.int .i64 x0, .int .i64 x1, (), (), ()])
 generalize Y0.setRow (w.heap.size + 1 + 1) #[.int .i64 x0, .int .i64 x1, .slice none 0 0, .slice none 0 0, .slice none 0 0] = Y1 at *
 have ld := Xh (SP.out.gB 2 rfl)
 go_wp2_with fail
 clear ld
 refine (Ek (Jb Jc H2.out SP.out.d) S2.out).mono ?_
 rintro e V2 ⟨g2, rfl, o, c⟩
 obtain ⟨ga2, gc2, rfl⟩ := Ju o
 obtain ⟨F2, sp⟩ := SP.out.pushTE Jc Vm c o (fun b h => h)
 replace SP := zh sp
 clear sp o c
 have le := Xh (SP.out.gB 1 rfl)
 have fz := froz5 (SP.out.gB 1 rfl)
 go_upto_region 5 with fail
 clear le fz
 have e := Jv (SP.out.gB 1 rfl) 2 (.slice ga2 x2.length gc2)
 simp only [List.setIfInBounds_toArray, List.set_cons_succ, List.set_cons_zero] at e
 rw [e]
 clear e
 replace SP := zh (SP.out.store 1 rfl [.int .i64 x0, .int .i64 x1, .slice ga2 x2.length gc2, (), ()])
 generalize V2.setRow (w.heap.size + 1 + 1) #[.int .i64 x0, .int .i64 x1, .slice ga2 x2.length gc2, .slice none 0 0, .slice none 0 0] = Y2 at *
 have ld := Xh (SP.out.gB 3 rfl)
 go_wp2_with fail
 clear ld
 refine (Ek (Jb Jc H3.out SP.out.d) S3.out).mono ?_
 rintro e V3 ⟨g3, rfl, o, c⟩
 obtain ⟨ga3, gc3, rfl⟩ := Ju o
 obtain ⟨F3, sp⟩ := SP.out.pushTE Jc Vm c o (fun b h => h)
 replace SP := zh sp
 clear sp o c
 have le := Xh (SP.out.gB 2 rfl)
 have fz := froz5 (SP.out.gB 2 rfl)
 go_upto_region 6 with fail
 clear le fz
 have e := Jv (SP.out.gB 2 rfl) 3 (.slice ga3 x3.length gc3)
 simp only [List.setIfInBounds_toArray, List.set_cons_succ, List.set_cons_zero] at e
 rw [e]
 clear e
 replace SP := zh (SP.out.store 2 rfl [.int .i64 x0, .int .i64 x1, .slice ga2 x2.length gc2, .slice ga3 x3.length gc3, ()])
 generalize V3.setRow (w.heap.size + 1 + 1) #[.int .i64 x0, .int .i64 x1, .slice ga2 x2.length gc2, .slice ga3 x3.length gc3, .slice none 0 0] = Y3 at *
 have ld := Xh (SP.out.gB 4 rfl)
 go_wp2_with fail
 clear ld
 refine (Ek (Jb Jc H4.out SP.out.d) S4.out).mono ?_
 rintro e V4 ⟨g4, rfl, o, c⟩
 obtain ⟨ga4, gc4, rfl⟩ := Ju o
 obtain ⟨F4, sp⟩ := SP.out.pushTE Jc Vm c o (fun b h => h)
 replace SP := zh sp
 clear sp o c
 have le := Xh (SP.out.gB 3 rfl)
 have fz := froz5 (SP.out.gB 3 rfl)
 go_upto_region 7 with fail
 clear le fz
 have e := Jv (SP.out.gB 3 rfl) 4 (.slice ga4 x4.length gc4)
 simp only [List.setIfInBounds_toArray, List.set_cons_succ, List.set_cons_zero] at e
 rw [e]
 clear e
 replace SP := zh (SP.out.store 3 rfl [.int .i64 x0, .int .i64 x1, .slice ga2 x2.length gc2, .slice ga3 x3.length gc3, .slice ga4 x4.length gc4])
 generalize V4.setRow (w.heap.size + 1 + 1) #[.int .i64 x0, .int .i64 x1, .slice ga2 x2.length gc2, .slice ga3 x3.length gc3, .slice ga4 x4.length gc4] = Y4 at *
 generalize hu0 : Value.int .i64 x0 = u0 at SP
 have on0 : ∀ v ∈ [u0], v.oneCell' = true := by rw [← hu0]; simp [Value.oneCell']
 have HU0 := zh hu0
 clear hu0
 generalize hu1 : Value.int .i64 x1 = u1 at SP
 have on1 : ∀ v ∈ [u1], v.oneCell' = true := by rw [← hu1]; simp [Value.oneCell']
 have HU1 := zh hu1
 clear hu1
 generalize hu2 : Value.slice ga2 x2.length gc2 = u2 at SP
 have on2 : ∀ v ∈ [u2], v.oneCell' = true := by rw [← hu2]; simp [Value.oneCell']
 have HU2 := zh hu2
 clear hu2
 generalize hu3 : Value.slice ga3 x3.length gc3 = u3 at SP
 have on3 : ∀ v ∈ [u3], v.oneCell' = true := by rw [← hu3]; simp [Value.oneCell']
 have HU3 := zh hu3
 clear hu3
 generalize hu4 : Value.slice ga4 x4.length gc4 = u4 at SP
 have on4 : ∀ v ∈ [u4], v.oneCell' = true := by rw [← hu4]; simp [Value.oneCell']
 have HU4 := zh hu4
 clear hu4
 have hone := (Kk on0 (Kk on1 (Kk on2 (Kk on3 on4))))
 clear on0 on1 on2 on3 on4
 have ld := Xh (SP.out.gB 3 rfl)
 have st := rst5 (P := Tryz.prog) (SP.out.gB 4 rfl) hone
 go_wp2
 clear ld st hone
 replace SP := zh (SP.out.store 4 rfl [u0, u1, u2, u3, u4])
 generalize Y4.setRow (w.heap.size + 1) #[u0, u1, u2, u3, u4] = YY at *
 have ld := Xh (SP.out.gB 4 rfl)
 have J := SP.out.sub [0, 1, 2] (by decide)
 refine bodyPost_ret (v := .agg #[u0, u1, u2, u3, u4]) (by simp [results, Tryz.f129, go_sem, ld]) rfl ?_
 obtain ⟨_, J⟩ := J.cat
 obtain ⟨_, J⟩ := J.cat
 replace J := J.intp x1
 replace J := J.intp x0
 obtain rfl := HU0.out
 obtain rfl := HU1.out
 obtain rfl := HU2.out
 obtain rfl := HU3.out
 obtain rfl := HU4.out
 exact ⟨_, rfl, J.outC, SP.out.d⟩
set_option maxHeartbeats 8000000 in
theorem szKS_ActiveS {v : Value} {xs : _} {k0 : Int} {w : World} (h : Ko Ji w v xs) (hk : k0 ≤ 1048576) (hp : 0 ≤ k0) (ho : tActiveS.ok xs) :
  Calls Tryz.prog 51 #[v, .int .i64 k0] w fun e w' => e = .returned (.int .i64 (szR k0 (zL Ji xs))) ∧ Below w w w' := by
 have H := zh h
 have OX := zh ho.2
 have hn := ho.1
 obtain ⟨a, cap, rfl⟩ := Jl h
 clear h ho
 by_cases h1 : k0 < (xs.length : Int)
 ·
  have hneg : k0 - (xs.length : Int) < 0 := by omega
  have HE := zh (Vg (k := k0) (z := zL Ji xs) (by have := Eo (T := Ji) (xs := xs) (Ij _); rw [Yf] at this; omega))
  go_enter Tryz.func51, Tryz.ntmps51
  go_wp2
  go_ret
  exact ⟨Vc HE.out.symm, Il _ _⟩
 ·
  go_enter Tryz.func51, Tryz.ntmps51
  have hneg : ¬ k0 - (xs.length : Int) < 0 := by omega
  go_wp2
  clear hneg
  go_loopw [1, 5] (fun l i wr => ∃ k : Nat, k ≤ xs.length ∧ i = .int .i64 k ∧ l = .int .i64 (k0 - (zTo Ji xs k : Int)) ∧ (zTo Ji xs k : Int) ≤ k0 ∧ Below w w wr) (fun _ i _ => xs.length - (intOf i).toNat)
  case atStart => exact ⟨0, Ij _, rfl, by rw [Yf], by rw [Yf]; omega, Il _ _⟩
  case round =>
   obtain ⟨k, hk', rfl, rfl, hle, hbel⟩ := hrel
   by_cases hlt : k < xs.length
   ·
    have HST := zh (zTo_step (T := Ji) hlt)
    have HLE := zh (Eo (T := Ji) (xs := xs) (k := k + 1) (by omega))
    have HX := zh (OX.out k hlt)
    have i1 : (0 : Int) ≤ (k : Int) := by omega
    have i2 : (k : Int) < (xs.length : Int) := by omega
    obtain ⟨b, off, cap', cs, hv, hbl, hcs, hR⟩ := Ku (Jb Jj H.out hbel) hlt
    simp only [Ik] at hv
    obtain ⟨rfl, _, rfl⟩ := hv
    generalize xs.getD k Ji.d = x at *
    obtain ⟨y0, y1, y2, y3, y4, y5, y6, y7, y8, y9, rfl⟩ := len10 (Jj.len hR)
    have p := row10 (o := off + k * 10) hcs
    have HR := zh hR
    clear hcs hR
    go_wp2_with fail
    refine (szK_Active (k0 := k0 - (zTo Ji xs k : Int)) (Jj.below HR.out (Il _ _)) (by omega) (by omega) HX.out).mono ?_
    rintro e w1 ⟨rfl, b1⟩
    have b2 := hbel.trans (b1.mono hbel.size)
    by_cases hz : ((Ji.sz x : Nat) : Int) ≤ k0 - (zTo Ji xs k : Int)
    ·
     rw [Yc hz]
     have hneg : ¬ k0 - (zTo Ji xs k : Int) - ((Ji.sz x : Nat) : Int) < 0 := by omega
     have HZ := zh hz
     clear hz
     go_wp2
     go_roundw
     case rel => exact ⟨k + 1, by omega, by go_num, by rw [HST.out]; go_num, by rw [HST.out]; have := HZ.out; omega, b2⟩
     case measure => simp [intOf]; omega
    ·
     rw [Vg hz]
     have HE := zh (Vg (k := k0) (z := zL Ji xs) (by have := HST.out; have := HLE.out; omega))
     clear hz
     go_wp2
     go_ret
     exact ⟨Vc HE.out.symm, b2⟩
   ·
    obtain rfl : k = xs.length := by omega
    have HE := zh (Yc (k := k0) (z := zL Ji xs) hle)
    go_wp2
    go_ret
    exact ⟨Vc HE.out.symm, hbel⟩
theorem Tryz.kinfo_ActiveS : (Tryz.prog.info? 104).map (fun i => (i.zero, i.size)) = some (some (.agg #[Ja, Ja, (), (), Ja, (), Ja, Ja, Ja, ()]), 10) := by kernel_rfl
theorem Tryz.kbytes_ActiveS : ((Tryz.prog.info? 104).map (fun i => decide (i.bytes ≤ 512))) = some true := by kernel_rfl
set_option maxHeartbeats 8000000 in
theorem toKS_ActiveS {v : Value} {xs : _} {w : World} (h : Ko Ji w v xs) (hs : zL Ji xs ≤ 1048576) :
  Calls Tryz.prog 58 #[v] w (Xg 104 Ji w xs) := by
 obtain ⟨i0, hi, hz0, hz1⟩ : ∃ i0, Tryz.prog.info? 104 = some i0 ∧ i0.zero = some (.agg #[Ja, Ja, (), (), Ja, (), Ja, Ja, Ja, ()]) ∧ i0.size = 10 := by
  have h0 := Tryz.kinfo_ActiveS
  cases q : Tryz.prog.info? 104 with
  | none => rw [q] at h0; simp at h0
  | some i => rw [q] at h0; simp only [Option.map_some, Option.some.injEq, Prod.mk.injEq] at h0; exact ⟨i, rfl, h0.1, h0.2⟩
 have hz2 : i0.bytes ≤ 512 := by
  have h0 := Tryz.kbytes_ActiveS
  rw [hi] at h0
  simpa using h0
 have HI := zh hi; have HZ0 := zh hz0; have HZ1 := zh hz1; have HZ2 := zh hz2
 clear hi hz0 hz1 hz2
 have H := zh h
 have hlen := Jz hs
 have HS := zh hs
 obtain ⟨a, cap, rfl⟩ := Jl h
 clear h hs
 go_enter Tryz.func58, Tryz.ntmps58
 go_wp2_with (at_make; refine wpList_make_full _ rfl (.tmp 6) (.tmp 6) 36 rfl w.heap.size 104 i0 (.agg #[Ja, Ja, (), (), Ja, (), Ja, Ja, Ja, ()]) 10 Tryz.underlying36 HI.out HZ0.out HZ1.out _ _ _ _ xs.length rfl rfl rfl rfl (by have h9 := Nat.mul_le_mul HZ2.out hlen; have h8 := Nat.mul_le_mul hlen HZ2.out; omega) (by unfold maxLen; omega) (Ii _) ?_)
 intro w1 hown0 hg0
 have hown1 : Kp 104 Ji w1 (Kw w) (.slice (some ⟨w, 0, none⟩) xs.length xs.length) (List.replicate xs.length Ji.d) := Yz (z := #[.int .i64 0, .int .i64 0, .slice none 0 0, .slice none 0 0, .int .i64 0, .slice none 0 0, .int .i64 0, .int .i64 0, .int .i64 0, .slice none 0 0]) Jj rfl (tActive_zero w1) (Ii _) hown0
 have hbel1 := (Il w.heap.size w).grown hg0 (Ii _) (fun k hk => by cases hk)
 clear hown0 hg0
 go_wp2
 go_loopw [4] (fun i wr => ∃ k : Nat, k ≤ xs.length ∧ i = .int .i64 k ∧ Kp 104 Ji wr (Kw w) (.slice (some ⟨w, 0, none⟩) xs.length xs.length) (xs.take k ++ List.replicate (xs.length - k) Ji.d) ∧ Below w w wr) (fun i _ => xs.length - (intOf i).toNat)
 case atStart => exact ⟨0, Ij _, rfl, by simpa using hown1, hbel1⟩
 case round =>
  obtain ⟨k, hk, rfl, hown, hbel⟩ := hrel
  by_cases hlt : k < xs.length
  ·
   have HSET := zh (Xb (d := Ji.d) hlt)
   have HKL : k < (xs.take k ++ List.replicate (xs.length - k) Ji.d).length := by rw [Xn hk]; exact hlt
   have i1 : (0 : Int) ≤ (k : Int) := by omega
   have i2 : (k : Int) < (xs.length : Int) := by omega
   have S1 := zh (Vj HS.out hlt)
   obtain ⟨b, off, cap', cs, hv, hbl, hcs, hR⟩ := Ku (Jb Jj H.out hbel) hlt
   simp only [Ik] at hv
   obtain ⟨rfl, _, rfl⟩ := hv
   obtain ⟨cur, hg, hsz, hput⟩ := Xq Jj hown HKL
   have HG := zh hg; have HP := zh hput; have HB := zh hbel
   clear HKL hown1 hbel1 hg hput hown hbel
   generalize xs.getD k Ji.d = x at *
   obtain ⟨y0, y1, y2, y3, y4, y5, y6, y7, y8, y9, rfl⟩ := len10 (Jj.len hR)
   have p := row10 (o := off + k * 10) hcs
   have HR := zh hR
   clear hcs hR
   go_wp2_with fail
   refine (toK_Active HR.out S1.out).mono ?_
   rintro e w2 ⟨gs, rfl, ow, b2⟩
   obtain ⟨g0, g1, g2, g3, g4, g5, g6, g7, g8, g9, rfl⟩ := len10 (Jj.len (Jj.reads ow))
   have hgl := (Array.getElem?_eq_some_iff.1 HG.out).1
   have st := fill10 (P := Tryz.prog) (o := k * 10) ((b2.block _ hgl).trans HG.out) hsz (tActive_one (Jj.reads ow))
   have HST := zh (HP.out w2 _ _ _ b2 ow (fun b hb => ⟨Nat.le_trans HB.out.size hb, hb⟩))
   rw [HSET.out] at HST
   have B3 := zh (Js (HB.out.trans (b2.mono HB.out.size)) (Vk (b := w.heap.size) (c := Ki cur (k * 10) [g0, g1, g2, g3, g4, g5, g6, g7, g8, g9])) (fun b hb => by rw [hb]; exact Ii _) (Nat.le_trans HB.out.size b2.size))
   clear hsz hgl b2 ow
   go_wp2
   go_roundw
   case rel => exact ⟨k + 1, by omega, by go_num, HST.out, B3.out⟩
   case measure => simp [intOf]; omega
  ·
   obtain rfl : k = xs.length := by omega
   have HE : Hid (xs.take xs.length ++ List.replicate (xs.length - xs.length) Ji.d = xs) := zh (by simp)
   rw [HE.out] at hown
   go_wp2
   go_ret
   exact ⟨_, rfl, hown, hbel⟩
set_option maxHeartbeats 8000000 in
theorem eqKS_ActiveS {v u : Value} {xs : _} {w : World} (h : Ko Ji w v xs) (g : Ko Ji w u xs) (hs : zL Ji xs ≤ 1048576) :
  Calls Tryz.prog 66 #[v, u] w fun e w' => e = .returned (.bool true) ∧ Below w w w' := by
 have H := zh h
 have G := zh g
 have HS := zh hs
 obtain ⟨a, cap, rfl⟩ := Jl h
 obtain ⟨a2, cap2, rfl⟩ := Jl g
 have hlen := Jz hs
 clear h g hs
 go_enter Tryz.func66, Tryz.ntmps66
 go_wp2
 go_loopw [5] (fun i wr => ∃ k : Nat, k ≤ xs.length ∧ i = .int .i64 k ∧ Below w w wr) (fun i _ => xs.length - (intOf i).toNat)
 case atStart => exact ⟨0, Ij _, rfl, Il _ _⟩
 case round =>
  obtain ⟨k, hk, rfl, hbel⟩ := hrel
  by_cases hlt : k < xs.length
  ·
   obtain ⟨b, off, cap', cs, hv, hbl, hcs, hR⟩ := Ku (Jb Jj H.out hbel) hlt
   simp only [Ik] at hv
   obtain ⟨rfl, _, rfl⟩ := hv
   obtain ⟨b2, off2, cap2', ds, hv2, hbl2, hds, hQ⟩ := Ku (Jb Jj G.out hbel) hlt
   simp only [Ik] at hv2
   obtain ⟨rfl, _, rfl⟩ := hv2
   have S1 := zh (Vj HS.out hlt)
   have i1 : (0 : Int) ≤ (k : Int) := by omega
   have i2 : (k : Int) < (xs.length : Int) := by omega
   generalize xs.getD k Ji.d = x at *
   obtain ⟨y0, y1, y2, y3, y4, y5, y6, y7, y8, y9, rfl⟩ := len10 (Jj.len hR)
   obtain ⟨z0, z1, z2, z3, z4, z5, z6, z7, z8, z9, rfl⟩ := len10 (Jj.len hQ)
   have p := row10 (o := off + k * 10) hcs; have q := row10 (o := off2 + k * 10) hds
   have HR := zh hR; have HQ := zh hQ; have HB := zh hbel
   clear hcs hds hR hQ hbel
   go_wp2
   go_region_with (first | (go_at_call 139; refine (eqK_Active (by exact Jj.below HR.out ⟨rfl, rfl, rfl, Ii _, fun _ _ => rfl⟩) (by exact Jj.below HQ.out ⟨rfl, rfl, rfl, Ii _, fun _ _ => rfl⟩) (leActive_of S1.out)).mono ?_; rintro e w8 ⟨rfl, b9⟩; have b11 := zh (HB.out.trans (Below.mono (B := wr.heap.size) ⟨b9.os, b9.tape, b9.output, b9.size, b9.block⟩ HB.out.size)); clear b9))
   all_goals
    go_wp2
    go_roundw
    case rel => exact ⟨k + 1, by omega, by go_num, b11.out⟩
    case measure => simp [intOf]; omega
  ·
   go_wp2
   go_ret
   exact ⟨rfl, hbel⟩
set_option maxHeartbeats 8000000 in
theorem szKS_FinishedS {v : Value} {xs : _} {k0 : Int} {w : World} (h : Ko Jg w v xs) (hk : k0 ≤ 1048576) (hp : 0 ≤ k0) (ho : tFinishedS.ok xs) :
  Calls Tryz.prog 52 #[v, .int .i64 k0] w fun e w' => e = .returned (.int .i64 (szR k0 (zL Jg xs))) ∧ Below w w w' := by
 have H := zh h
 have OX := zh ho.2
 have hn := ho.1
 obtain ⟨a, cap, rfl⟩ := Jl h
 clear h ho
 by_cases h1 : k0 < (xs.length : Int)
 ·
  have hneg : k0 - (xs.length : Int) < 0 := by omega
  have HE := zh (Vg (k := k0) (z := zL Jg xs) (by have := Eo (T := Jg) (xs := xs) (Ij _); rw [Yf] at this; omega))
  go_enter Tryz.func52, Tryz.ntmps52
  go_wp2
  go_ret
  exact ⟨Vc HE.out.symm, Il _ _⟩
 ·
  go_enter Tryz.func52, Tryz.ntmps52
  have hneg : ¬ k0 - (xs.length : Int) < 0 := by omega
  go_wp2
  clear hneg
  go_loopw [1, 5] (fun l i wr => ∃ k : Nat, k ≤ xs.length ∧ i = .int .i64 k ∧ l = .int .i64 (k0 - (zTo Jg xs k : Int)) ∧ (zTo Jg xs k : Int) ≤ k0 ∧ Below w w wr) (fun _ i _ => xs.length - (intOf i).toNat)
  case atStart => exact ⟨0, Ij _, rfl, by rw [Yf], by rw [Yf]; omega, Il _ _⟩
  case round =>
   obtain ⟨k, hk', rfl, rfl, hle, hbel⟩ := hrel
   by_cases hlt : k < xs.length
   ·
    have HST := zh (zTo_step (T := Jg) hlt)
    have HLE := zh (Eo (T := Jg) (xs := xs) (k := k + 1) (by omega))
    have HX := zh (OX.out k hlt)
    have i1 : (0 : Int) ≤ (k : Int) := by omega
    have i2 : (k : Int) < (xs.length : Int) := by omega
    obtain ⟨b, off, cap', cs, hv, hbl, hcs, hR⟩ := Ku (Jb Jn H.out hbel) hlt
    simp only [Ik] at hv
    obtain ⟨rfl, _, rfl⟩ := hv
    generalize xs.getD k Jg.d = x at *
    obtain ⟨y0, y1, y2, y3, y4, y5, y6, rfl⟩ := len7 (Jn.len hR)
    have p := row7 (o := off + k * 7) hcs
    have HR := zh hR
    clear hcs hR
    go_wp2_with fail
    refine (szK_Finished (k0 := k0 - (zTo Jg xs k : Int)) (Jn.below HR.out (Il _ _)) (by omega) (by omega) HX.out).mono ?_
    rintro e w1 ⟨rfl, b1⟩
    have b2 := hbel.trans (b1.mono hbel.size)
    by_cases hz : ((Jg.sz x : Nat) : Int) ≤ k0 - (zTo Jg xs k : Int)
    ·
     rw [Yc hz]
     have hneg : ¬ k0 - (zTo Jg xs k : Int) - ((Jg.sz x : Nat) : Int) < 0 := by omega
     have HZ := zh hz
     clear hz
     go_wp2
     go_roundw
     case rel => exact ⟨k + 1, by omega, by go_num, by rw [HST.out]; go_num, by rw [HST.out]; have := HZ.out; omega, b2⟩
     case measure => simp [intOf]; omega
    ·
     rw [Vg hz]
     have HE := zh (Vg (k := k0) (z := zL Jg xs) (by have := HST.out; have := HLE.out; omega))
     clear hz
     go_wp2
     go_ret
     exact ⟨Vc HE.out.symm, b2⟩
   ·
    obtain rfl : k = xs.length := by omega
    have HE := zh (Yc (k := k0) (z := zL Jg xs) hle)
    go_wp2
    go_ret
    exact ⟨Vc HE.out.symm, hbel⟩
theorem Tryz.kinfo_FinishedS : (Tryz.prog.info? 59).map (fun i => (i.zero, i.size)) = some (some (.agg #[Ja, Ja, (), (), Ja, Ja, ()]), 7) := by kernel_rfl
theorem Tryz.kbytes_FinishedS : ((Tryz.prog.info? 59).map (fun i => decide (i.bytes ≤ 512))) = some true := by kernel_rfl
set_option maxHeartbeats 8000000 in
theorem toKS_FinishedS {v : Value} {xs : _} {w : World} (h : Ko Jg w v xs) (hs : zL Jg xs ≤ 1048576) :
  Calls Tryz.prog 59 #[v] w (Xg 59 Jg w xs) := by
 obtain ⟨i0, hi, hz0, hz1⟩ : ∃ i0, Tryz.prog.info? 59 = some i0 ∧ i0.zero = some (.agg #[Ja, Ja, (), (), Ja, Ja, ()]) ∧ i0.size = 7 := by
  have h0 := Tryz.kinfo_FinishedS
  cases q : Tryz.prog.info? 59 with
  | none => rw [q] at h0; simp at h0
  | some i => rw [q] at h0; simp only [Option.map_some, Option.some.injEq, Prod.mk.injEq] at h0; exact ⟨i, rfl, h0.1, h0.2⟩
 have hz2 : i0.bytes ≤ 512 := by
  have h0 := Tryz.kbytes_FinishedS
  rw [hi] at h0
  simpa using h0
 have HI := zh hi; have HZ0 := zh hz0; have HZ1 := zh hz1; have HZ2 := zh hz2
 clear hi hz0 hz1 hz2
 have H := zh h
 have hlen := Jz hs
 have HS := zh hs
 obtain ⟨a, cap, rfl⟩ := Jl h
 clear h hs
 go_enter Tryz.func59, Tryz.ntmps59
 go_wp2_with (at_make; refine wpList_make_full _ rfl (.tmp 6) (.tmp 6) 37 rfl w.heap.size 59 i0 (.agg #[Ja, Ja, (), (), Ja, Ja, ()]) 7 Tryz.underlying37 HI.out HZ0.out HZ1.out _ _ _ _ xs.length rfl rfl rfl rfl (by have h9 := Nat.mul_le_mul HZ2.out hlen; have h8 := Nat.mul_le_mul hlen HZ2.out; omega) (by unfold maxLen; omega) (Ii _) ?_)
 intro w1 hown0 hg0
 have hown1 : Kp 59 Jg w1 (Kw w) (.slice (some ⟨w, 0, none⟩) xs.length xs.length) (List.replicate xs.length Jg.d) := Yz (z := #[.int .i64 0, .int .i64 0, .slice none 0 0, .slice none 0 0, .int .i64 0, .int .i64 0, .slice none 0 0]) Jn rfl (tFinished_zero w1) (Ii _) hown0
 have hbel1 := (Il w.heap.size w).grown hg0 (Ii _) (fun k hk => by cases hk)
 clear hown0 hg0
 go_wp2
 go_loopw [4] (fun i wr => ∃ k : Nat, k ≤ xs.length ∧ i = .int .i64 k ∧ Kp 59 Jg wr (Kw w) (.slice (some ⟨w, 0, none⟩) xs.length xs.length) (xs.take k ++ List.replicate (xs.length - k) Jg.d) ∧ Below w w wr) (fun i _ => xs.length - (intOf i).toNat)
 case atStart => exact ⟨0, Ij _, rfl, by simpa using hown1, hbel1⟩
 case round =>
  obtain ⟨k, hk, rfl, hown, hbel⟩ := hrel
  by_cases hlt : k < xs.length
  ·
   have HSET := zh (Xb (d := Jg.d) hlt)
   have HKL : k < (xs.take k ++ List.replicate (xs.length - k) Jg.d).length := by rw [Xn hk]; exact hlt
   have i1 : (0 : Int) ≤ (k : Int) := by omega
   have i2 : (k : Int) < (xs.length : Int) := by omega
   have S1 := zh (Vj HS.out hlt)
   obtain ⟨b, off, cap', cs, hv, hbl, hcs, hR⟩ := Ku (Jb Jn H.out hbel) hlt
   simp only [Ik] at hv
   obtain ⟨rfl, _, rfl⟩ := hv
   obtain ⟨cur, hg, hsz, hput⟩ := Xq Jn hown HKL
   have HG := zh hg; have HP := zh hput; have HB := zh hbel
   clear HKL hown1 hbel1 hg hput hown hbel
   generalize xs.getD k Jg.d = x at *
   obtain ⟨y0, y1, y2, y3, y4, y5, y6, rfl⟩ := len7 (Jn.len hR)
   have p := row7 (o := off + k * 7) hcs
   have HR := zh hR
   clear hcs hR
   go_wp2_with fail
   refine (toK_Finished HR.out S1.out).mono ?_
   rintro e w2 ⟨gs, rfl, ow, b2⟩
   obtain ⟨g0, g1, g2, g3, g4, g5, g6, rfl⟩ := len7 (Jn.len (Jn.reads ow))
   have hgl := (Array.getElem?_eq_some_iff.1 HG.out).1
   have st := fill7 (P := Tryz.prog) (o := k * 7) ((b2.block _ hgl).trans HG.out) hsz (tFinished_one (Jn.reads ow))
   have HST := zh (HP.out w2 _ _ _ b2 ow (fun b hb => ⟨Nat.le_trans HB.out.size hb, hb⟩))
   rw [HSET.out] at HST
   have B3 := zh (Js (HB.out.trans (b2.mono HB.out.size)) (Vk (b := w.heap.size) (c := Ki cur (k * 7) [g0, g1, g2, g3, g4, g5, g6])) (fun b hb => by rw [hb]; exact Ii _) (Nat.le_trans HB.out.size b2.size))
   clear hsz hgl b2 ow
   go_wp2
   go_roundw
   case rel => exact ⟨k + 1, by omega, by go_num, HST.out, B3.out⟩
   case measure => simp [intOf]; omega
  ·
   obtain rfl : k = xs.length := by omega
   have HE : Hid (xs.take xs.length ++ List.replicate (xs.length - xs.length) Jg.d = xs) := zh (by simp)
   rw [HE.out] at hown
   go_wp2
   go_ret
   exact ⟨_, rfl, hown, hbel⟩
set_option maxHeartbeats 8000000 in
theorem eqKS_FinishedS {v u : Value} {xs : _} {w : World} (h : Ko Jg w v xs) (g : Ko Jg w u xs) (hs : zL Jg xs ≤ 1048576) :
  Calls Tryz.prog 67 #[v, u] w fun e w' => e = .returned (.bool true) ∧ Below w w w' := by
 have H := zh h
 have G := zh g
 have HS := zh hs
 obtain ⟨a, cap, rfl⟩ := Jl h
 obtain ⟨a2, cap2, rfl⟩ := Jl g
 have hlen := Jz hs
 clear h g hs
 go_enter Tryz.func67, Tryz.ntmps67
 go_wp2
 go_loopw [5] (fun i wr => ∃ k : Nat, k ≤ xs.length ∧ i = .int .i64 k ∧ Below w w wr) (fun i _ => xs.length - (intOf i).toNat)
 case atStart => exact ⟨0, Ij _, rfl, Il _ _⟩
 case round =>
  obtain ⟨k, hk, rfl, hbel⟩ := hrel
  by_cases hlt : k < xs.length
  ·
   obtain ⟨b, off, cap', cs, hv, hbl, hcs, hR⟩ := Ku (Jb Jn H.out hbel) hlt
   simp only [Ik] at hv
   obtain ⟨rfl, _, rfl⟩ := hv
   obtain ⟨b2, off2, cap2', ds, hv2, hbl2, hds, hQ⟩ := Ku (Jb Jn G.out hbel) hlt
   simp only [Ik] at hv2
   obtain ⟨rfl, _, rfl⟩ := hv2
   have S1 := zh (Vj HS.out hlt)
   have i1 : (0 : Int) ≤ (k : Int) := by omega
   have i2 : (k : Int) < (xs.length : Int) := by omega
   generalize xs.getD k Jg.d = x at *
   obtain ⟨y0, y1, y2, y3, y4, y5, y6, rfl⟩ := len7 (Jn.len hR)
   obtain ⟨z0, z1, z2, z3, z4, z5, z6, rfl⟩ := len7 (Jn.len hQ)
   have p := row7 (o := off + k * 7) hcs; have q := row7 (o := off2 + k * 7) hds
   have HR := zh hR; have HQ := zh hQ; have HB := zh hbel
   clear hcs hds hR hQ hbel
   go_wp2
   go_region_with (first | (go_at_call 27; refine (eqK_Finished (by exact Jn.below HR.out ⟨rfl, rfl, rfl, Ii _, fun _ _ => rfl⟩) (by exact Jn.below HQ.out ⟨rfl, rfl, rfl, Ii _, fun _ _ => rfl⟩) (leFinished_of S1.out)).mono ?_; rintro e w8 ⟨rfl, b9⟩; have b11 := zh (HB.out.trans (Below.mono (B := wr.heap.size) ⟨b9.os, b9.tape, b9.output, b9.size, b9.block⟩ HB.out.size)); clear b9))
   all_goals
    go_wp2
    go_roundw
    case rel => exact ⟨k + 1, by omega, by go_num, b11.out⟩
    case measure => simp [intOf]; omega
  ·
   go_wp2
   go_ret
   exact ⟨rfl, hbel⟩
set_option maxHeartbeats 8000000 in
theorem szKS_ChargeS {v : Value} {xs : _} {k0 : Int} {w : World} (h : Ko Jo w v xs) (hk : k0 ≤ 1048576) (hp : 0 ≤ k0) (ho : tChargeS.ok xs) :
  Calls Tryz.prog 53 #[v, .int .i64 k0] w fun e w' => e = .returned (.int .i64 (szR k0 (zL Jo xs))) ∧ Below w w w' := by
 have H := zh h
 have OX := zh ho.2
 have hn := ho.1
 obtain ⟨a, cap, rfl⟩ := Jl h
 clear h ho
 by_cases h1 : k0 < (xs.length : Int)
 ·
  have hneg : k0 - (xs.length : Int) < 0 := by omega
  have HE := zh (Vg (k := k0) (z := zL Jo xs) (by have := Eo (T := Jo) (xs := xs) (Ij _); rw [Yf] at this; omega))
  go_enter Tryz.func53, Tryz.ntmps53
  go_wp2
  go_ret
  exact ⟨Vc HE.out.symm, Il _ _⟩
 ·
  go_enter Tryz.func53, Tryz.ntmps53
  have hneg : ¬ k0 - (xs.length : Int) < 0 := by omega
  go_wp2
  clear hneg
  go_loopw [1, 5] (fun l i wr => ∃ k : Nat, k ≤ xs.length ∧ i = .int .i64 k ∧ l = .int .i64 (k0 - (zTo Jo xs k : Int)) ∧ (zTo Jo xs k : Int) ≤ k0 ∧ Below w w wr) (fun _ i _ => xs.length - (intOf i).toNat)
  case atStart => exact ⟨0, Ij _, rfl, by rw [Yf], by rw [Yf]; omega, Il _ _⟩
  case round =>
   obtain ⟨k, hk', rfl, rfl, hle, hbel⟩ := hrel
   by_cases hlt : k < xs.length
   ·
    have HST := zh (zTo_step (T := Jo) hlt)
    have HLE := zh (Eo (T := Jo) (xs := xs) (k := k + 1) (by omega))
    have HX := zh (OX.out k hlt)
    have i1 : (0 : Int) ≤ (k : Int) := by omega
    have i2 : (k : Int) < (xs.length : Int) := by omega
    obtain ⟨b, off, cap', cs, hv, hbl, hcs, hR⟩ := Ku (Jb Jr H.out hbel) hlt
    simp only [Ik] at hv
    obtain ⟨rfl, _, rfl⟩ := hv
    generalize xs.getD k Jo.d = x at *
    obtain ⟨y0, y1, y2, y3, y4, rfl⟩ := len5 (Jr.len hR)
    have p := row5 (o := off + k * 5) hcs
    have HR := zh hR
    clear hcs hR
    go_wp2_with fail
    refine (szK_Charge (k0 := k0 - (zTo Jo xs k : Int)) (Jr.below HR.out (Il _ _)) (by omega) (by omega) HX.out).mono ?_
    rintro e w1 ⟨rfl, b1⟩
    have b2 := hbel.trans (b1.mono hbel.size)
    by_cases hz : ((Jo.sz x : Nat) : Int) ≤ k0 - (zTo Jo xs k : Int)
    ·
     rw [Yc hz]
     have hneg : ¬ k0 - (zTo Jo xs k : Int) - ((Jo.sz x : Nat) : Int) < 0 := by omega
     have HZ := zh hz
     clear hz
     go_wp2
     go_roundw
     case rel => exact ⟨k + 1, by omega, by go_num, by rw [HST.out]; go_num, by rw [HST.out]; have := HZ.out; omega, b2⟩
     case measure => simp [intOf]; omega
    ·
     rw [Vg hz]
     have HE := zh (Vg (k := k0) (z := zL Jo xs) (by have := HST.out; have := HLE.out; omega))
     clear hz
     go_wp2
     go_ret
     exact ⟨Vc HE.out.symm, b2⟩
   ·
    obtain rfl : k = xs.length := by omega
    have HE := zh (Yc (k := k0) (z := zL Jo xs) hle)
    go_wp2
    go_ret
    exact ⟨Vc HE.out.symm, hbel⟩
theorem Tryz.kinfo_ChargeS : (Tryz.prog.info? 162).map (fun i => (i.zero, i.size)) = some (some (.agg #[Ja, Ja, (), (), ()]), 5) := by kernel_rfl
theorem Tryz.kbytes_ChargeS : ((Tryz.prog.info? 162).map (fun i => decide (i.bytes ≤ 512))) = some true := by kernel_rfl
set_option maxHeartbeats 8000000 in
theorem toKS_ChargeS {v : Value} {xs : _} {w : World} (h : Ko Jo w v xs) (hs : zL Jo xs ≤ 1048576) :
  Calls Tryz.prog 60 #[v] w (Xg 162 Jo w xs) := by
 obtain ⟨i0, hi, hz0, hz1⟩ : ∃ i0, Tryz.prog.info? 162 = some i0 ∧ i0.zero = some (.agg #[Ja, Ja, (), (), ()]) ∧ i0.size = 5 := by
  have h0 := Tryz.kinfo_ChargeS
  cases q : Tryz.prog.info? 162 with
  | none => rw [q] at h0; simp at h0
  | some i => rw [q] at h0; simp only [Option.map_some, Option.some.injEq, Prod.mk.injEq] at h0; exact ⟨i, rfl, h0.1, h0.2⟩
 have hz2 : i0.bytes ≤ 512 := by
  have h0 := Tryz.kbytes_ChargeS
  rw [hi] at h0
  simpa using h0
 have HI := zh hi; have HZ0 := zh hz0; have HZ1 := zh hz1; have HZ2 := zh hz2
 clear hi hz0 hz1 hz2
 have H := zh h
 have hlen := Jz hs
 have HS := zh hs
 obtain ⟨a, cap, rfl⟩ := Jl h
 clear h hs
 go_enter Tryz.func60, Tryz.ntmps60
 go_wp2_with (at_make; refine wpList_make_full _ rfl (.tmp 6) (.tmp 6) 38 rfl w.heap.size 162 i0 (.agg #[Ja, Ja, (), (), ()]) 5 Tryz.underlying38 HI.out HZ0.out HZ1.out _ _ _ _ xs.length rfl rfl rfl rfl (by have h9 := Nat.mul_le_mul HZ2.out hlen; have h8 := Nat.mul_le_mul hlen HZ2.out; omega) (by unfold maxLen; omega) (Ii _) ?_)
 intro w1 hown0 hg0
 have hown1 : Kp 162 Jo w1 (Kw w) (.slice (some ⟨w, 0, none⟩) xs.length xs.length) (List.replicate xs.length Jo.d) := Yz (z := #[.int .i64 0, .int .i64 0, .slice none 0 0, .slice none 0 0, .slice none 0 0]) Jr rfl (tCharge_zero w1) (Ii _) hown0
 have hbel1 := (Il w.heap.size w).grown hg0 (Ii _) (fun k hk => by cases hk)
 clear hown0 hg0
 go_wp2
 go_loopw [4] (fun i wr => ∃ k : Nat, k ≤ xs.length ∧ i = .int .i64 k ∧ Kp 162 Jo wr (Kw w) (.slice (some ⟨w, 0, none⟩) xs.length xs.length) (xs.take k ++ List.replicate (xs.length - k) Jo.d) ∧ Below w w wr) (fun i _ => xs.length - (intOf i).toNat)
 case atStart => exact ⟨0, Ij _, rfl, by simpa using hown1, hbel1⟩
 case round =>
  obtain ⟨k, hk, rfl, hown, hbel⟩ := hrel
  by_cases hlt : k < xs.length
  ·
   have HSET := zh (Xb (d := Jo.d) hlt)
   have HKL : k < (xs.take k ++ List.replicate (xs.length - k) Jo.d).length := by rw [Xn hk]; exact hlt
   have i1 : (0 : Int) ≤ (k : Int) := by omega
   have i2 : (k : Int) < (xs.length : Int) := by omega
   have S1 := zh (Vj HS.out hlt)
   obtain ⟨b, off, cap', cs, hv, hbl, hcs, hR⟩ := Ku (Jb Jr H.out hbel) hlt
   simp only [Ik] at hv
   obtain ⟨rfl, _, rfl⟩ := hv
   obtain ⟨cur, hg, hsz, hput⟩ := Xq Jr hown HKL
   have HG := zh hg; have HP := zh hput; have HB := zh hbel
   clear HKL hown1 hbel1 hg hput hown hbel
   generalize xs.getD k Jo.d = x at *
   obtain ⟨y0, y1, y2, y3, y4, rfl⟩ := len5 (Jr.len hR)
   have p := row5 (o := off + k * 5) hcs
   have HR := zh hR
   clear hcs hR
   go_wp2_with fail
   refine (toK_Charge HR.out S1.out).mono ?_
   rintro e w2 ⟨gs, rfl, ow, b2⟩
   obtain ⟨g0, g1, g2, g3, g4, rfl⟩ := len5 (Jr.len (Jr.reads ow))
   have hgl := (Array.getElem?_eq_some_iff.1 HG.out).1
   have st := fill5 (P := Tryz.prog) (o := k * 5) ((b2.block _ hgl).trans HG.out) hsz (tCharge_one (Jr.reads ow))
   have HST := zh (HP.out w2 _ _ _ b2 ow (fun b hb => ⟨Nat.le_trans HB.out.size hb, hb⟩))
   rw [HSET.out] at HST
   have B3 := zh (Js (HB.out.trans (b2.mono HB.out.size)) (Vk (b := w.heap.size) (c := Ki cur (k * 5) [g0, g1, g2, g3, g4])) (fun b hb => by rw [hb]; exact Ii _) (Nat.le_trans HB.out.size b2.size))
   clear hsz hgl b2 ow
   go_wp2
   go_roundw
   case rel => exact ⟨k + 1, by omega, by go_num, HST.out, B3.out⟩
   case measure => simp [intOf]; omega
  ·
   obtain rfl : k = xs.length := by omega
   have HE : Hid (xs.take xs.length ++ List.replicate (xs.length - xs.length) Jo.d = xs) := zh (by simp)
   rw [HE.out] at hown
   go_wp2
   go_ret
   exact ⟨_, rfl, hown, hbel⟩
set_option maxHeartbeats 8000000 in
theorem eqKS_ChargeS {v u : Value} {xs : _} {w : World} (h : Ko Jo w v xs) (g : Ko Jo w u xs) (hs : zL Jo xs ≤ 1048576) :
  Calls Tryz.prog 68 #[v, u] w fun e w' => e = .returned (.bool true) ∧ Below w w w' := by
 have H := zh h
 have G := zh g
 have HS := zh hs
 obtain ⟨a, cap, rfl⟩ := Jl h
 obtain ⟨a2, cap2, rfl⟩ := Jl g
 have hlen := Jz hs
 clear h g hs
 go_enter Tryz.func68, Tryz.ntmps68
 go_wp2
 go_loopw [5] (fun i wr => ∃ k : Nat, k ≤ xs.length ∧ i = .int .i64 k ∧ Below w w wr) (fun i _ => xs.length - (intOf i).toNat)
 case atStart => exact ⟨0, Ij _, rfl, Il _ _⟩
 case round =>
  obtain ⟨k, hk, rfl, hbel⟩ := hrel
  by_cases hlt : k < xs.length
  ·
   obtain ⟨b, off, cap', cs, hv, hbl, hcs, hR⟩ := Ku (Jb Jr H.out hbel) hlt
   simp only [Ik] at hv
   obtain ⟨rfl, _, rfl⟩ := hv
   obtain ⟨b2, off2, cap2', ds, hv2, hbl2, hds, hQ⟩ := Ku (Jb Jr G.out hbel) hlt
   simp only [Ik] at hv2
   obtain ⟨rfl, _, rfl⟩ := hv2
   have S1 := zh (Vj HS.out hlt)
   have i1 : (0 : Int) ≤ (k : Int) := by omega
   have i2 : (k : Int) < (xs.length : Int) := by omega
   generalize xs.getD k Jo.d = x at *
   obtain ⟨y0, y1, y2, y3, y4, rfl⟩ := len5 (Jr.len hR)
   obtain ⟨z0, z1, z2, z3, z4, rfl⟩ := len5 (Jr.len hQ)
   have p := row5 (o := off + k * 5) hcs; have q := row5 (o := off2 + k * 5) hds
   have HR := zh hR; have HQ := zh hQ; have HB := zh hbel
   clear hcs hds hR hQ hbel
   go_wp2
   go_region_with (first | (go_at_call 140; refine (eqK_Charge (by exact Jr.below HR.out ⟨rfl, rfl, rfl, Ii _, fun _ _ => rfl⟩) (by exact Jr.below HQ.out ⟨rfl, rfl, rfl, Ii _, fun _ _ => rfl⟩) (leCharge_of S1.out)).mono ?_; rintro e w8 ⟨rfl, b9⟩; have b11 := zh (HB.out.trans (Below.mono (B := wr.heap.size) ⟨b9.os, b9.tape, b9.output, b9.size, b9.block⟩ HB.out.size)); clear b9))
   all_goals
    go_wp2
    go_roundw
    case rel => exact ⟨k + 1, by omega, by go_num, b11.out⟩
    case measure => simp [intOf]; omega
  ·
   go_wp2
   go_ret
   exact ⟨rfl, hbel⟩
theorem tEngine_one : Kf.One := (Kl Eh (Kl Vh (Kl tIntES_one (Kl (Xm _ _) (Kl (Xm _ _) (Kl (Xm _ _) Vh))))))
theorem tEngine_P {w : World} {cs : List Value} {x0 : _} {x1 : _} {x2 : _} {x3 : _} {x4 : _} {x5 : _} {x6 : _} (h : Kf.R w cs (x0, x1, x2, x3, x4, x5, x6)) : ∃ p0_0 p0_1 v2 v3 v4 v5, cs = [p0_0, p0_1, .int .i64 x1, v2, v3, v4, v5, .int .i64 x6] ∧ Ks.R w [p0_0, p0_1] x0 ∧ Ko Je w v2 x2 ∧ Ko Ji w v3 x3 ∧ Ko Jg w v4 x4 ∧ Ko Jo w v5 x5 := by
 obtain ⟨c0, _, rfl, h0, ⟨_, _, rfl, rfl, ⟨_, _, rfl, ⟨v2, rfl, h2⟩, ⟨_, _, rfl, ⟨v3, rfl, h3⟩, ⟨_, _, rfl, ⟨v4, rfl, h4⟩, ⟨_, _, rfl, ⟨v5, rfl, h5⟩, rfl⟩⟩⟩⟩⟩⟩ := h
 obtain ⟨p0_0, p0_1, rfl⟩ := len2 (Vu.len h0)
 exact ⟨p0_0, p0_1, v2, v3, v4, v5, rfl, h0, h2, h3, h4, h5⟩
theorem szEngine_eq {x0 : _} {x1 : _} {x2 : _} {x3 : _} {x4 : _} {x5 : _} {x6 : _} : Kf.sz (x0, x1, x2, x3, x4, x5, x6) = Ks.sz x0 + zL Je x2 + zL Ji x3 + zL Jg x4 + zL Jo x5 := by
 simp only [Kf, Vt, Yk, Xo, tIntES_sz]; try omega
def Ev (x : (List (List (Int × List Int × Int × Int)) × Int) × Int × List Int × List ((Int × Int × List (Int × Int × Int) × List Int) × Int × List Int × Int × Int × Int × List (Int × List Int)) × List ((Int × Int × List (Int × Int × Int) × List Int) × Int × Int × List (Int × List Int)) × List (Int × Int × List Int × List Int × List Int) × Int) : Prop := leStore x.1 ∧ zL Je x.2.2.1 ≤ 1048576 ∧ zL Ji x.2.2.2.1 ≤ 1048576 ∧ zL Jg x.2.2.2.2.1 ≤ 1048576 ∧ zL Jo x.2.2.2.2.2.1 ≤ 1048576
theorem leEngine_of {x : (List (List (Int × List Int × Int × Int)) × Int) × Int × List Int × List ((Int × Int × List (Int × Int × Int) × List Int) × Int × List Int × Int × Int × Int × List (Int × List Int)) × List ((Int × Int × List (Int × Int × Int) × List Int) × Int × Int × List (Int × List Int)) × List (Int × Int × List Int × List Int × List Int) × Int} (h : Kf.sz x ≤ 1048576) : Ev x := by
 obtain ⟨x0, x1, x2, x3, x4, x5, x6⟩ := x
 rw [szEngine_eq] at h
 exact ⟨leStore_of (show Ks.sz x0 ≤ _ by omega), by show zL Je x2 ≤ _; omega, by show zL Ji x3 ≤ _; omega, by show zL Jg x4 ≤ _; omega, by show zL Jo x5 ≤ _; omega⟩
set_option maxHeartbeats 8000000 in
theorem szK_Engine {cs : List Value} {x : _} {k0 : Int} {w : World} (h : Kf.R w cs x) (hk : k0 ≤ 1048576) (hp : 0 ≤ k0) (ho : Kf.ok x) :
  Calls Tryz.prog 13 #[.agg cs.toArray, .int .i64 k0] w fun e w' => e = .returned (.int .i64 (szR k0 (Kf.sz x))) ∧ Below w w w' := by
 obtain ⟨x0, x1, x2, x3, x4, x5, x6⟩ := x
 obtain ⟨p0_0, p0_1, v2, v3, v4, v5, rfl, h0, h2, h3, h4, h5⟩ := tEngine_P h
 rw [szEngine_eq]
 obtain ⟨o0, o1, o2, o3, o4, o5, o6⟩ := ho
 have H0 := zh h0
 have O0 := zh o0
 have H2 := zh h2
 have O2 := zh o2
 have H3 := zh h3
 have O3 := zh o3
 have H4 := zh h4
 have O4 := zh o4
 have H5 := zh h5
 have O5 := zh o5
 clear h0 h2 h3 h4 h5
 clear o0 o1 o2 o3 o4 o5 o6
 have SP := zh ((St.init w).box [p0_0, p0_1, .int .i64 x1, v2, v3, v4, v5, .int .i64 x6] 30)
 go_enter Tryz.func13, Tryz.ntmps13
 have ld := Kh (SP.out.gB 0 rfl)
 go_wp2_with fail
 clear ld
 generalize (w.alloc (.cells #[p0_0, p0_1, .int .i64 x1, v2, v3, v4, v5, .int .i64 x6] 30)) = W0 at *
 refine (szK_Store (Vu.below H0.out SP.out.d) (k0 := k0) (by omega) (by omega) O0.out).mono ?_
 rintro e W1 ⟨rfl, c⟩
 replace SP := zh (SP.out.below c)
 clear c
 by_cases z0 : ((Ks.sz x0 : Nat) : Int) ≤ k0
 rotate_left
 ·
  rw [Vg z0]
  have HE := zh (Vg (k := k0) (z := Ks.sz x0 + zL Je x2 + zL Ji x3 + zL Jg x4 + zL Jo x5) (by omega))
  clear z0
  go_wp2
  go_ret
  exact ⟨Vc HE.out.symm, SP.out.d⟩
 rw [Yc z0]
 have n0 : ¬ k0 - ((Ks.sz x0 : Nat) : Int) < 0 := by omega
 have ld := Kh (SP.out.gB 0 rfl)
 go_wp2_with fail
 clear ld
 refine (El (Jb Jc H2.out SP.out.d) (k0 := k0 - ((Ks.sz x0 : Nat) : Int)) (by omega) (by omega) O2.out).mono ?_
 rintro e W2 ⟨rfl, c⟩
 replace SP := zh (SP.out.below c)
 clear c
 by_cases z1 : ((zL Je x2 : Nat) : Int) ≤ k0 - ((Ks.sz x0 : Nat) : Int)
 rotate_left
 ·
  rw [Vg z1]
  have HE := zh (Vg (k := k0) (z := Ks.sz x0 + zL Je x2 + zL Ji x3 + zL Jg x4 + zL Jo x5) (by omega))
  clear z0 z1
  go_wp2
  go_ret
  exact ⟨Vc HE.out.symm, SP.out.d⟩
 rw [Yc z1]
 have n1 : ¬ k0 - ((Ks.sz x0 : Nat) : Int) - ((zL Je x2 : Nat) : Int) < 0 := by omega
 have ld := Kh (SP.out.gB 0 rfl)
 go_wp2_with fail
 clear ld
 refine (szKS_ActiveS (Jb Jj H3.out SP.out.d) (k0 := k0 - ((Ks.sz x0 : Nat) : Int) - ((zL Je x2 : Nat) : Int)) (by omega) (by omega) O3.out).mono ?_
 rintro e W3 ⟨rfl, c⟩
 replace SP := zh (SP.out.below c)
 clear c
 by_cases z2 : ((zL Ji x3 : Nat) : Int) ≤ k0 - ((Ks.sz x0 : Nat) : Int) - ((zL Je x2 : Nat) : Int)
 rotate_left
 ·
  rw [Vg z2]
  have HE := zh (Vg (k := k0) (z := Ks.sz x0 + zL Je x2 + zL Ji x3 + zL Jg x4 + zL Jo x5) (by omega))
  clear z0 z1 z2
  go_wp2
  go_ret
  exact ⟨Vc HE.out.symm, SP.out.d⟩
 rw [Yc z2]
 have n2 : ¬ k0 - ((Ks.sz x0 : Nat) : Int) - ((zL Je x2 : Nat) : Int) - ((zL Ji x3 : Nat) : Int) < 0 := by omega
 have ld := Kh (SP.out.gB 0 rfl)
 go_wp2_with fail
 clear ld
 refine (szKS_FinishedS (Jb Jn H4.out SP.out.d) (k0 := k0 - ((Ks.sz x0 : Nat) : Int) - ((zL Je x2 : Nat) : Int) - ((zL Ji x3 : Nat) : Int)) (by omega) (by omega) O4.out).mono ?_
 rintro e W4 ⟨rfl, c⟩
 replace SP := zh (SP.out.below c)
 clear c
 by_cases z3 : ((zL Jg x4 : Nat) : Int) ≤ k0 - ((Ks.sz x0 : Nat) : Int) - ((zL Je x2 : Nat) : Int) - ((zL Ji x3 : Nat) : Int)
 rotate_left
 ·
  rw [Vg z3]
  have HE := zh (Vg (k := k0) (z := Ks.sz x0 + zL Je x2 + zL Ji x3 + zL Jg x4 + zL Jo x5) (by omega))
  clear z0 z1 z2 z3
  go_wp2
  go_ret
  exact ⟨Vc HE.out.symm, SP.out.d⟩
 rw [Yc z3]
 have n3 : ¬ k0 - ((Ks.sz x0 : Nat) : Int) - ((zL Je x2 : Nat) : Int) - ((zL Ji x3 : Nat) : Int) - ((zL Jg x4 : Nat) : Int) < 0 := by omega
 have ld := Kh (SP.out.gB 0 rfl)
 go_wp2_with fail
 clear ld
 refine (szKS_ChargeS (Jb Jr H5.out SP.out.d) (k0 := k0 - ((Ks.sz x0 : Nat) : Int) - ((zL Je x2 : Nat) : Int) - ((zL Ji x3 : Nat) : Int) - ((zL Jg x4 : Nat) : Int)) (by omega) (by omega) O5.out).mono ?_
 rintro e W5 ⟨rfl, c⟩
 replace SP := zh (SP.out.below c)
 clear c
 by_cases z4 : ((zL Jo x5 : Nat) : Int) ≤ k0 - ((Ks.sz x0 : Nat) : Int) - ((zL Je x2 : Nat) : Int) - ((zL Ji x3 : Nat) : Int) - ((zL Jg x4 : Nat) : Int)
 rotate_left
 ·
  rw [Vg z4]
  have HE := zh (Vg (k := k0) (z := Ks.sz x0 + zL Je x2 + zL Ji x3 + zL Jg x4 + zL Jo x5) (by omega))
  clear z0 z1 z2 z3 z4
  go_wp2
  go_ret
  exact ⟨Vc HE.out.symm, SP.out.d⟩
 rw [Yc z4]
 have n4 : ¬ k0 - ((Ks.sz x0 : Nat) : Int) - ((zL Je x2 : Nat) : Int) - ((zL Ji x3 : Nat) : Int) - ((zL Jg x4 : Nat) : Int) - ((zL Jo x5 : Nat) : Int) < 0 := by omega
 have HE : Hid (szR k0 (Ks.sz x0 + zL Je x2 + zL Ji x3 + zL Jg x4 + zL Jo x5) = k0 - ((Ks.sz x0 : Nat) : Int) - ((zL Je x2 : Nat) : Int) - ((zL Ji x3 : Nat) : Int) - ((zL Jg x4 : Nat) : Int) - ((zL Jo x5 : Nat) : Int)) := zh (by rw [Yc (by omega)]; try omega)
 go_wp2
 go_ret
 exact ⟨Vc HE.out.symm, SP.out.d⟩
set_option maxHeartbeats 8000000 in
theorem eqK_Engine {cs ds : List Value} {x : _} {w : World} (h : Kf.R w cs x) (g : Kf.R w ds x) (hs : Ev x) :
  Calls Tryz.prog 17 #[.agg cs.toArray, .agg ds.toArray] w fun e w' => e = .returned (.bool true) ∧ Below w w w' := by
 obtain ⟨x0, x1, x2, x3, x4, x5, x6⟩ := x
 obtain ⟨p0_0, p0_1, v2, v3, v4, v5, rfl, h0, h2, h3, h4, h5⟩ := tEngine_P h
 obtain ⟨p0_0', p0_1', v2', v3', v4', v5', rfl, h0', h2', h3', h4', h5'⟩ := tEngine_P g
 obtain ⟨l0, l2, l3, l4, l5⟩ := hs
 have H0 := zh h0; have G0 := zh h0'; have S0 := zh l0
 have H2 := zh h2; have G2 := zh h2'; have S2 := zh l2
 have H3 := zh h3; have G3 := zh h3'; have S3 := zh l3
 have H4 := zh h4; have G4 := zh h4'; have S4 := zh l4
 have H5 := zh h5; have G5 := zh h5'; have S5 := zh l5
 clear h0 h0' h2 h2' h3 h3' h4 h4' h5 h5'
 clear l0 l2 l3 l4 l5
 have e1 : (x1 != x1) = false := by simp
 have e6 : (x6 != x6) = false := by simp
 have SP : Hid (St w [iB (w.heap.size + 1) [p0_0', p0_1', .int .i64 x1, v2', v3', v4', v5', .int .i64 x6] 40, iB w.heap.size [p0_0, p0_1, .int .i64 x1, v2, v3, v4, v5, .int .i64 x6] 40] ((w.alloc (.cells #[p0_0, p0_1, .int .i64 x1, v2, v3, v4, v5, .int .i64 x6] 40)).alloc (.cells #[p0_0', p0_1', .int .i64 x1, v2', v3', v4', v5', .int .i64 x6] 40))) := zh (by have := ((St.init w).box [p0_0, p0_1, .int .i64 x1, v2, v3, v4, v5, .int .i64 x6] 40).box [p0_0', p0_1', .int .i64 x1, v2', v3', v4', v5', .int .i64 x6] 40; simpa only [Ie] using this)
 go_enter Tryz.func17, Tryz.ntmps17
 have ld := Kh (SP.out.gB 1 rfl)
 have lc := Kh (SP.out.gB 0 rfl)
 go_wp2_with fail
 clear ld lc
 generalize ((w.alloc (.cells #[p0_0, p0_1, .int .i64 x1, v2, v3, v4, v5, .int .i64 x6] 40)).alloc (.cells #[p0_0', p0_1', .int .i64 x1, v2', v3', v4', v5', .int .i64 x6] 40)) = W0 at *
 refine (eqK_Store (Vu.below H0.out SP.out.d) (Vu.below G0.out SP.out.d) S0.out).mono ?_
 rintro e W1 ⟨rfl, c⟩
 replace SP := zh (SP.out.below c)
 clear c
 have ld := Kh (SP.out.gB 1 rfl)
 have lc := Kh (SP.out.gB 0 rfl)
 go_wp2_with fail
 clear ld lc
 refine (En (Jb Jc H2.out SP.out.d) (Jb Jc G2.out SP.out.d) S2.out).mono ?_
 rintro e W2 ⟨rfl, c⟩
 replace SP := zh (SP.out.below c)
 clear c
 have ld := Kh (SP.out.gB 1 rfl)
 have lc := Kh (SP.out.gB 0 rfl)
 go_wp2_with fail
 clear ld lc
 refine (eqKS_ActiveS (Jb Jj H3.out SP.out.d) (Jb Jj G3.out SP.out.d) S3.out).mono ?_
 rintro e W3 ⟨rfl, c⟩
 replace SP := zh (SP.out.below c)
 clear c
 have ld := Kh (SP.out.gB 1 rfl)
 have lc := Kh (SP.out.gB 0 rfl)
 go_wp2_with fail
 clear ld lc
 refine (eqKS_FinishedS (Jb Jn H4.out SP.out.d) (Jb Jn G4.out SP.out.d) S4.out).mono ?_
 rintro e W4 ⟨rfl, c⟩
 replace SP := zh (SP.out.below c)
 clear c
 have ld := Kh (SP.out.gB 1 rfl)
 have lc := Kh (SP.out.gB 0 rfl)
 go_wp2_with fail
 clear ld lc
 refine (eqKS_ChargeS (Jb Jr H5.out SP.out.d) (Jb Jr G5.out SP.out.d) S5.out).mono ?_
 rintro e W5 ⟨rfl, c⟩
 replace SP := zh (SP.out.below c)
 clear c
 have ld := Kh (SP.out.gB 1 rfl)
 have lc := Kh (SP.out.gB 0 rfl)
 go_wp2
 go_ret
 exact ⟨rfl, SP.out.d⟩
set_option maxHeartbeats 8000000 in
theorem toK_Engine {cs : List Value} {x : _} {w : World} (h : Kf.R w cs x) (hs : Kf.sz x ≤ 1048576) :
  Calls Tryz.prog 15 #[.agg cs.toArray] w (Yy Kf (fun cs => .agg cs.toArray) w x) := by
 obtain ⟨x0, x1, x2, x3, x4, x5, x6⟩ := x
 obtain ⟨p0_0, p0_1, v2, v3, v4, v5, rfl, h0, h2, h3, h4, h5⟩ := tEngine_P h
 rw [szEngine_eq] at hs
 have H0 := zh h0; have S0 := zh (show Ks.sz x0 ≤ 1048576 by omega)
 have H2 := zh h2; have S2 := zh (show zL Je x2 ≤ 1048576 by omega)
 have H3 := zh h3; have S3 := zh (show zL Ji x3 ≤ 1048576 by omega)
 have H4 := zh h4; have S4 := zh (show zL Jg x4 ≤ 1048576 by omega)
 have H5 := zh h5; have S5 := zh (show zL Jo x5 ≤ 1048576 by omega)
 clear hs h0 h2 h3 h4 h5
 have SP : Hid (St w [iB (w.heap.size + 1 + 1) [(), Ja, Ja, (), (), (), (), Ja] 40, iB (w.heap.size + 1) [(), Ja, Ja, (), (), (), (), Ja] 40, iB w.heap.size [p0_0, p0_1, .int .i64 x1, v2, v3, v4, v5, .int .i64 x6] 30] (((w.alloc (.cells #[p0_0, p0_1, .int .i64 x1, v2, v3, v4, v5, .int .i64 x6] 30)).alloc (.cells #[(), Ja, Ja, (), (), (), (), Ja] 40)).alloc (.cells #[(), Ja, Ja, (), (), (), (), Ja] 40))) := zh (by have := (((St.init w).box [p0_0, p0_1, .int .i64 x1, v2, v3, v4, v5, .int .i64 x6] 30).box [(), Ja, Ja, (), (), (), (), Ja] 40).box [(), Ja, Ja, (), (), (), (), Ja] 40; simpa only [Ie] using this)
 go_enter Tryz.func15, Tryz.ntmps15
 go_upto_region 2 with fail
 generalize (((w.alloc (.cells #[p0_0, p0_1, .int .i64 x1, v2, v3, v4, v5, .int .i64 x6] 30)).alloc (.cells #[(), Ja, Ja, (), (), (), (), Ja] 40)).alloc (.cells #[(), Ja, Ja, (), (), (), (), Ja] 40)) = W0 at *
 have ld := Kh (SP.out.gB 2 rfl)
 go_wp2_with fail
 clear ld
 refine (toK_Store (Vu.below H0.out SP.out.d) S0.out).mono ?_
 rintro e V0 ⟨gs, rfl, o, c⟩
 obtain ⟨g0_0, g0_1, rfl⟩ := len2 (Vu.len (Vu.reads o))
 obtain ⟨F0, sp⟩ := SP.out.pushE Vu c o (fun b h => h)
 replace SP := zh sp
 clear sp o c
 have st0 := Jx (P := Tryz.prog) (j := 0) (SP.out.gB 1 rfl) (by simp) (v := g0_0) (Eh (SP.out.rT 0 rfl) _ (by simp))
 have st1 := Jx (P := Tryz.prog) (j := 1) (setRow_heap V0 (w.heap.size + 1 + 1) _ #[g0_0, Ja, Ja, (), (), (), (), Ja] 40 (0, 0) (SP.out.gB 1 rfl)) (by simp) (v := g0_1) (Eh (SP.out.rT 0 rfl) _ (by simp))
 rw [setRow_setRow] at st1
 simp only [List.setIfInBounds_toArray, List.set_cons_succ, List.set_cons_zero] at st0 st1
 go_upto_region 3 with fail
 clear st0 st1
 replace SP := zh (SP.out.store 1 rfl [g0_0, g0_1, Ja, (), (), (), (), Ja])
 generalize V0.setRow (w.heap.size + 1 + 1) #[g0_0, g0_1, .int .i64 0, .slice none 0 0, .slice none 0 0, .slice none 0 0, .slice none 0 0, .int .i64 0] = Y0 at *
 have ld := Kh (SP.out.gB 3 rfl)
 have le := Kh (SP.out.gB 1 rfl)
 have fz := Ex (SP.out.gB 1 rfl)
 go_upto_region 4 with fail
 clear ld le fz
 have e := Jv (SP.out.gB 1 rfl) 2 (.int .i64 x1)
 simp only [List.setIfInBounds_toArray, List.set_cons_succ, List.set_cons_zero] at e
 rw [e]
 clear e
 replace SP := zh (SP.out.store 1 rfl [g0_0, g0_1, .int .i64 x1, (), (), (), (), Ja])
 generalize Y0.setRow (w.heap.size + 1 + 1) #[g0_0, g0_1, .int .i64 x1, .slice none 0 0, .slice none 0 0, .slice none 0 0, .slice none 0 0, .int .i64 0] = Y1 at *
 have ld := Kh (SP.out.gB 3 rfl)
 go_wp2_with fail
 clear ld
 refine (Ek (Jb Jc H2.out SP.out.d) S2.out).mono ?_
 rintro e V2 ⟨g2, rfl, o, c⟩
 obtain ⟨ga2, gc2, rfl⟩ := Ju o
 obtain ⟨F2, sp⟩ := SP.out.pushE tIntES_law c ⟨_, _, rfl, o⟩ (fun b h => h)
 replace SP := zh sp
 clear sp o c
 have le := Kh (SP.out.gB 2 rfl)
 have fz := Ex (SP.out.gB 2 rfl)
 go_upto_region 5 with fail
 clear le fz
 have e := Jv (SP.out.gB 2 rfl) 3 (.slice ga2 x2.length gc2)
 simp only [List.setIfInBounds_toArray, List.set_cons_succ, List.set_cons_zero] at e
 rw [e]
 clear e
 replace SP := zh (SP.out.store 2 rfl [g0_0, g0_1, .int .i64 x1, .slice ga2 x2.length gc2, (), (), (), Ja])
 generalize V2.setRow (w.heap.size + 1 + 1) #[g0_0, g0_1, .int .i64 x1, .slice ga2 x2.length gc2, .slice none 0 0, .slice none 0 0, .slice none 0 0, .int .i64 0] = Y2 at *
 have ld := Kh (SP.out.gB 4 rfl)
 go_wp2_with fail
 clear ld
 refine (toKS_ActiveS (Jb Jj H3.out SP.out.d) S3.out).mono ?_
 rintro e V3 ⟨g3, rfl, o, c⟩
 obtain ⟨ga3, gc3, rfl⟩ := Ju o
 obtain ⟨F3, sp⟩ := SP.out.pushTE Jj tActiveS_law c o (fun b h => h)
 replace SP := zh sp
 clear sp o c
 have le := Kh (SP.out.gB 3 rfl)
 have fz := Ex (SP.out.gB 3 rfl)
 go_upto_region 6 with fail
 clear le fz
 have e := Jv (SP.out.gB 3 rfl) 4 (.slice ga3 x3.length gc3)
 simp only [List.setIfInBounds_toArray, List.set_cons_succ, List.set_cons_zero] at e
 rw [e]
 clear e
 replace SP := zh (SP.out.store 3 rfl [g0_0, g0_1, .int .i64 x1, .slice ga2 x2.length gc2, .slice ga3 x3.length gc3, (), (), Ja])
 generalize V3.setRow (w.heap.size + 1 + 1) #[g0_0, g0_1, .int .i64 x1, .slice ga2 x2.length gc2, .slice ga3 x3.length gc3, .slice none 0 0, .slice none 0 0, .int .i64 0] = Y3 at *
 have ld := Kh (SP.out.gB 5 rfl)
 go_wp2_with fail
 clear ld
 refine (toKS_FinishedS (Jb Jn H4.out SP.out.d) S4.out).mono ?_
 rintro e V4 ⟨g4, rfl, o, c⟩
 obtain ⟨ga4, gc4, rfl⟩ := Ju o
 obtain ⟨F4, sp⟩ := SP.out.pushTE Jn tFinishedS_law c o (fun b h => h)
 replace SP := zh sp
 clear sp o c
 have le := Kh (SP.out.gB 4 rfl)
 have fz := Ex (SP.out.gB 4 rfl)
 go_upto_region 7 with fail
 clear le fz
 have e := Jv (SP.out.gB 4 rfl) 5 (.slice ga4 x4.length gc4)
 simp only [List.setIfInBounds_toArray, List.set_cons_succ, List.set_cons_zero] at e
 rw [e]
 clear e
 replace SP := zh (SP.out.store 4 rfl [g0_0, g0_1, .int .i64 x1, .slice ga2 x2.length gc2, .slice ga3 x3.length gc3, .slice ga4 x4.length gc4, (), Ja])
 generalize V4.setRow (w.heap.size + 1 + 1) #[g0_0, g0_1, .int .i64 x1, .slice ga2 x2.length gc2, .slice ga3 x3.length gc3, .slice ga4 x4.length gc4, .slice none 0 0, .int .i64 0] = Y4 at *
 have ld := Kh (SP.out.gB 6 rfl)
 go_wp2_with fail
 clear ld
 refine (toKS_ChargeS (Jb Jr H5.out SP.out.d) S5.out).mono ?_
 rintro e V5 ⟨g5, rfl, o, c⟩
 obtain ⟨ga5, gc5, rfl⟩ := Ju o
 obtain ⟨F5, sp⟩ := SP.out.pushTE Jr tChargeS_law c o (fun b h => h)
 replace SP := zh sp
 clear sp o c
 have le := Kh (SP.out.gB 5 rfl)
 have fz := Ex (SP.out.gB 5 rfl)
 go_upto_region 8 with fail
 clear le fz
 have e := Jv (SP.out.gB 5 rfl) 6 (.slice ga5 x5.length gc5)
 simp only [List.setIfInBounds_toArray, List.set_cons_succ, List.set_cons_zero] at e
 rw [e]
 clear e
 replace SP := zh (SP.out.store 5 rfl [g0_0, g0_1, .int .i64 x1, .slice ga2 x2.length gc2, .slice ga3 x3.length gc3, .slice ga4 x4.length gc4, .slice ga5 x5.length gc5, Ja])
 generalize V5.setRow (w.heap.size + 1 + 1) #[g0_0, g0_1, .int .i64 x1, .slice ga2 x2.length gc2, .slice ga3 x3.length gc3, .slice ga4 x4.length gc4, .slice ga5 x5.length gc5, .int .i64 0] = Y5 at *
 have ld := Kh (SP.out.gB 7 rfl)
 have le := Kh (SP.out.gB 5 rfl)
 have fz := Ex (SP.out.gB 5 rfl)
 go_upto_region 9 with fail
 clear ld le fz
 have e := Jv (SP.out.gB 5 rfl) 7 (.int .i64 x6)
 simp only [List.setIfInBounds_toArray, List.set_cons_succ, List.set_cons_zero] at e
 rw [e]
 clear e
 replace SP := zh (SP.out.store 5 rfl [g0_0, g0_1, .int .i64 x1, .slice ga2 x2.length gc2, .slice ga3 x3.length gc3, .slice ga4 x4.length gc4, .slice ga5 x5.length gc5, .int .i64 x6])
 generalize Y5.setRow (w.heap.size + 1 + 1) #[g0_0, g0_1, .int .i64 x1, .slice ga2 x2.length gc2, .slice ga3 x3.length gc3, .slice ga4 x4.length gc4, .slice ga5 x5.length gc5, .int .i64 x6] = Y6 at *
 generalize hu2 : Value.int .i64 x1 = u2 at SP
 have on2 : ∀ v ∈ [u2], v.oneCell' = true := by rw [← hu2]; simp [Value.oneCell']
 have HU2 := zh hu2
 clear hu2
 generalize hu3 : Value.slice ga2 x2.length gc2 = u3 at SP
 have on3 : ∀ v ∈ [u3], v.oneCell' = true := by rw [← hu3]; simp [Value.oneCell']
 have HU3 := zh hu3
 clear hu3
 generalize hu4 : Value.slice ga3 x3.length gc3 = u4 at SP
 have on4 : ∀ v ∈ [u4], v.oneCell' = true := by rw [← hu4]; simp [Value.oneCell']
 have HU4 := zh hu4
 clear hu4
 generalize hu5 : Value.slice ga4 x4.length gc4 = u5 at SP
 have on5 : ∀ v ∈ [u5], v.oneCell' = true := by rw [← hu5]; simp [Value.oneCell']
 have HU5 := zh hu5
 clear hu5
 generalize hu6 : Value.slice ga5 x5.length gc5 = u6 at SP
 have on6 : ∀ v ∈ [u6], v.oneCell' = true := by rw [← hu6]; simp [Value.oneCell']
 have HU6 := zh hu6
 clear hu6
 generalize hu7 : Value.int .i64 x6 = u7 at SP
 have on7 : ∀ v ∈ [u7], v.oneCell' = true := by rw [← hu7]; simp [Value.oneCell']
 have HU7 := zh hu7
 clear hu7
 have hone := (Kk (Eh (SP.out.rT 4 rfl)) (Kk on2 (Kk on3 (Kk on4 (Kk on5 (Kk on6 on7))))))
 clear on2 on3 on4 on5 on6 on7
 have ld := Kh (SP.out.gB 5 rfl)
 have st := rst8 (P := Tryz.prog) (SP.out.gB 6 rfl) hone
 go_wp2
 clear ld st hone
 replace SP := zh (SP.out.store 6 rfl [g0_0, g0_1, u2, u3, u4, u5, u6, u7])
 generalize Y6.setRow (w.heap.size + 1) #[g0_0, g0_1, u2, u3, u4, u5, u6, u7] = YY at *
 have ld := Kh (SP.out.gB 6 rfl)
 have J := SP.out.sub [0, 1, 2, 3, 4] (by decide)
 refine bodyPost_ret (v := .agg #[g0_0, g0_1, u2, u3, u4, u5, u6, u7]) (by simp [results, Tryz.f15, go_sem, ld]) rfl ?_
 replace J := J.pval Jc (o_int x6)
 obtain ⟨_, J⟩ := J.cat
 obtain ⟨_, J⟩ := J.cat
 obtain ⟨_, J⟩ := J.cat
 replace J := J.intp x1
 obtain ⟨_, J⟩ := J.cat
 obtain rfl := HU2.out
 obtain rfl := HU3.out
 obtain rfl := HU4.out
 obtain rfl := HU5.out
 obtain rfl := HU6.out
 obtain rfl := HU7.out
 exact ⟨_, rfl, J.outC, SP.out.d⟩
end Go.Proofs.YtnepfacnmaoieaaGreatDoor
