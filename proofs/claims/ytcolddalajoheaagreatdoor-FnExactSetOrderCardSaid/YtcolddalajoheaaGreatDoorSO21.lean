/-
 Texts of the proof, merged: EngSpec3, Cpl6Query, Uni, Cpl10Copy, Cpl3Copy, Mpl9Rows, VerSpec3, RowInsM, RowSort, VerSpec5, NewMath, VerSpec6, VerSpec7, UpdSpec2, UpdSpec3.
-/
import Derived.Test.YtcolddalajoheaaGreatDoorSO1
import Derived.Test.YtcolddalajoheaaGreatDoorSO2
import Derived.Test.YtcolddalajoheaaGreatDoorSO3
import Derived.Test.YtcolddalajoheaaGreatDoorSO4
import Derived.Test.YtcolddalajoheaaGreatDoorSO6
import Derived.Test.YtcolddalajoheaaGreatDoorSO7
import Derived.Test.YtcolddalajoheaaGreatDoorSO8
namespace Go.Proofs.YtcolddalajoheaaGreatDoor
open Go.RowKit
open Go renaming frozen_of_row → Ut, cell_of_row → Uu, heap_alloc_new → Uw
open Go.World renaming size_alloc → Ux
open Nat renaming le_refl → Ed, lt_of_lt_of_le → Ee, zero_le → Ef
open Go.Value.slice renaming injEq → Eg
open Go.RowKit.Below renaming refl → Eh
open ZD0
set_option maxRecDepth 100000
set_option linter.unusedVariables false
set_option linter.unusedSimpArgs false
def newP (rs : List Uk) (g : Int) : Prop := areB rs = true ∧ (1 ≤ g ∧ g ≤ 8) ∧ (rs.length : Int) ≤ 4 * g
instance (rs : List Uk) (g : Int) : Decidable (newP rs g) := by unfold newP; infer_instance
theorem info_T_VersionS : Vv Je 179 () := Ya (by kernel_rfl)
set_option maxHeartbeats 8000000 in
theorem specOne (id bo di : Int) (v : Value) (xs : List Int) (w : World) (h : Kc Jf w v xs) (hn : xs.length ≤ 1048576) :
  Calls Tryz.prog 180 #[.int .i64 id, v, .int .i64 bo, .int .i64 di] w (Yc Jn (fun cs => .agg cs.toArray) w (id, xs, bo, di)) := by
 obtain ⟨a, c, rfl⟩ := Jo h
 have H := hd h
 have HN := hd hn
 clear h hn
 have Y0 : Hid (w.heap.size < (w.alloc (.cells #[Ja, (), Ja, Ja] 178)).heap.size) := hd (by simp)
 have B0 : Hid ((w.alloc (.cells #[Ja, (), Ja, Ja] 178)).heap[w.heap.size]? = some (.cells #[Ja, (), Ja, Ja] 178 (0, 0))) := hd (Uw w _)
 have d := hd ((Eh w.heap.size w).alloc (Ed _) (.cells #[Ja, (), Ja, Ja] 178))
 have E0 : Hid (Kt 3 Jf ((w.alloc (.cells #[Ja, (), Ja, Ja] 178)).alloc (.cells #[] 3)) (fun b => w.heap.size + 1 ≤ b) (.slice (some ⟨w.heap.size + 1, 0, none⟩) 0 0) []) := hd (by
  have := Vp (T := Jf) (w.alloc (.cells #[Ja, (), Ja, Ja] 178)) 3 (fun b => w.heap.size + 1 ≤ b) (by simp)
  simpa only [Ux] using this)
 go_enter Tryz.func180, Tryz.ntmps180
 go_wp2_with (at_builtin; refine Xq Jb Yw Vq Tryz.underlying25 rfl rfl (.tmp 10) (.tmp 11) rfl (fun b => w.heap.size + 1 ≤ b) (fun b => w.heap.size + 1 ≤ b) _ _ [] xs rfl rfl E0.out (Jc Jb H.out (d.out.alloc d.out.size _)) (fun b h => h) (by first | (simp [Ux]; done) | (simp [Ux]; omega)) (by have := HN.out; simp; omega) ?_)
 intro v' w1 o1 t1
 obtain ⟨ua, uc, rfl⟩ := Js o1
 have k0 : w1.heap[w.heap.size]? = some (.cells #[Ja, (), Ja, Ja] 178 (0, 0)) := (t1.block _ (by first | (simp [Ux]; done) | (simp [Ux]; omega)) (fun h => by have := Y0.out; omega)).trans ((((Eh _ _).alloc (Ed _) _).block w.heap.size Y0.out).trans B0.out)
 have hdx : Below w w w1 := Jr (d.out.alloc d.out.size _) t1 (fun b h => by have h3 : w.heap.size + 1 ≤ b := h; omega) (by first | (simp [Ux]; done) | (simp [Ux]; omega))
 have z0 := cr 0 Ja k0
 have g0 := Ut w1 _ 0 _ _ k0
 have z1 := cr 1 () k0
 have g1 := Ut w1 _ 1 _ _ k0
 have z2 := cr 2 Ja k0
 have g2 := Ut w1 _ 2 _ _ k0
 have z3 := cr 3 Ja k0
 have g3 := Ut w1 _ 3 _ _ k0
 have DF := hd ((((hdx.setCell (p := ⟨w, 0, none⟩) (by simp) (.int .i64 id)).setCell (p := ⟨w, 1, none⟩) (by simp) (.slice ua xs.length uc)).setCell (p := ⟨w, 2, none⟩) (by simp) (.int .i64 bo)).setCell (p := ⟨w, 3, none⟩) (by simp) (.int .i64 di))
 have r := st4 k0 (.int .i64 id) (.slice ua xs.length uc) (.int .i64 bo) (.int .i64 di)
 try simp at r
 have e0 := (Uu _ w.heap.size 0 _ _ _ r).trans (show _ = some (Value.int .i64 id) from rfl)
 have e1 := (Uu _ w.heap.size 1 _ _ _ r).trans (show _ = some (Value.slice ua xs.length uc) from rfl)
 have e2 := (Uu _ w.heap.size 2 _ _ _ r).trans (show _ = some (Value.int .i64 bo) from rfl)
 have e3 := (Uu _ w.heap.size 3 _ _ _ r).trans (show _ = some (Value.int .i64 di) from rfl)
 have tt := ts4 w1 w.heap.size (.int .i64 id) (.slice ua xs.length uc) (.int .i64 bo) (.int .i64 di)
 have PF := hd (Ju Jb o1 tt (fun b h1 h2 => by have h3 : w.heap.size + 1 ≤ b := h1; have := Y0.out; omega))
 clear r tt k0 hdx t1 o1
 go_wp2
 refine bodyPost_ret (v := .agg #[.int .i64 id, .slice ua xs.length uc, .int .i64 bo, .int .i64 di]) ?_ rfl ⟨[.int .i64 id, .slice ua xs.length uc, .int .i64 bo, .int .i64 di], rfl, Xu PF.out (fun b h => by have h3 : w.heap.size + 1 ≤ b := h; have := Y0.out; show w.heap.size ≤ b; omega), DF.out⟩
 simp [results, Tryz.f180, go_sem, e0, e1, e2, e3]
set_option maxHeartbeats 16000000 in
theorem specPart (v : Value) (l : List Kw) (w : World) (h : Kc Jn w v l) (hs : zL Jn l ≤ 1048576) :
  Calls Tryz.prog 142 #[v] w (Yi 178 Jn w l) := by
 have H := hd h
 have hlen := Jz hs
 have HS := hd hs
 obtain ⟨a, cap, rfl⟩ := Jo h
 clear h hs
 go_enter Tryz.func142, Tryz.ntmps142
 go_wp2
 go_loopw [3, 4] (fun u i wr => ∃ k : Nat, k ≤ l.length ∧ i = .int .i64 k ∧ Kt 178 Jn wr (Kg w) u (l.take k) ∧ Below w w wr) (fun _ i _ => l.length - (intOf i).toNat)
 case atStart => exact ⟨0, Ef _, rfl, Vp w 178 (Kg w) (Ed _), (Eh _ _).alloc (Ed _) _⟩
 case round =>
  obtain ⟨k, hk, rfl, hown, hbel⟩ := hrel
  by_cases hlt : k < l.length
  ·
   have i1 : (0 : Int) ≤ (k : Int) := by omega
   have i2 : (k : Int) < (l.length : Int) := by omega
   obtain ⟨b, off, cap', xa, xc, hv, hbl, c0, c1, c2, c3, hx⟩ := verR_at H.out hlt
   simp only [Eg] at hv
   obtain ⟨rfl, _, rfl⟩ := hv
   have HXL := hd (ver_len HS.out hlt)
   have HTK := hd (take_getD hlt).symm
   have HYL : Hid ((l.take k).length ≤ 1048576) := hd (by rw [List.length_take]; omega)
   have HX := hd (ints_slR hx)
   generalize l.getD k v0D = x at *
   obtain ⟨id, xs, bo, di⟩ := x
   simp only at c0 c1 c2 c3 HXL
   change Hid (Kc Jf w (.slice xa xs.length xc) xs) at HX
   have C0 := hd c0
   have C1 := hd c1
   have C2 := hd c2
   have C3 := hd c3
   have HBL := hd hbl
   have PP := hd (Ki Ka hown)
   have d := hd hbel
   have ZR := hd hbel.size
   obtain ⟨oa, oc, rfl⟩ := Js hown
   clear c0 c1 c2 c3 hbl hx hown hbel
   have QP := hd (fun q (h : Kg w q ∧ q < wr.heap.size) => h)
   generalize l.take k = ys at *
   go_wp2
   have p_C0 := cx d C0 HBL
   have p_C1 := cx d C1 HBL
   have p_C2 := cx d C2 HBL
   have p_C3 := cx d C3 HBL
   refine wp_region_held_drew (S := fun w' => w'.cell? ⟨b, off + k * 4, none⟩ = some (Value.int .i64 id) ∧ w'.cell? ⟨b, off + k * 4 + 1, none⟩ = some (Value.slice xa xs.length xc) ∧ w'.cell? ⟨b, off + k * 4 + 2, none⟩ = some (Value.int .i64 bo) ∧ w'.cell? ⟨b, off + k * 4 + 3, none⟩ = some (Value.int .i64 di)) (by kernel_rfl) ⟨p_C0, p_C1, p_C2, p_C3⟩ (fun hHeld => ?_)
   clear p_C0 p_C1 p_C2 p_C3
   have cdr : Below wr wr wr.drew := Ke (Eh _ _)
   replace PP := zf Ka PP cdr
   replace d := zD d cdr
   clear cdr
   have Z_dr := hd (show wr.heap.size ≤ wr.drew.heap.size from Ed _)
   generalize wr.drew = Wd at *
   refine tQ (i := 0) ?_
   try simp only [Act.put, lA, lB, lC]
   refine tQ (i := 1) ?_
   try simp only [Act.put, lA, lB, lC]
   refine tQ (i := 2) ?_
   try simp only [Act.put, lA, lB, lC]
   refine tQ (i := 3) ?_
   try simp only [Act.put, lA, lB, lC]
   refine tQ (i := 4) ?_
   try simp only [Act.put, lA, lB, lC]
   refine tQ (i := 5) ?_
   try simp only [Act.put, lA, lB, lC]
   refine tQ (i := 6) ?_
   try simp only [Act.put, lA, lB, lC]
   refine tQ (i := 7) ?_
   try simp only [Act.put, lA, lB, lC]
   refine tQ (i := 8) ?_
   try simp only [Act.put, lA, lB, lC]
   refine tQ (i := 9) ?_
   try simp only [Act.put, lA, lB, lC]
   refine tQ (i := 10) ?_
   try simp only [Act.put, lA, lB, lC]
   refine tQ (i := 11) ?_
   try simp only [Act.put, lA, lB, lC]
   refine tQ (i := 12) ?_
   try simp only [Act.put, lA, lB, lC]
   refine tQ (i := 13) ?_
   try simp only [Act.put, lA, lB, lC]
   refine tQ (i := 14) ?_
   try simp only [Act.put, lA, lB, lC]
   refine tQ (i := 15) ?_
   try simp only [Act.put, lA, lB, lC]
   refine tQ (i := 16) ?_
   try simp only [Act.put, lA, lB, lC]
   refine tQ (i := 17) ?_
   try simp only [Act.put, lA, lB, lC]
   refine tQ (i := 18) ?_
   try simp only [Act.put, lA, lB, lC]
   refine tQ (i := 19) ?_
   try simp only [Act.put, lA, lB, lC]
   refine tQ (i := 20) ?_
   try simp only [Act.put, lA, lB, lC]
   refine rA 21 (fun K hK => ?_)
   go_simp
   refine (specOne id bo di (.slice xa xs.length xc) xs Wd (Jc Jb HX.out d.out) HXL.out).mono ?_
   rintro e w5 ⟨cs, rfl, ow, c5⟩
   have ox : Jn.O w5 (fun q => wr.heap.size ≤ q) cs (id, xs, bo, di) := Ka.mono ow (fun q hq => Nat.le_trans Z_dr.out hq)
   obtain ⟨u1, K1, rfl, o1, q1⟩ := tVersion_O ox
   obtain ⟨ua, uc, rfl⟩ := Js o1
   have PX := hd (Kk o1 q1)
   replace PP := zf Ka PP c5
   replace d := zD d c5
   have Z_w5 := hd (show Wd.heap.size ≤ w5.heap.size from c5.size)
   clear c5 ow ox o1 q1
   have p_C0 := cx d C0 HBL
   have p_C1 := cx d C1 HBL
   have p_C2 := cx d C2 HBL
   have p_C3 := cx d C3 HBL
   refine hK.out _ _ ⟨p_C0, p_C1, p_C2, p_C3⟩ (fun hHeld => ?_)
   clear p_C0 p_C1 p_C2 p_C3
   clear hK K
   try simp only [Act.put, lA, lB, lC]
   refine rA 22 (fun K hK => ?_)
   go_simp
   have hal : Below w5 w5 (w5.alloc (.cells #[.int .i64 id, .slice ua xs.length uc, .int .i64 bo, .int .i64 di] 178)) := (Eh _ _).alloc (Ed _) _
   have Kd := d
   replace d := zD d hal
   clear hal
   have p_C0 := cx d C0 HBL
   have p_C1 := cx d C1 HBL
   have p_C2 := cx d C2 HBL
   have p_C3 := cx d C3 HBL
   refine hK.out _ _ ⟨p_C0, p_C1, p_C2, p_C3⟩ (fun hHeld => ?_)
   clear p_C0 p_C1 p_C2 p_C3
   clear hK K
   try simp only [Act.put, lA, lB, lC]
   refine rA 23 (fun K hK => ?_)
   have y0 := ZR.out
   have y1 := Z_dr.out
   have y2 := Z_w5.out
   have yd := Kd.out.size
   have hD : wr.heap.size ≤ w5.heap.size := by omega
   have hnew : Jn.O w5 (fun q => wr.heap.size ≤ q) [.int .i64 id, .slice ua xs.length uc, .int .i64 bo, .int .i64 di] (id, xs, bo, di) := Xu PX.out (fun q hq => hq)
   refine Yp Ka info_T_Version Tryz.underlying179 rfl rfl (.tmp 12) (.tmp 34) rfl (Kg w) wr.heap.size _ (ys) rfl PP.out hD (fun q hq => Nat.le_trans ZR.out hq) HYL.out [.int .i64 id, .slice ua xs.length uc, .int .i64 bo, .int .i64 di] (id, xs, bo, di) hnew (by simp [Value.oneCell']) 1 _ rfl rfl ?_
   intro v' w7 oN tN
   rw [HTK.out] at oN
   have PN := hd oN
   have DN := hd (Jr Kd.out tN (fun q hq => hq.1) yd)
   clear hnew hD oN tN yd PX Kd d PP y0 y1 y2
   have p_C0 := cx DN C0 HBL
   have p_C1 := cx DN C1 HBL
   have p_C2 := cx DN C2 HBL
   have p_C3 := cx DN C3 HBL
   refine hK.out _ _ ⟨p_C0, p_C1, p_C2, p_C3⟩ (fun hHeld => ?_)
   clear p_C0 p_C1 p_C2 p_C3
   clear hK K
   try simp only [Act.put, lA, lB, lC]
   refine tQ (i := 24) ?_
   try simp only [Act.put, lA, lB, lC]
   refine wpAnyH_done (by kernel_rfl) ?_ _
   clear hHeld
   go_wp2
   go_roundw
   case rel => exact ⟨k + 1, by omega, by go_num, PN.out, DN.out⟩
   case measure => simp [intOf]; omega
  ·
   obtain rfl : k = l.length := by omega
   rw [List.take_length] at hown
   obtain ⟨oa, oc, rfl⟩ := Js hown
   go_wp2
   go_ret
   exact ⟨_, rfl, hown, hbel⟩
end Go.Proofs.YtcolddalajoheaaGreatDoor
