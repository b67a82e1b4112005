/-
 Texts of the proof, merged: EngRec.
-/
import Derived.Test.YtnepfacnmaoieaaGreatDoorCA2
import Derived.Test.YtnepfacnmaoieaaGreatDoorCA3
import Derived.Test.YtnepfacnmaoieaaGreatDoorCA5
import Derived.Test.YtnepfacnmaoieaaGreatDoorCA6
import Derived.Test.YtnepfacnmaoieaaGreatDoorCA12
import Derived.BigQuiet
import Derived.Deep.QuietTactic
import Derived.Deep.RegionHeld3
namespace Go.Proofs.YtnepfacnmaoieaaGreatDoor
open Go.RowKit
open Go renaming frozen_of_row → Ez, heap_alloc_new → Ic
open Nat renaming le_refl → Ii, zero_le → Ij
open Go.Value.slice renaming injEq → Ik
open Go.RowKit.Below renaming refl → Il
open ZD0
set_option maxRecDepth 100000
set_option linter.unusedVariables false
set_option linter.unusedSimpArgs false
theorem timesL_zero (l : List Ua) : Yj (l.take 0) = [] := by simp [Yj]
/-- The store behind the pointer is another, in new memory; the rest of the engine stays. -/
def Recd (B : Nat) (rest : List Value) (r : Yx) (w : World) (e : Ending) (w' : World) : Prop := ∃ (sv : Value) (F : Nat → Prop), e = .returned (.tuple #[]) ∧ Kp 213 Jd w' F sv r.1 ∧ (∀ b, F b → w.heap.size ≤ b) ∧ w'.heap[B]? = some (.cells (sv :: .int .i64 r.2 :: rest).toArray 40 (0, 0)) ∧ Kb (fun b => b = B) w w'
set_option maxHeartbeats 16000000 in
theorem specReclaim (B : Nat) (now : Int) (ea aa : Option Addr) (ec ac : Nat) (y2 y3 y5 y6 y7 : Value) (ss : List (List Kj)) (qs : List Ua) (w : World)
  (hB : w.heap[B]? = some (.cells #[.slice ea ss.length ec, .int .i64 now, y2, y3, .slice aa qs.length ac, y5, y6, y7] 40 (0, 0))) (h0 : Ko Jd w (.slice ea ss.length ec) ss) (s0 : zL Jd ss ≤ 1048576) (h4 : Ko Ji w (.slice aa qs.length ac) qs) (n4 : qs.length ≤ 1048576) :
  Calls Tryz.prog 105 #[.pointer (some ⟨B, 0, none⟩)] w (Recd B [y2, y3, .slice aa qs.length ac, y5, y6, y7] (recE (ss, now) qs) w) := by
 have H0 := zh h0
 have S0 := zh s0
 have H4 := zh h4
 have HB := zh hB
 have HBB := zh (Array.getElem?_eq_some_iff.1 hB).1
 clear h0 s0 h4 hB
 have SP : Hid (St w [iS 3 Jc (fun b => b = w.heap.size) (.slice (some ⟨w, 0, none⟩) 0 0) []] (w.alloc (.cells #[] 3))) := zh ((St.init w).empty Jc 3)
 go_enter Tryz.func105, Tryz.ntmps105
 go_wp2
 go_loopw [2, 3] (fun ov i wr => ∃ (k : Nat) (F : Nat → Prop), k ≤ qs.length ∧ i = .int .i64 k ∧ Hid (St w [iS 3 Jc F ov (Yj (qs.take k))] wr)) (fun _ i _ => qs.length - (intOf i).toNat)
 case atStart => exact ⟨0, _, Ij _, rfl, by rw [timesL_zero]; exact SP⟩
 case round =>
  obtain ⟨k, F, hk, rfl, SQ⟩ := hrel
  clear SP
  by_cases hlt : k < qs.length
  ·
   have i1 : (0 : Int) ≤ (k : Int) := by omega
   have i2 : (k : Int) < (qs.length : Int) := by omega
   have HT := zh (timesL_step hlt)
   have HL : Hid ((Yj (qs.take k)).length ≤ 1048576) := zh (by rw [timesL_len, List.length_take]; omega)
   obtain ⟨b, off, cap', p2, c2, p3, c3, p5, c5, p9, c9, hv, hbl, r0, r1, r2, r3, r4, r5, r6, r7, r8, r9, s2, s3, s5, s9⟩ := act_at H4.out hlt
   simp only [Ik] at hv
   obtain ⟨rfl, _, rfl⟩ := hv
   have q4 := (SQ.out.d.cell (p := ⟨b, off + k * 10 + 4, none⟩) hbl).trans r4
   clear r0 r1 r2 r3 r4 r5 r6 r7 r8 r9 s2 s3 s5 s9 hbl
   generalize (qs.getD k Uh).2.1 = tm at *
   have ld := Kh ((SQ.out.d.block B HBB.out).trans HB.out)
   have SA := zh (SQ.out.alloc (.cells #[.int .i64 tm] 3))
   go_wp2_with (at_builtin; refine Xt Jc Uf Yp Tryz.underlying25 rfl rfl (.tmp 16) (.tmp 25) rfl F (fun b => F b ∨ b = _) u2 _ (Yj (qs.take k)) [tm] rfl rfl (SA.out.gS 0 rfl) (slR_num (Ic _ _)) (fun _ h => Or.inl h) (Or.inr rfl) (by have := HL.out; simp; omega) ?_)
   intro v' W6 oN tN
   obtain ⟨F2, sp⟩ := SA.out.appS 0 rfl oN tN (fun b h => h.imp_right (fun q => by rw [q]; simp))
   replace SQ := zh sp
   clear sp oN tN SA q4 ld
   go_wp2
   go_roundw
   case rel => exact ⟨k + 1, F2, by omega, by go_num, by rw [HT.out]; exact SQ⟩
   case measure => simp [intOf]; omega
  ·
   obtain rfl : k = qs.length := by omega
   rw [List.take_length] at SQ
   have ld := Kh ((SQ.out.d.block B HBB.out).trans HB.out)
   go_wp2_with fail
   clear ld
   refine (specReclaimStore now (.slice ea ss.length ec) _ ss (Yj qs) wr (Jb Jf H0.out SQ.out.d) S0.out (SQ.out.rS 0 rfl) (by rw [timesL_len]; exact n4)).mono ?_
   rintro e W1 ⟨gs, G, rfl, o, hG, c⟩
   obtain ⟨⟨rs, rn⟩, hr⟩ : ∃ p, p = recE (ss, now) qs := ⟨_, rfl⟩
   have HR := zh hr
   have o2 : Ks.O W1 G gs (rs, rn) := by rw [hr]; exact o
   rw [← hr]
   clear hr o
   obtain ⟨sv, F0, rfl, o0, q0⟩ := tStore_O o2
   obtain ⟨va, vc, rfl⟩ := Ju o0
   have O0 := zh (Kn Jf o0)
   have Q0 := zh (fun b h => Nat.le_trans SQ.out.d.size (hG b (q0 b h)))
   replace SQ := zh (SQ.out.below c)
   clear o2 o0 q0 hG c
   have SB := zh (SQ.out.box [.slice va rs.length vc, .int .i64 rn] 35)
   have HB2 := zh ((SB.out.d.block B HBB.out).trans HB.out)
   have OB := zh (Yi Jf O0.out ((Il _ _).alloc (Ii _) (.cells #[.slice va rs.length vc, .int .i64 rn] 35)))
   have ld := Kh HB2.out
   have fz := Ex HB2.out
   go_wp2
   clear ld fz
   have e1 := Jv HB2.out 0 (.slice va rs.length vc)
   have e2 := Jv (setRow_heap _ B _ #[.slice va rs.length vc, .int .i64 now, y2, y3, .slice aa qs.length ac, y5, y6, y7] _ (0, 0) HB2.out) 1 (.int .i64 rn)
   rw [setRow_setRow] at e2
   simp only [List.setIfInBounds_toArray, List.set_cons_succ, List.set_cons_zero] at e1 e2
   rw [e1, e2]
   clear e1 e2
   go_end0
   rw [← HR.out]
   refine ⟨.slice va rs.length vc, F0, rfl, Ka Jf (Ky OB.out (F' := F0) (fun b h => h.1)) Vk (fun b h q => by have := Q0.out b h; have := HBB.out; omega), Q0.out, setRow_heap _ B _ _ _ (0, 0) HB2.out, (Kb.mono (G := fun _ => False) (Yo SB.out.d) (fun _ q => q.elim)).trans Vk⟩
theorem timesL_at (l : List Ua) {k : Nat} (h : k < l.length) : (Yj l).getD k 0 = (l.getD k Uh).2.1 := by simp [Yj, List.getD, h]
theorem Tryz.kinfo_int : (Tryz.prog.info? 3).map (fun i => (i.zero, i.size)) = some (some (.int .i64 0), 1) := by kernel_rfl
theorem Tryz.kbytes_int : ((Tryz.prog.info? 3).map (fun i => decide (i.bytes ≤ 512))) = some true := by kernel_rfl
set_option maxHeartbeats 16000000 in
theorem implTimes (v : Value) (qs : List Ua) (w : World) (h4 : Ko Ji w v qs) (n4 : qs.length ≤ 1048576) :
  Calls Tryz.prog 170 #[v] w (Xg 3 Je w (Yj qs)) := by
 obtain ⟨i0, hi, hz0, hz1⟩ : ∃ i0, Tryz.prog.info? 3 = some i0 ∧ i0.zero = some (.int .i64 0) ∧ i0.size = 1 := by
  have h0 := Tryz.kinfo_int
  cases q : Tryz.prog.info? 3 with
  | none => rw [q] at h0; simp at h0
  | some i => rw [q] at h0; simp only [Option.map_some, Option.some.injEq, Prod.mk.injEq] at h0; exact ⟨i, rfl, h0.1, h0.2⟩
 have hz2 : i0.bytes ≤ 512 := by
  have h0 := Tryz.kbytes_int
  rw [hi] at h0
  simpa using h0
 have HI := zh hi; have HZ0 := zh hz0; have HZ1 := zh hz1; have HZ2 := zh hz2
 clear hi hz0 hz1 hz2
 have H4 := zh h4
 obtain ⟨aa, ac, rfl⟩ := Jl h4
 clear h4
 have hlen := n4
 have HTL := zh (timesL_len qs)
 go_enter Tryz.func170, Tryz.ntmps170
 go_wp2_with (at_make; refine wpList_make_full _ rfl (.tmp 7) (.tmp 7) 25 rfl w.heap.size 3 i0 Ja 1 Tryz.underlying25 HI.out HZ0.out HZ1.out _ _ _ _ qs.length rfl rfl rfl rfl (by have h9 := Nat.mul_le_mul HZ2.out hlen; have h8 := Nat.mul_le_mul hlen HZ2.out; omega) (by unfold maxLen; omega) (Ii _) ?_)
 intro w1 hown0 hg0
 have hown1 : Kp 3 Je w1 (Kw w) (.slice (some ⟨w, 0, none⟩) qs.length qs.length) (List.replicate qs.length Je.d) := Yz (z := #[.int .i64 0]) Jc rfl rfl (Ii _) (by rw [show qs.length * Je.n = qs.length from Nat.mul_one _]; exact hown0)
 have hbel1 := (Il w.heap.size w).grown hg0 (Ii _) (fun k hk => by cases hk)
 clear hown0 hg0
 go_wp2
 go_loopw [11] (fun i wr => ∃ k : Nat, k ≤ qs.length ∧ i = .int .i64 k ∧ Hid (Kp 3 Je wr (Kw w) (.slice (some ⟨w, 0, none⟩) qs.length qs.length) ((Yj qs).take k ++ List.replicate ((Yj qs).length - k) Je.d)) ∧ Below w w wr) (fun i _ => qs.length - (intOf i).toNat)
 case atStart => exact ⟨0, Ij _, rfl, zh (by rw [HTL.out]; simpa using hown1), hbel1⟩
 case round =>
  obtain ⟨k, hk, rfl, OW, hbel⟩ := hrel
  clear hown1 hbel1
  by_cases hlt : k < qs.length
  ·
   have i1 : (0 : Int) ≤ (k : Int) := by omega
   have i2 : (k : Int) < (qs.length : Int) := by omega
   have HSET : Hid (((Yj qs).take k ++ List.replicate ((Yj qs).length - k) Je.d).set k (qs.getD k Uh).2.1 = (Yj qs).take (k + 1) ++ List.replicate ((Yj qs).length - (k + 1)) Je.d) := zh (by rw [← timesL_at qs hlt]; exact Xb (d := Je.d) (by rw [HTL.out]; exact hlt))
   obtain ⟨cur, hg, hsz, hput⟩ := Xq Jc OW.out (j := k) (by rw [Xn (by rw [HTL.out]; exact hk), HTL.out]; exact hlt)
   have HG := zh hg; have HP := zh hput; have HB := zh hbel; have HSZ := zh hsz
   have HGL := zh (Array.getElem?_eq_some_iff.1 hg).1
   clear hg hput hbel hsz OW
   obtain ⟨b, off, cap', p2, c2, p3, c3, p5, c5, p9, c9, hv, hbl, r0, r1, r2, r3, r4, r5, r6, r7, r8, r9, s2, s3, s5, s9⟩ := act_at (Jb Jj H4.out HB.out) hlt
   simp only [Ik] at hv
   obtain ⟨rfl, _, rfl⟩ := hv
   clear s2 s3 s5 s9 hbl
   generalize qs.getD k Uh = x at *
   have hG2 : (wr.alloc (.cells #[.int .i64 x.1.1, .int .i64 x.1.2.1, .slice p2 x.1.2.2.1.length c2, .slice p3 x.1.2.2.2.length c3, .int .i64 x.2.1, .slice p5 x.2.2.1.length c5, .int .i64 x.2.2.2.1, .int .i64 x.2.2.2.2.1, .int .i64 x.2.2.2.2.2.1, .slice p9 x.2.2.2.2.2.2.length c9] 104)).heap[w.heap.size]? = some (.cells cur 3 (0, 0)) := ((Il wr.heap.size wr).alloc (Ii _) _).block _ HGL.out |>.trans HG.out
   have hsk : k < cur.size := by have := HSZ.out; rw [show Je.n = 1 from rfl] at this; omega
   have HK := zh hsk
   obtain ⟨u, hu⟩ := cell_ex hG2 hsk
   have fz := Ez _ _ k _ _ hG2
   have HG2 := zh hG2
   clear hG2 hsk
   go_upto_region 6 with fail
   clear hu fz r0 r1 r2 r3 r4 r5 r6 r7 r8 r9
   rw [Jv HG2.out k _, Es HK.out]
   have HST := zh (HP.out (wr.alloc (.cells #[.int .i64 x.1.1, .int .i64 x.1.2.1, .slice p2 x.1.2.2.1.length c2, .slice p3 x.1.2.2.2.length c3, .int .i64 x.2.1, .slice p5 x.2.2.1.length c5, .int .i64 x.2.2.2.1, .int .i64 x.2.2.2.2.1, .int .i64 x.2.2.2.2.2.1, .slice p9 x.2.2.2.2.2.2.length c9] 104)) [.int .i64 x.2.1] x.2.1 (fun _ => False) ((Il wr.heap.size wr).alloc (Ii _) _) rfl (fun b h => h.elim))
   rw [HSET.out, show Je.n = 1 from rfl, Nat.mul_one] at HST
   have B3 := zh (Js (HB.out.trans (((Il wr.heap.size wr).alloc (Ii _) (.cells #[.int .i64 x.1.1, .int .i64 x.1.2.1, .slice p2 x.1.2.2.1.length c2, .slice p3 x.1.2.2.2.length c3, .int .i64 x.2.1, .slice p5 x.2.2.1.length c5, .int .i64 x.2.2.2.1, .int .i64 x.2.2.2.2.1, .int .i64 x.2.2.2.2.2.1, .slice p9 x.2.2.2.2.2.2.length c9] 104)).mono HB.out.size)) (Vk (b := w.heap.size) (c := Ki cur k [.int .i64 x.2.1])) (fun b hb => by rw [hb]; exact Ii _) (Nat.le_trans HB.out.size (by simp)))
   go_wp2
   go_roundw
   case rel => exact ⟨k + 1, by omega, by go_num, HST, B3.out⟩
   case measure => simp [intOf]; omega
  ·
   obtain rfl : k = qs.length := by omega
   have HE : Hid ((Yj qs).take qs.length ++ List.replicate ((Yj qs).length - qs.length) Je.d = Yj qs) := zh (by rw [← HTL.out]; simp)
   rw [HE.out] at OW
   have HTQ := zh HTL.out
   go_wp2
   go_ret
   exact ⟨_, rfl, OW.out, hbel⟩
set_option maxHeartbeats 16000000 in
theorem implReclaim (B : Nat) (now : Int) (ea aa : Option Addr) (ec ac : Nat) (y2 y3 y5 y6 y7 : Value) (ss : List (List Kj)) (qs : List Ua) (w : World)
  (hB : w.heap[B]? = some (.cells #[.slice ea ss.length ec, .int .i64 now, y2, y3, .slice aa qs.length ac, y5, y6, y7] 40 (0, 0))) (h0 : Ko Jd w (.slice ea ss.length ec) ss) (s0 : zL Jd ss ≤ 1048576) (h4 : Ko Ji w (.slice aa qs.length ac) qs) (n4 : qs.length ≤ 1048576) :
  Calls Tryz.prog 108 #[.pointer (some ⟨B, 0, none⟩)] w (Recd B [y2, y3, .slice aa qs.length ac, y5, y6, y7] (recE (ss, now) qs) w) := by
 have H0 := zh h0
 have S0 := zh s0
 have H4 := zh h4
 have HB := zh hB
 have HBB := zh (Array.getElem?_eq_some_iff.1 hB).1
 clear h0 s0 h4 hB
 have SP := zh (St.init w)
 go_enter Tryz.func108, Tryz.ntmps108
 go_wp2
 refine wp_region_held_drew (S := fun _ => True) (by kernel_rfl) trivial (fun hHeld => ?_)
 have SQ := zh SP.out.drew
 clear SP
 generalize w.drew = W0 at *
 refine tQ (i := 0) ?_
 try simp only [Act.put, lA, lB, lC]
 refine tQ (i := 1) ?_
 try simp only [Act.put, lA, lB, lC]
 refine tQ (i := 2) ?_
 try simp only [Act.put, lA, lB, lC]
 refine tQ (i := 3) ?_
 try simp only [Act.put, lA, lB, lC]
 refine tQ (i := 5) ?_
 try simp only [Act.put, lA, lB, lC]
 refine tQ (i := 6) ?_
 try simp only [Act.put, lA, lB, lC]
 refine tQ (i := 7) ?_
 try simp only [Act.put, lA, lB, lC]
 refine wpAnyH_ready (rs := [4, 8]) (by kernel_rfl) (by simp) ?_
 refine (AllReadyH.cons (o := _) (by simp only [hA, hB, hC]; rfl) (fun K hK => ?_) (AllReadyH.cons (o := _) (by simp only [hA, hB, hC]; rfl) (fun K hK => ?_) AllReadyH.nil))
 have ld := Kh ((SQ.out.d.block B HBB.out).trans HB.out)
 go_simp
 clear ld
 refine hK.out _ _ trivial (fun hHeld => ?_)
 clear hK K
 try simp only [Act.put, lA, lB, lC]
 refine rA 8 (fun K hK => ?_)
 have ld := Kh ((SQ.out.d.block B HBB.out).trans HB.out)
 go_simp
 clear ld
 refine hK.out _ _ trivial (fun hHeld => ?_)
 clear hK K
 try simp only [Act.put, lA, lB, lC]
 refine rA 9 (fun K hK => ?_)
 go_simp
 refine (implTimes (.slice aa qs.length ac) qs _ (Jb Jj H4.out SQ.out.d) n4).mono ?_
 rintro e W1 ⟨tv, rfl, o, c⟩
 obtain ⟨ta, tc, rfl⟩ := Ju o
 obtain ⟨FT, sp⟩ := SQ.out.pushSE Jc c o (fun b h => h)
 replace SQ := zh sp
 clear sp o c
 refine hK.out _ _ trivial (fun hHeld => ?_)
 clear hK K
 try simp only [Act.put, lA, lB, lC]
 rotate_left
 have ld := Kh ((SQ.out.d.block B HBB.out).trans HB.out)
 go_simp
 clear ld
 refine hK.out _ _ trivial (fun hHeld => ?_)
 clear hK K
 try simp only [Act.put, lA, lB, lC]
 refine wpAnyH_ready (rs := [4, 9]) (by kernel_rfl) (by simp) ?_
 refine (AllReadyH.cons (o := _) (by simp only [hA, hB, hC]; rfl) (fun K hK => ?_) (AllReadyH.cons (o := _) (by simp only [hA, hB, hC]; rfl) (fun K hK => ?_) AllReadyH.nil))
 have ld := Kh ((SQ.out.d.block B HBB.out).trans HB.out)
 go_simp
 clear ld
 refine hK.out _ _ trivial (fun hHeld => ?_)
 clear hK K
 try simp only [Act.put, lA, lB, lC]
 refine rA 9 (fun K hK => ?_)
 go_simp
 refine (implTimes (.slice aa qs.length ac) qs _ (Jb Jj H4.out SQ.out.d) n4).mono ?_
 rintro e W1 ⟨tv, rfl, o, c⟩
 obtain ⟨ta, tc, rfl⟩ := Ju o
 obtain ⟨FT, sp⟩ := SQ.out.pushSE Jc c o (fun b h => h)
 replace SQ := zh sp
 clear sp o c
 refine hK.out _ _ trivial (fun hHeld => ?_)
 clear hK K
 try simp only [Act.put, lA, lB, lC]
 rotate_left
 go_simp
 refine (implTimes (.slice aa qs.length ac) qs _ (Jb Jj H4.out SQ.out.d) n4).mono ?_
 rintro e W1 ⟨tv, rfl, o, c⟩
 obtain ⟨ta, tc, rfl⟩ := Ju o
 obtain ⟨FT, sp⟩ := SQ.out.pushSE Jc c o (fun b h => h)
 replace SQ := zh sp
 clear sp o c
 refine hK.out _ _ trivial (fun hHeld => ?_)
 clear hK K
 try simp only [Act.put, lA, lB, lC]
 refine rA 4 (fun K hK => ?_)
 have ld := Kh ((SQ.out.d.block B HBB.out).trans HB.out)
 go_simp
 clear ld
 refine hK.out _ _ trivial (fun hHeld => ?_)
 clear hK K
 try simp only [Act.put, lA, lB, lC]
 rotate_left
 all_goals
  refine rA 10 (fun K hK => ?_)
  go_simp
  refine (implReclaimStore now (.slice ea ss.length ec) _ ss (Yj qs) W1 (Jb Jf H0.out SQ.out.d) S0.out (SQ.out.rS 0 rfl) (by rw [timesL_len]; exact n4)).mono ?_
  rintro e W2 ⟨gs, G, rfl, o, hG, c⟩
  obtain ⟨⟨rs, rn⟩, hr⟩ : ∃ p, p = recE (ss, now) qs := ⟨_, rfl⟩
  have HR := zh hr
  have o2 : Ks.O W2 G gs (rs, rn) := by rw [hr]; exact o
  change Hid ((rs, rn) = (Xj (ss, now) (Yj qs)).1) at HR
  rw [show (Xj (ss, now) (Yj qs)).2 = (Xj (ss, now) (Yj qs)).2 from rfl]
  clear hr o
  obtain ⟨sv, F0, rfl, o0, q0⟩ := tStore_O o2
  obtain ⟨va, vc, rfl⟩ := Ju o0
  have O0 := zh (Kn Jf o0)
  have Q0 := zh (fun b h => Nat.le_trans SQ.out.d.size (hG b (q0 b h)))
  replace SQ := zh (SQ.out.below c)
  clear o2 o0 q0 hG c
  refine hK.out _ _ trivial (fun hHeld => ?_)
  clear hK K
  try simp only [Act.put, lA, lB, lC]
  refine tQ (i := 11) ?_
  try simp only [Act.put, lA, lB, lC]
  refine tQ (i := 12) ?_
  try simp only [Act.put, lA, lB, lC]
  refine tQ (i := 13) ?_
  try simp only [Act.put, lA, lB, lC]
  refine tQ (i := 14) ?_
  try simp only [Act.put, lA, lB, lC]
  refine tQ (i := 15) ?_
  try simp only [Act.put, lA, lB, lC]
  refine rA 16 (fun K hK => ?_)
  have HB2 := zh ((SQ.out.d.block B HBB.out).trans HB.out)
  have ld := Kh HB2.out
  have fz := Ex HB2.out
  go_simp
  clear ld fz
  have e1 := Jv HB2.out 0 (.slice va rs.length vc)
  have e2 := Jv (setRow_heap _ B _ #[.slice va rs.length vc, .int .i64 now, y2, y3, .slice aa qs.length ac, y5, y6, y7] _ (0, 0) HB2.out) 1 (.int .i64 rn)
  rw [setRow_setRow] at e2
  simp only [List.setIfInBounds_toArray, List.set_cons_succ, List.set_cons_zero] at e1 e2
  rw [e1, e2]
  clear e1 e2
  refine hK.out _ _ trivial (fun hHeld => ?_)
  clear hK K
  try simp only [Act.put, lA, lB, lC]
  refine wpAnyH_done (by kernel_rfl) ?_ _
  clear hHeld
  go_wp2
  go_end0
  rw [show recE (ss, now) qs = (rs, rn) from HR.out.symm]
  refine ⟨.slice va rs.length vc, F0, rfl, Ka Jf (Ky O0.out (F' := F0) (fun b h => h.1)) Vk (fun b h q => by have := Q0.out b h; have := HBB.out; omega), Q0.out, setRow_heap _ B _ _ _ (0, 0) HB2.out, (Kb.mono (G := fun _ => False) (Yo SQ.out.d) (fun _ q => q.elim)).trans Vk⟩
end Go.Proofs.YtnepfacnmaoieaaGreatDoor
