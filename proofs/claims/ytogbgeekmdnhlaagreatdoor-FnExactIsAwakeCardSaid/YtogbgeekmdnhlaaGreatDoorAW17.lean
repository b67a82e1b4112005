/-
 Texts of the proof, merged: EngPartP.
-/
import Derived.Test.YtogbgeekmdnhlaaGreatDoorAW3
import Derived.Test.YtogbgeekmdnhlaaGreatDoorAW5
import Derived.Test.YtogbgeekmdnhlaaGreatDoorAW8
import Derived.Test.YtogbgeekmdnhlaaGreatDoorAW11
import Derived.Test.YtogbgeekmdnhlaaGreatDoorAW12
import Derived.Test.YtogbgeekmdnhlaaGreatDoorAW13
import Derived.Test.YtogbgeekmdnhlaaGreatDoorAW14
import Derived.Test.YtogbgeekmdnhlaaGreatDoorAW15
import Derived.Test.YtogbgeekmdnhlaaGreatDoorAW16
import Derived.BigQuiet
import Derived.Deep.QuietTactic
import Derived.Deep.RegionHeld3
namespace Go.Proofs.YtogbgeekmdnhlaaGreatDoor
open Go.RowKit
set_option maxRecDepth 100000
set_option linter.unusedVariables false
set_option linter.unusedSimpArgs false
theorem below10 {w w' : World} {b o : Nat} {y0 y1 y2 y3 y4 y5 y6 y7 y8 y9 : Value} (hb : b < w.heap.size) (h : w.cell? ⟨b, o, none⟩ = some y0 ∧ w.cell? ⟨b, o + 1, none⟩ = some y1 ∧ w.cell? ⟨b, o + 2, none⟩ = some y2 ∧ w.cell? ⟨b, o + 3, none⟩ = some y3 ∧ w.cell? ⟨b, o + 4, none⟩ = some y4 ∧ w.cell? ⟨b, o + 5, none⟩ = some y5 ∧ w.cell? ⟨b, o + 6, none⟩ = some y6 ∧ w.cell? ⟨b, o + 7, none⟩ = some y7 ∧ w.cell? ⟨b, o + 8, none⟩ = some y8 ∧ w.cell? ⟨b, o + 9, none⟩ = some y9) (c : Below w.heap.size w w') : w'.cell? ⟨b, o, none⟩ = some y0 ∧ w'.cell? ⟨b, o + 1, none⟩ = some y1 ∧ w'.cell? ⟨b, o + 2, none⟩ = some y2 ∧ w'.cell? ⟨b, o + 3, none⟩ = some y3 ∧ w'.cell? ⟨b, o + 4, none⟩ = some y4 ∧ w'.cell? ⟨b, o + 5, none⟩ = some y5 ∧ w'.cell? ⟨b, o + 6, none⟩ = some y6 ∧ w'.cell? ⟨b, o + 7, none⟩ = some y7 ∧ w'.cell? ⟨b, o + 8, none⟩ = some y8 ∧ w'.cell? ⟨b, o + 9, none⟩ = some y9 :=
 ⟨(c.cell (p := ⟨b, o, none⟩) hb).trans h.1, (c.cell (p := ⟨b, o + 1, none⟩) hb).trans h.2.1, (c.cell (p := ⟨b, o + 2, none⟩) hb).trans h.2.2.1, (c.cell (p := ⟨b, o + 3, none⟩) hb).trans h.2.2.2.1, (c.cell (p := ⟨b, o + 4, none⟩) hb).trans h.2.2.2.2.1, (c.cell (p := ⟨b, o + 5, none⟩) hb).trans h.2.2.2.2.2.1, (c.cell (p := ⟨b, o + 6, none⟩) hb).trans h.2.2.2.2.2.2.1, (c.cell (p := ⟨b, o + 7, none⟩) hb).trans h.2.2.2.2.2.2.2.1, (c.cell (p := ⟨b, o + 8, none⟩) hb).trans h.2.2.2.2.2.2.2.2.1, (c.cell (p := ⟨b, o + 9, none⟩) hb).trans h.2.2.2.2.2.2.2.2.2⟩
theorem containsInts (v : Value) (xs : List Int) (x : Int) (w : World) (h : Ints w v xs) (hn : xs.length ≤ 1048576) :
  Calls Tryz.prog 133 #[v, .int .i64 x] w fun e w' => e = .returned (.bool (decide (x ∈ xs))) ∧ w' = w := by
 have HI := hd (implIndex v xs x w h hn)
 clear h hn
 go_enter Tryz.func133, Tryz.ntmps133
 go_wp2_with fail
 refine HI.out.mono ?_
 rintro e w1 ⟨⟨n, rfl, hdx, hm⟩, rfl⟩
 go_wp2
 go_ret
 exact ⟨ret_b (by first | rfl | exact decide_eq_decide.2 hdx), rfl⟩
theorem raw1_law : (tRaw 1).Law := tRaw_law (by decide)
theorem info_T_Ptr : ElemInfo (tRaw 1) 108 (.pointer none) := elemInfo_of (by kernel_rfl)
theorem slR_raw1 {w : World} {b : Nat} {t : TypeId} {f : Nat × Nat} {u : Value} (h : w.heap[b]? = some (.cells #[u] t f)) (h1 : u.oneCell' = true) : SlR (tRaw 1) w (.slice (some ⟨b, 0, none⟩) 1 1) [[u]] :=
 Or.inr ⟨b, 0, 1, fun _ => [u], rfl, Nat.le_refl _, (Array.getElem?_eq_some_iff.1 h).1, fun j hj => by
  obtain rfl : j = 0 := by simpa using hj
  refine ⟨fun i hi => ?_, rfl, rfl, fun x hx => by simp at hx; rw [hx]; exact h1⟩
  obtain rfl : i = 0 := by have : i < 1 := hi; omega
  simp [World.cell?, h]⟩
set_option maxHeartbeats 16000000 in
theorem implParts (B : Nat) (now cu st : Int) (sv ov av dv lv : Value) (ss : List (List VerD)) (os : List Int) (qs : List ActD) (ds : List FinD) (ls : List ChargeD) (w : World)
  (hB : w.heap[B]? = some (.cells #[sv, .int .i64 now, .int .i64 cu, ov, av, dv, lv, .int .i64 st] 40 (0, 0))) (h4 : SlR tActive w av qs) (s4 : zL tActive qs ≤ 1048576) (ea : Option Addr) (ec : Nat) (hav : av = .slice ea qs.length ec) :
  Calls Tryz.prog 68 #[.pointer (some ⟨B, 0, none⟩)] w (FreshS 108 (tRaw 1) w ((idxTo cu qs qs.length).map (pC ea))) := by
 subst hav
 have H4 := hd h4
 have S4 := hd s4
 have N4 := zL_len s4
 have HB := hd hB
 have HBB := hd (Array.getElem?_eq_some_iff.1 hB).1
 clear h4 s4 hB
 have SP : Hid (St w [iS 108 raw1_law (fun _ => False) (.slice none 0 0) ([] : List (List Value))] w) := hd ((St.init w).none raw1_law 108)
 have ld := cell8 HB.out
 go_enter Tryz.func68, Tryz.ntmps68
 go_wp2
 clear ld
 go_loopw [3, 11] (fun ov i wr => ∃ (k : Nat) (F : Nat → Prop), k ≤ qs.length ∧ i = .int .i64 k ∧ Hid (St w [iS 108 raw1_law F ov ((idxTo cu qs k).map (pC ea))] wr)) (fun _ i _ => qs.length - (intOf i).toNat)
 case atStart => exact ⟨0, _, Nat.zero_le _, rfl, SP⟩
 case round =>
  obtain ⟨k, F, hk, rfl, SQ⟩ := hrel
  clear SP
  by_cases hlt : k < qs.length
  ·
   have i1 : (0 : Int) ≤ (k : Int) := by omega
   have i2 : (k : Int) < (qs.length : Int) := by omega
   have HY := hd (fun h => idxTo_yes (c := cu) (l := qs) (k := k) h)
   have HN := hd (fun h => idxTo_no (c := cu) (l := qs) (k := k) h)
   obtain ⟨b, off, cap', p2, c2, p3, c3, p5, c5, p9, c9, hv, hbl, r0, r1, r2, r3, r4, r5, r6, r7, r8, r9, s2, s3, s5, s9⟩ := act_at H4.out hlt
   simp only [Value.slice.injEq] at hv
   obtain ⟨rfl, _, rfl⟩ := hv
   have S5A := hd s5
   have HBL := hd hbl
   have EE := hd (And.intro r0 (And.intro r1 (And.intro r2 (And.intro r3 (And.intro r4 (And.intro r5 (And.intro r6 (And.intro r7 (And.intro r8 r9)))))))))
   have Z5 := hd (todo_len S4.out hlt)
   have HL : Hid ((idxTo cu qs k).length ≤ 1048576) := hd (Nat.le_trans (idxTo_len cu qs k) (by omega))
   clear r0 r1 r2 r3 r4 r5 r6 r7 r8 r9 s2 s3 s5 s9 hbl
   generalize qs.getD k a0D = x at *
   rcases Bool.eq_false_or_eq_true (awB x) with haw | haw
   ·
    have ld := cell8 ((SQ.out.d.block B HBB.out).trans HB.out)
    go_wp2
    clear ld
    refine wp_region_held_drew (S := fun w' => Below w.heap.size w w') (by kernel_rfl) SQ.out.drew.d (fun hHeld => ?_)
    replace SQ := hd SQ.out.drew
    generalize wr.drew = W3 at *
    refine tR (i := 0) (v := ?_) ?_ ?_; rotate_left
    ·
     intro w hSw; (try dsimp only at hSw); have el := below10 HBL.out EE.out hSw; have ld := cell8 ((hSw.block B HBB.out).trans HB.out); go_simp; try (with_reducible rfl)
    try simp only [Act.put, lA, lB, lC]
    refine tR (i := 1) (v := ?_) ?_ ?_; rotate_left
    ·
     intro w hSw; (try dsimp only at hSw); have el := below10 HBL.out EE.out hSw; have ld := cell8 ((hSw.block B HBB.out).trans HB.out); go_simp; try (with_reducible rfl)
    try simp only [Act.put, lA, lB, lC]
    refine tR (i := 2) (v := ?_) ?_ ?_; rotate_left
    ·
     intro w hSw; (try dsimp only at hSw); have el := below10 HBL.out EE.out hSw; have ld := cell8 ((hSw.block B HBB.out).trans HB.out); go_simp; try (with_reducible rfl)
    try simp only [Act.put, lA, lB, lC]
    refine rA 3 (fun K hK => ?_)
    go_simp
    refine (implAwk x.1.1 x.1.2.1 x.2.1 x.2.2.2.1 x.2.2.2.2.1 x.2.2.2.2.2.1 p2 p3 p5 p9 x.1.2.2.1.length c2 x.1.2.2.2.length c3 x.2.2.1.length c5 x.2.2.2.2.2.2.length c9 W3).mono ?_
    rintro e W4 ⟨rfl, c⟩
    replace SQ := hd (SQ.out.below c)
    clear c
    rw [show decide (x.2.2.2.2.2.1 = 0 ∨ x.2.2.2.2.1 < x.2.2.2.2.2.1) = true from haw]
    refine hK.out _ _ SQ.out.d (fun hHeld => ?_)
    clear hK K
    try simp only [Act.put, lA, lB, lC]
    refine tR (i := 4) (v := ?_) ?_ ?_; rotate_left
    ·
     intro w hSw; (try dsimp only at hSw); have el := below10 HBL.out EE.out hSw; have ld := cell8 ((hSw.block B HBB.out).trans HB.out); go_simp; try (with_reducible rfl)
    try simp only [Act.put, lA, lB, lC]
    refine tR (i := 5) (v := ?_) ?_ ?_; rotate_left
    ·
     intro w hSw; (try dsimp only at hSw); have el := below10 HBL.out EE.out hSw; have ld := cell8 ((hSw.block B HBB.out).trans HB.out); go_simp; try (with_reducible rfl)
    try simp only [Act.put, lA, lB, lC]
    refine tR (i := 6) (v := ?_) ?_ ?_; rotate_left
    ·
     intro w hSw; (try dsimp only at hSw); have el := below10 HBL.out EE.out hSw; have ld := cell8 ((hSw.block B HBB.out).trans HB.out); go_simp; try (with_reducible rfl)
    try simp only [Act.put, lA, lB, lC]
    refine tR (i := 7) (v := ?_) ?_ ?_; rotate_left
    ·
     intro w hSw; (try dsimp only at hSw); have el := below10 HBL.out EE.out hSw; have ld := cell8 ((hSw.block B HBB.out).trans HB.out); go_simp; try (with_reducible rfl)
    try simp only [Act.put, lA, lB, lC]
    refine tR (i := 8) (v := ?_) ?_ ?_; rotate_left
    ·
     intro w hSw; (try dsimp only at hSw); have el := below10 HBL.out EE.out hSw; have ld := cell8 ((hSw.block B HBB.out).trans HB.out); go_simp; try (with_reducible rfl)
    try simp only [Act.put, lA, lB, lC]
    refine tR (i := 9) (v := ?_) ?_ ?_; rotate_left
    ·
     intro w hSw; (try dsimp only at hSw); have el := below10 HBL.out EE.out hSw; have ld := cell8 ((hSw.block B HBB.out).trans HB.out); go_simp; try (with_reducible rfl)
    try simp only [Act.put, lA, lB, lC]
    refine tR (i := 10) (v := ?_) ?_ ?_; rotate_left
    ·
     intro w hSw; (try dsimp only at hSw); have el := below10 HBL.out EE.out hSw; have ld := cell8 ((hSw.block B HBB.out).trans HB.out); go_simp; try (with_reducible rfl)
    try simp only [Act.put, lA, lB, lC]
    refine tR (i := 11) (v := ?_) ?_ ?_; rotate_left
    ·
     intro w hSw; (try dsimp only at hSw); have el := below10 HBL.out EE.out hSw; have ld := cell8 ((hSw.block B HBB.out).trans HB.out); go_simp; try (with_reducible rfl)
    try simp only [Act.put, lA, lB, lC]
    refine tR (i := 12) (v := ?_) ?_ ?_; rotate_left
    ·
     intro w hSw; (try dsimp only at hSw); have el := below10 HBL.out EE.out hSw; have ld := cell8 ((hSw.block B HBB.out).trans HB.out); go_simp; try (with_reducible rfl)
    try simp only [Act.put, lA, lB, lC]
    refine rA 13 (fun K hK => ?_)
    go_simp
    refine (containsInts (.slice p5 x.2.2.1.length c5) x.2.2.1 cu W4 (slR_ints (slR_below tInt_law S5A.out SQ.out.d)) Z5.out).mono ?_
    rintro e wx ⟨rfl, hwx⟩
    obtain rfl := hwx.symm
    refine hK.out _ _ SQ.out.d (fun hHeld => ?_)
    clear hK K
    try simp only [Act.put, lA, lB, lC]
    refine tR (i := 14) (v := ?_) ?_ ?_; rotate_left
    ·
     intro w hSw; (try dsimp only at hSw); have el := below10 HBL.out EE.out hSw; have ld := cell8 ((hSw.block B HBB.out).trans HB.out); go_simp; try (with_reducible rfl)
    try simp only [Act.put, lA, lB, lC]
    refine wpAnyH_done (by kernel_rfl) ?_ _
    clear hHeld
    by_cases hm : cu ∈ x.2.2.1
    ·
     rw [decide_eq_true hm]
     have HT : Hid ((idxTo cu qs (k + 1)).map (pC (some ⟨b, off, none⟩)) = (idxTo cu qs k).map (pC (some ⟨b, off, none⟩)) ++ [[.pointer (some ⟨b, off + k * 10, none⟩)]]) := hd (by rw [HY.out (by unfold partB; rw [haw, decide_eq_true hm]; rfl), List.map_append]; simp [pC, Addr.add])
     clear HY HN haw hm
     have SA := hd (SQ.out.alloc (.cells #[.pointer (some ⟨b, off + k * 10, none⟩)] 108))
     go_wp2_with (at_builtin; refine append_flat raw1_law (flat_raw 1) info_T_Ptr Tryz.underlying106 rfl rfl (.tmp 35) (.tmp 37) rfl F (fun b => F b ∨ b = _) u3 _ ((idxTo cu qs k).map (pC (some ⟨b, off, none⟩))) [[.pointer (some ⟨b, off + k * 10, none⟩)]] rfl rfl (SA.out.gS 0 rfl) (slR_raw1 (heap_alloc_new _ _) rfl) (fun _ h => Or.inl h) (Or.inr rfl) (by have := HL.out; simp; omega) ?_)
     intro v' W6 oN tN
     obtain ⟨F2, sp⟩ := SA.out.appS 0 rfl oN tN (fun b h => h.imp_right (fun q => by rw [q]; simp))
     replace SQ := hd sp
     clear sp oN tN SA
     go_wp2
     go_roundw
     case rel => exact ⟨k + 1, F2, by omega, by go_num, by rw [HT.out]; exact SQ⟩
     case measure => simp [intOf]; omega
    ·
     rw [decide_eq_false hm]
     have HT : Hid (idxTo cu qs (k + 1) = idxTo cu qs k) := hd (HN.out (by unfold partB; rw [haw, decide_eq_false hm]; rfl))
     clear HY HN haw hm
     go_wp2
     go_roundw
     case rel => exact ⟨k + 1, F, by omega, by go_num, by rw [HT.out]; exact SQ⟩
     case measure => simp [intOf]; omega
   ·
    have ld := cell8 ((SQ.out.d.block B HBB.out).trans HB.out)
    go_wp2
    clear ld
    refine wp_region_held_drew (S := fun w' => Below w.heap.size w w') (by kernel_rfl) SQ.out.drew.d (fun hHeld => ?_)
    replace SQ := hd SQ.out.drew
    generalize wr.drew = W3 at *
    refine tR (i := 0) (v := ?_) ?_ ?_; rotate_left
    ·
     intro w hSw; (try dsimp only at hSw); have el := below10 HBL.out EE.out hSw; have ld := cell8 ((hSw.block B HBB.out).trans HB.out); go_simp; try (with_reducible rfl)
    try simp only [Act.put, lA, lB, lC]
    refine tR (i := 1) (v := ?_) ?_ ?_; rotate_left
    ·
     intro w hSw; (try dsimp only at hSw); have el := below10 HBL.out EE.out hSw; have ld := cell8 ((hSw.block B HBB.out).trans HB.out); go_simp; try (with_reducible rfl)
    try simp only [Act.put, lA, lB, lC]
    refine tR (i := 2) (v := ?_) ?_ ?_; rotate_left
    ·
     intro w hSw; (try dsimp only at hSw); have el := below10 HBL.out EE.out hSw; have ld := cell8 ((hSw.block B HBB.out).trans HB.out); go_simp; try (with_reducible rfl)
    try simp only [Act.put, lA, lB, lC]
    refine rA 3 (fun K hK => ?_)
    go_simp
    refine (implAwk x.1.1 x.1.2.1 x.2.1 x.2.2.2.1 x.2.2.2.2.1 x.2.2.2.2.2.1 p2 p3 p5 p9 x.1.2.2.1.length c2 x.1.2.2.2.length c3 x.2.2.1.length c5 x.2.2.2.2.2.2.length c9 W3).mono ?_
    rintro e W4 ⟨rfl, c⟩
    replace SQ := hd (SQ.out.below c)
    clear c
    rw [show decide (x.2.2.2.2.2.1 = 0 ∨ x.2.2.2.2.1 < x.2.2.2.2.2.1) = false from haw]
    refine hK.out _ _ SQ.out.d (fun hHeld => ?_)
    clear hK K
    try simp only [Act.put, lA, lB, lC]
    refine tR (i := 4) (v := ?_) ?_ ?_; rotate_left
    ·
     intro w hSw; (try dsimp only at hSw); have el := below10 HBL.out EE.out hSw; have ld := cell8 ((hSw.block B HBB.out).trans HB.out); go_simp; try (with_reducible rfl)
    try simp only [Act.put, lA, lB, lC]
    refine tO (i := 5) ?_
    try simp only [Act.put, lA, lB, lC]
    refine tO (i := 6) ?_
    try simp only [Act.put, lA, lB, lC]
    refine tO (i := 7) ?_
    try simp only [Act.put, lA, lB, lC]
    refine tO (i := 8) ?_
    try simp only [Act.put, lA, lB, lC]
    refine tO (i := 9) ?_
    try simp only [Act.put, lA, lB, lC]
    refine tO (i := 10) ?_
    try simp only [Act.put, lA, lB, lC]
    refine tO (i := 11) ?_
    try simp only [Act.put, lA, lB, lC]
    refine tO (i := 12) ?_
    try simp only [Act.put, lA, lB, lC]
    refine tO (i := 13) ?_
    try simp only [Act.put, lA, lB, lC]
    refine tR (i := 14) (v := ?_) ?_ ?_; rotate_left
    ·
     intro w hSw; (try dsimp only at hSw); have el := below10 HBL.out EE.out hSw; have ld := cell8 ((hSw.block B HBB.out).trans HB.out); go_simp; try (with_reducible rfl)
    try simp only [Act.put, lA, lB, lC]
    refine wpAnyH_done (by kernel_rfl) ?_ _
    clear hHeld
    have HT : Hid (idxTo cu qs (k + 1) = idxTo cu qs k) := hd (HN.out (by unfold partB; rw [haw]; rfl))
    clear HY HN haw
    go_wp2
    go_roundw
    case rel => exact ⟨k + 1, F, by omega, by go_num, by rw [HT.out]; exact SQ⟩
    case measure => simp [intOf]; omega
  ·
   obtain rfl : k = qs.length := by omega
   go_wp2
   go_ret
   exact ⟨_, rfl, SQ.out.outS 0 rfl, SQ.out.d⟩
set_option maxHeartbeats 16000000 in
theorem implParticipants (now cu st : Int) (sv ov av dv lv : Value) (ss : List (List VerD)) (os : List Int) (qs : List ActD) (ds : List FinD) (ls : List ChargeD) (w : World) (hT : OrdT w)
  (h0 : SlR tVersionS w sv ss) (h3 : SlR tInt w ov os) (h4 : SlR tActive w av qs) (h5 : SlR tFinished w dv ds) (h6 : SlR tCharge w lv ls) (hs : zL tVersionS ss + zL tInt os + zL tActive qs + zL tFinished ds + zL tCharge ls ≤ 1048576) :
  Calls Tryz.prog 18 #[.agg #[sv, .int .i64 now, .int .i64 cu, ov, av, dv, lv, .int .i64 st]] w (FreshS 3 tInt w (partE ((ss, now), cu, os, qs, ds, ls, st))) := by
 have S0 : Hid (zL tVersionS ss ≤ 1048576) := hd (by omega)
 have S3 : Hid (zL tInt os ≤ 1048576) := hd (by omega)
 have S4 : Hid (zL tActive qs ≤ 1048576) := hd (by omega)
 have S5 : Hid (zL tFinished ds ≤ 1048576) := hd (by omega)
 have S6 : Hid (zL tCharge ls ≤ 1048576) := hd (by omega)
 have HS := hd hs
 clear hs
 obtain ⟨e0, n0, rfl⟩ := slR_len h0
 have H0 := hd h0
 obtain ⟨e3, n3, rfl⟩ := slR_len h3
 have H3 := hd h3
 obtain ⟨e4, n4, rfl⟩ := slR_len h4
 have H4 := hd h4
 obtain ⟨e5, n5, rfl⟩ := slR_len h5
 have H5 := hd h5
 obtain ⟨e6, n6, rfl⟩ := slR_len h6
 have H6 := hd h6
 clear h0 h3 h4 h5 h6
 have N4 := zL_len S4.out
 have HTB := hd hT
 clear hT
 have SP : Hid (St w [iB w.heap.size [.slice e0 ss.length n0, .int .i64 now, .int .i64 cu, .slice e3 os.length n3, .slice e4 qs.length n4, .slice e5 ds.length n5, .slice e6 ls.length n6, .int .i64 st] 40] (w.alloc (.cells #[.slice e0 ss.length n0, .int .i64 now, .int .i64 cu, .slice e3 os.length n3, .slice e4 qs.length n4, .slice e5 ds.length n5, .slice e6 ls.length n6, .int .i64 st] 40))) := hd ((St.init w).box [.slice e0 ss.length n0, .int .i64 now, .int .i64 cu, .slice e3 os.length n3, .slice e4 qs.length n4, .slice e5 ds.length n5, .slice e6 ls.length n6, .int .i64 st] 40)
 go_enter Tryz.func18, Tryz.ntmps18
 have ld := cell8 (SP.out.gB 0 rfl)
 go_wp2_with fail
 clear ld
 generalize (w.alloc (.cells #[.slice e0 ss.length n0, .int .i64 now, .int .i64 cu, .slice e3 os.length n3, .slice e4 qs.length n4, .slice e5 ds.length n5, .slice e6 ls.length n6, .int .i64 st] 40)) = W at *
 refine (implIsEngine now cu st (.slice e0 ss.length n0) (.slice e3 os.length n3) (.slice e4 qs.length n4) (.slice e5 ds.length n5) (.slice e6 ls.length n6) ss os qs ds ls W (HTB.out.on SP.out.d) (slR_below tVersionS_law H0.out SP.out.d) (slR_below tInt_law H3.out SP.out.d) (slR_below tActive_law H4.out SP.out.d) (slR_below tFinished_law H5.out SP.out.d) (slR_below tCharge_law H6.out SP.out.d) HS.out).mono ?_
 rintro e W1 ⟨rfl, c⟩
 replace SP := hd (SP.out.below c)
 clear c
 rcases Bool.eq_false_or_eq_true (engB ((ss, now), cu, os, qs, ds, ls, st)) with he | he
 rotate_left
 ·
  rw [he]
  have HR := hd (partE_no he)
  clear he
  go_wp2
  go_ret
  exact ⟨_, rfl, by rw [HR.out]; exact slO_nil _ _ _ _, SP.out.d⟩
 rw [he]
 have HR := hd (partE_yes he)
 clear he
 go_wp2_with fail
 refine (implParts w.heap.size now cu st (.slice e0 ss.length n0) (.slice e3 os.length n3) (.slice e4 qs.length n4) (.slice e5 ds.length n5) (.slice e6 ls.length n6) ss os qs ds ls W1 (SP.out.gB 0 rfl) (slR_below tActive_law H4.out SP.out.d) S4.out e4 n4 rfl).mono ?_
 rintro e W2 ⟨pv, rfl, o, c⟩
 obtain ⟨pa, pc, rfl⟩ := slO_len o
 obtain ⟨FP, sp⟩ := SP.out.pushSE raw1_law c o (fun b h => h)
 replace SP := hd (sp.none tInt_law 3)
 clear o c sp
 obtain ⟨M, hM⟩ : ∃ M, M = (idxTo cu qs qs.length).length := ⟨_, rfl⟩
 have HM := hd hM
 have hMl : M ≤ 1048576 := by rw [hM]; exact Nat.le_trans (idxTo_len _ _ _) N4
 have HE : Hid (((idxTo cu qs qs.length).map (pC e4)).length = M) := hd (by rw [hM]; simp)
 have HIX := hd (idx_ids cu qs qs.length (Nat.le_refl _))
 rw [HE.out]
 clear hM
 go_wp2
 go_loopw [3, 11] (fun ov i wr => ∃ (j : Nat) (F : Nat → Prop), j ≤ M ∧ i = .int .i64 j ∧ Hid (St w [iS 3 tInt_law F ov (((idxTo cu qs qs.length).take j).map (idOf qs)), iS 108 raw1_law FP (.slice pa ((idxTo cu qs qs.length).map (pC e4)).length pc) ((idxTo cu qs qs.length).map (pC e4)), iB w.heap.size [.slice e0 ss.length n0, .int .i64 now, .int .i64 cu, .slice e3 os.length n3, .slice e4 qs.length n4, .slice e5 ds.length n5, .slice e6 ls.length n6, .int .i64 st] 40] wr)) (fun _ i _ => M - (intOf i).toNat)
 case atStart => exact ⟨0, _, Nat.zero_le _, rfl, SP⟩
 case round =>
  obtain ⟨j, F, hj, rfl, SQ⟩ := hrel
  clear SP
  by_cases hlt : j < M
  ·
   have i1 : (0 : Int) ≤ (j : Int) := by omega
   have i2 : (j : Int) < (M : Int) := by omega
   have hjl : j < (idxTo cu qs qs.length).length := by rw [← HM.out]; exact hlt
   obtain ⟨g, go, gc, cs, hg, hgb, hgc, hgR⟩ := slR_at (SQ.out.rS 1 rfl) (k := j) (by rw [HE.out]; exact hlt)
   rw [HE.out] at hg
   simp only [Value.slice.injEq] at hg
   obtain ⟨rfl, _, rfl⟩ := hg
   have hi := idxTo_lt hjl
   have HT := hd (map_take (idOf qs) 0 hjl)
   have hcs : cs = pC e4 ((idxTo cu qs qs.length).getD j 0) := by have h1 := hgR.1; rw [h1]; simp [List.getD, hjl]
   clear hgR
   subst hcs
   have HL : Hid (((idxTo cu qs qs.length).take j).length ≤ 1048576) := hd (by rw [List.length_take]; omega)
   generalize (idxTo cu qs qs.length).getD j 0 = k at *
   obtain ⟨b, off, cap', p2, c2, p3, c3, p5, c5, p9, c9, hv, hbl, r0, r1, r2, r3, r4, r5, r6, r7, r8, r9, s2, s3, s5, s9⟩ := act_at H4.out hi
   simp only [Value.slice.injEq] at hv
   obtain ⟨rfl, _, rfl⟩ := hv
   have q0 := (SQ.out.d.cell (p := ⟨b, off + k * 10, none⟩) hbl).trans r0
   have qp : wr.cell? ⟨g, go + j, none⟩ = some (.pointer (some ⟨b, off + k * 10, none⟩)) := by have := hgc 0 (by decide); rw [show (tRaw 1).n = 1 from rfl, Nat.mul_one, Nat.add_zero] at this; rw [this]; simp [pC, Addr.add]
   clear r0 r1 r2 r3 r4 r5 r6 r7 r8 r9 s2 s3 s5 s9 hbl hgc
   change Hid (_ = _ ++ [(qs.getD k a0D).1.1]) at HT
   generalize (qs.getD k a0D).1.1 = id at *
   have SA := hd (SQ.out.alloc (.cells #[.int .i64 id] 3))
   go_wp2_with (at_builtin; refine append_flat tInt_law flat_int info_T_int Tryz.underlying25 rfl rfl (.tmp 15) (.tmp 21) rfl F (fun b => F b ∨ b = _) u3 _ (((idxTo cu qs qs.length).take j).map (idOf qs)) [id] rfl rfl (SA.out.gS 0 rfl) (slR_num (heap_alloc_new _ _)) (fun _ h => Or.inl h) (Or.inr rfl) (by have := HL.out; simp; omega) ?_)
   intro v' W6 oN tN
   rw [← List.map_take] at oN
   obtain ⟨F2, sp⟩ := SA.out.appS 0 rfl oN tN (fun b h => h.imp_right (fun q => by rw [q]; simp))
   replace SQ := hd sp
   clear sp oN tN SA q0 qp
   go_wp2
   go_roundw
   case rel => exact ⟨j + 1, F2, by omega, by go_num, by rw [HT.out]; exact SQ⟩
   case measure => simp [intOf]; omega
  ·
   obtain rfl : j = M := by omega
   have HF : Hid (((idxTo cu qs qs.length).take j).map (idOf qs) = partE ((ss, now), cu, os, qs, ds, ls, st)) := hd (by rw [HM.out, List.take_length, HIX.out, HR.out])
   go_wp2
   go_ret
   exact ⟨_, rfl, by rw [← HF.out]; exact SQ.out.outS 0 rfl, SQ.out.d⟩
end Go.Proofs.YtogbgeekmdnhlaaGreatDoor
