/-
 Texts of the proof, merged: Uni, EngPart.
-/
import Derived.Test.YtogbgeekmdnhlaaGreatDoorAW3
import Derived.Test.YtogbgeekmdnhlaaGreatDoorAW5
import Derived.Test.YtogbgeekmdnhlaaGreatDoorAW8
import Derived.Test.YtogbgeekmdnhlaaGreatDoorAW12
import Derived.Test.YtogbgeekmdnhlaaGreatDoorAW13
import Derived.Test.YtogbgeekmdnhlaaGreatDoorAW14
import Derived.BigQuiet
import Derived.Deep.QuietTactic
import Derived.Deep.RegionHeld3
namespace Go.Proofs.YtogbgeekmdnhlaaGreatDoor
open Go.RowKit
set_option linter.unusedVariables false
set_option linter.unusedSimpArgs false
/-- Which operation a goal is about. -/
inductive Tok : Nat → Prop
 | mk (i : Nat) : Tok i
section
variable {P : Program} {md : Region.Mode} {ops : Array Oper} {Q : Exit → Act → World → Prop} {S : World → Prop} {fuel : Nat} {listed : Array Bool} {a : Act} {w : World}
theorem uA {α : Type} (xs : List α) (i : Nat) : xs.toArray[i]? = xs[i]? := List.getElem?_toArray
theorem uB {α : Type} (a : α) (l : List α) (i : Nat) : (a :: l)[i + 1]? = l[i]? := List.getElem?_cons_succ
theorem uC {α : Type} (a : α) (l : List α) : (a :: l)[0]? = some a := List.getElem?_cons_zero
theorem u1 (i : Nat) {o : Oper} (h : ∀ K' : Act → World → Prop, Shut (∀ a w, S w → (S w → wpAnyH P md ops Q S fuel (listed.setIfInBounds i true) a w) → K' a w) → Tok i → if Region.wanted o (yielded ops a.tmps) = true then Oper.wp P o a w K' Q else K' (a.put o.dst undef) w)
  (hr : Region.ready md ops listed = [i] := by decide +kernel) (ho : ops[i]? = some o := by (simp only [uA, uB, uC]; rfl)) : wpAnyH P md ops Q S (fuel + 1) listed a w :=
 wpAnyH_ready hr (by simp) (AllReadyH.cons ho (fun K hK => h K hK (.mk i)) AllReadyH.nil)
theorem u2 (i j : Nat) {o p : Oper} (h : ∀ K' : Act → World → Prop, Shut (∀ a w, S w → (S w → wpAnyH P md ops Q S fuel (listed.setIfInBounds i true) a w) → K' a w) → Tok i → if Region.wanted o (yielded ops a.tmps) = true then Oper.wp P o a w K' Q else K' (a.put o.dst undef) w)
  (g : ∀ K' : Act → World → Prop, Shut (∀ a w, S w → (S w → wpAnyH P md ops Q S fuel (listed.setIfInBounds j true) a w) → K' a w) → Tok j → if Region.wanted p (yielded ops a.tmps) = true then Oper.wp P p a w K' Q else K' (a.put p.dst undef) w)
  (hr : Region.ready md ops listed = [i, j] := by decide +kernel) (ho : ops[i]? = some o := by (simp only [uA, uB, uC]; rfl)) (hp : ops[j]? = some p := by (simp only [uA, uB, uC]; rfl)) : wpAnyH P md ops Q S (fuel + 1) listed a w :=
 wpAnyH_ready hr (by simp) (AllReadyH.cons ho (fun K hK => h K hK (.mk i)) (AllReadyH.cons hp (fun K hK => g K hK (.mk j)) AllReadyH.nil))
theorem u3 (i j k : Nat) {o p q : Oper} (h : ∀ K' : Act → World → Prop, Shut (∀ a w, S w → (S w → wpAnyH P md ops Q S fuel (listed.setIfInBounds i true) a w) → K' a w) → Tok i → if Region.wanted o (yielded ops a.tmps) = true then Oper.wp P o a w K' Q else K' (a.put o.dst undef) w)
  (g : ∀ K' : Act → World → Prop, Shut (∀ a w, S w → (S w → wpAnyH P md ops Q S fuel (listed.setIfInBounds j true) a w) → K' a w) → Tok j → if Region.wanted p (yielded ops a.tmps) = true then Oper.wp P p a w K' Q else K' (a.put p.dst undef) w)
  (f : ∀ K' : Act → World → Prop, Shut (∀ a w, S w → (S w → wpAnyH P md ops Q S fuel (listed.setIfInBounds k true) a w) → K' a w) → Tok k → if Region.wanted q (yielded ops a.tmps) = true then Oper.wp P q a w K' Q else K' (a.put q.dst undef) w)
  (hr : Region.ready md ops listed = [i, j, k] := by decide +kernel) (ho : ops[i]? = some o := by (simp only [uA, uB, uC]; rfl)) (hp : ops[j]? = some p := by (simp only [uA, uB, uC]; rfl)) (hq : ops[k]? = some q := by (simp only [uA, uB, uC]; rfl)) : wpAnyH P md ops Q S (fuel + 1) listed a w :=
 wpAnyH_ready hr (by simp) (AllReadyH.cons ho (fun K hK => h K hK (.mk i)) (AllReadyH.cons hp (fun K hK => g K hK (.mk j)) (AllReadyH.cons hq (fun K hK => f K hK (.mk k)) AllReadyH.nil)))
end
theorem todo_len {qs : List ActD} {N : Nat} (h : zL tActive qs ≤ N) {k : Nat} (hk : k < qs.length) : (qs.getD k a0D).2.2.1.length ≤ N := by
 have h1 := zL_at h hk
 change tActive.sz (qs.getD k a0D) ≤ N at h1
 generalize qs.getD k a0D = x at *
 obtain ⟨⟨a0, a1, x2, x3⟩, a4, x5, a6, a7, a8, x9⟩ := x
 rw [tActive_sz, zL_ints x5] at h1
 show x5.length ≤ N
 omega
set_option maxHeartbeats 16000000 in
set_option maxRecDepth 100000 in
theorem specParticipants (now cu st : Int) (sv ov av dv lv : Value) (ss : List (List VerD)) (os : List Int) (qs : List ActD) (ds : List FinD) (ls : List ChargeD) (w : World)
  (h0 : SlR tVersionS w sv ss) (h3 : SlR tInt w ov os) (h4 : SlR tActive w av qs) (h5 : SlR tFinished w dv ds) (h6 : SlR tCharge w lv ls) (hs : zL tVersionS ss + zL tInt os + zL tActive qs + zL tFinished ds + zL tCharge ls ≤ 1048576) :
  Calls Tryz.prog 17 #[.agg #[sv, .int .i64 now, .int .i64 cu, ov, av, dv, lv, .int .i64 st]] w (FreshS 3 tInt w (partE ((ss, now), cu, os, qs, ds, ls, st))) := by
 have S0 : Hid (zL tVersionS ss ≤ 1048576) := hd (by omega)
 have S3 : Hid (zL tInt os ≤ 1048576) := hd (by omega)
 have S4 : Hid (zL tActive qs ≤ 1048576) := hd (by omega)
 have S5 : Hid (zL tFinished ds ≤ 1048576) := hd (by omega)
 have S6 : Hid (zL tCharge ls ≤ 1048576) := hd (by omega)
 have HS := hd hs
 clear hs
 obtain ⟨e0, n0, rfl⟩ := slR_len h0
 have H0 := hd h0
 obtain ⟨e3, n3, rfl⟩ := slR_len h3
 have H3 := hd h3
 obtain ⟨e4, n4, rfl⟩ := slR_len h4
 have H4 := hd h4
 obtain ⟨e5, n5, rfl⟩ := slR_len h5
 have H5 := hd h5
 obtain ⟨e6, n6, rfl⟩ := slR_len h6
 have H6 := hd h6
 clear h0 h3 h4 h5 h6
 have N4 := zL_len S4.out
 have SP : Hid (St w [iS 3 tInt_law (fun b => b = w.heap.size + 1) (.slice (some ⟨w.heap.size + 1, 0, none⟩) 0 0) [], iB w.heap.size [.slice e0 ss.length n0, .int .i64 now, .int .i64 cu, .slice e3 os.length n3, .slice e4 qs.length n4, .slice e5 ds.length n5, .slice e6 ls.length n6, .int .i64 st] 40] ((w.alloc (.cells #[.slice e0 ss.length n0, .int .i64 now, .int .i64 cu, .slice e3 os.length n3, .slice e4 qs.length n4, .slice e5 ds.length n5, .slice e6 ls.length n6, .int .i64 st] 40)).alloc (.cells #[] 3))) := hd (by have := ((St.init w).box [.slice e0 ss.length n0, .int .i64 now, .int .i64 cu, .slice e3 os.length n3, .slice e4 qs.length n4, .slice e5 ds.length n5, .slice e6 ls.length n6, .int .i64 st] 40).empty tInt_law 3; simpa only [World.size_alloc] using this)
 go_enter Tryz.func17, Tryz.ntmps17
 go_wp2
 go_loopw [3, 4] (fun ov i wr => ∃ (k : Nat) (F : Nat → Prop), k ≤ qs.length ∧ i = .int .i64 k ∧ Hid (engB ((ss, now), cu, os, qs, ds, ls, st) = true ∨ k = 0) ∧ Hid (St w [iS 3 tInt_law F ov (partTo cu qs k), iB w.heap.size [.slice e0 ss.length n0, .int .i64 now, .int .i64 cu, .slice e3 os.length n3, .slice e4 qs.length n4, .slice e5 ds.length n5, .slice e6 ls.length n6, .int .i64 st] 40] wr)) (fun _ i _ => qs.length - (intOf i).toNat)
 case atStart => exact ⟨0, _, Nat.zero_le _, rfl, hd (Or.inr rfl), by rw [partTo_zero]; exact SP⟩
 case round =>
  obtain ⟨k, F, hk, rfl, hcase, SQ⟩ := hrel
  clear SP
  by_cases hlt : k < qs.length
  ·
   have i1 : (0 : Int) ≤ (k : Int) := by omega
   have i2 : (k : Int) < (qs.length : Int) := by omega
   have ld := cell8 (SQ.out.gB 1 rfl)
   go_wp2_with fail
   clear ld
   refine (specIsEngine now cu st (.slice e0 ss.length n0) (.slice e3 os.length n3) (.slice e4 qs.length n4) (.slice e5 ds.length n5) (.slice e6 ls.length n6) ss os qs ds ls wr (slR_below tVersionS_law H0.out SQ.out.d) (slR_below tInt_law H3.out SQ.out.d) (slR_below tActive_law H4.out SQ.out.d) (slR_below tFinished_law H5.out SQ.out.d) (slR_below tCharge_law H6.out SQ.out.d) HS.out).mono ?_
   rintro e W2 ⟨rfl, c⟩
   replace SQ := hd (SQ.out.below c)
   clear c
   rcases Bool.eq_false_or_eq_true (engB ((ss, now), cu, os, qs, ds, ls, st)) with he | he
   rotate_left
   ·
    rw [he]
    have HR : Hid (partE ((ss, now), cu, os, qs, ds, ls, st) = partTo cu qs k) := hd (hcase.out.elim (fun g => absurd g (by rw [he]; decide)) (fun g => by rw [partE_no he, g, partTo_zero]))
    clear he
    go_wp2
    go_ret
    exact ⟨_, rfl, by rw [HR.out]; exact SQ.out.outS 0 rfl, SQ.out.d⟩
   rw [he]
   have HE := hd he
   clear he hcase
   have HA : Hid (awakeB ((ss, now), cu, os, qs, ds, ls, st) (k : Int) = awB (qs.getD k a0D)) := hd (awake_at HE.out hlt)
   have HY := hd (fun h => partTo_yes (c := cu) (l := qs) hlt h)
   have HN := hd (fun h => partTo_no (c := cu) (l := qs) hlt h)
   obtain ⟨b, off, cap', p2, c2, p3, c3, p5, c5, p9, c9, hv, hbl, r0, r1, r2, r3, r4, r5, r6, r7, r8, r9, s2, s3, s5, s9⟩ := act_at H4.out hlt
   simp only [Value.slice.injEq] at hv
   obtain ⟨rfl, _, rfl⟩ := hv
   have S5A := hd s5
   have HBL := hd hbl
   have E5 := hd r5
   have E0 := hd r0
   have Z5 := hd (show (qs.getD k a0D).2.2.1.length ≤ 1048576 from todo_len S4.out hlt)
   clear r0 r1 r2 r3 r4 r5 r6 r7 r8 r9 s2 s3 s5 s9 hbl
   generalize qs.getD k a0D = x at *
   rcases Bool.eq_false_or_eq_true (awB x) with haw | haw
   ·
    go_wp2
    refine wp_region_held_drew (S := (fun w' => w'.heap[w.heap.size]? = some (.cells #[.slice e0 ss.length n0, .int .i64 now, .int .i64 cu, .slice e3 os.length n3, .slice (some ⟨b, off, none⟩) qs.length n4, .slice e5 ds.length n5, .slice e6 ls.length n6, .int .i64 st] 40 (0, 0)) ∧ w'.cell? ⟨b, off + k * 10 + 5, none⟩ = some (.slice p5 x.2.2.1.length c5))) (by kernel_rfl) ⟨SQ.out.gB 1 rfl, (SQ.out.d.cell (p := ⟨b, off + k * 10 + 5, none⟩) HBL.out).trans E5.out⟩ (fun hHeld => ?_)
    replace SQ := hd SQ.out.drew
    generalize W2.drew = W3 at *
    refine tR (i := 0) (v := ?_) ?_ ?_; rotate_left
    ·
     intro w hSw; (try dsimp only at hSw); obtain ⟨kb, ke⟩ := hSw; have ld := cell8 kb; clear kb; go_simp; try (with_reducible rfl)
    try simp only [Act.put, lA, lB, lC]
    refine tR (i := 1) (v := ?_) ?_ ?_; rotate_left
    ·
     intro w hSw; (try dsimp only at hSw); obtain ⟨kb, ke⟩ := hSw; have ld := cell8 kb; clear kb; go_simp; try (with_reducible rfl)
    try simp only [Act.put, lA, lB, lC]
    refine rA 2 (fun K hK => ?_)
    go_simp
    refine (specIsAwake now cu st (.slice e0 ss.length n0) (.slice e3 os.length n3) (.slice (some ⟨b, off, none⟩) qs.length n4) (.slice e5 ds.length n5) (.slice e6 ls.length n6) ss os qs ds ls (k : Int) W3 (slR_below tVersionS_law H0.out SQ.out.d) (slR_below tInt_law H3.out SQ.out.d) (slR_below tActive_law H4.out SQ.out.d) (slR_below tFinished_law H5.out SQ.out.d) (slR_below tCharge_law H6.out SQ.out.d) HS.out).mono ?_
    rintro e W4 ⟨rfl, c⟩
    replace SQ := hd (SQ.out.below c)
    clear c
    rw [HA.out, haw]
    refine hK.out _ _ ⟨SQ.out.gB 1 rfl, (SQ.out.d.cell (p := ⟨b, off + k * 10 + 5, none⟩) HBL.out).trans E5.out⟩ (fun hHeld => ?_)
    clear hK K
    try simp only [Act.put, lA, lB, lC]
    refine tR (i := 3) (v := ?_) ?_ ?_; rotate_left
    ·
     intro w hSw; (try dsimp only at hSw); obtain ⟨kb, ke⟩ := hSw; have ld := cell8 kb; clear kb; go_simp; try (with_reducible rfl)
    try simp only [Act.put, lA, lB, lC]
    refine tR (i := 4) (v := ?_) ?_ ?_; rotate_left
    ·
     intro w hSw; (try dsimp only at hSw); obtain ⟨kb, ke⟩ := hSw; have ld := cell8 kb; clear kb; go_simp; try (with_reducible rfl)
    try simp only [Act.put, lA, lB, lC]
    refine tR (i := 5) (v := ?_) ?_ ?_; rotate_left
    ·
     intro w hSw; (try dsimp only at hSw); obtain ⟨kb, ke⟩ := hSw; have ld := cell8 kb; clear kb; go_simp; try (with_reducible rfl)
    try simp only [Act.put, lA, lB, lC]
    refine tR (i := 6) (v := ?_) ?_ ?_; rotate_left
    ·
     intro w hSw; (try dsimp only at hSw); obtain ⟨kb, ke⟩ := hSw; have ld := cell8 kb; clear kb; go_simp; try (with_reducible rfl)
    try simp only [Act.put, lA, lB, lC]
    refine tR (i := 7) (v := ?_) ?_ ?_; rotate_left
    ·
     intro w hSw; (try dsimp only at hSw); obtain ⟨kb, ke⟩ := hSw; have ld := cell8 kb; clear kb; go_simp; try (with_reducible rfl)
    try simp only [Act.put, lA, lB, lC]
    refine tR (i := 8) (v := ?_) ?_ ?_; rotate_left
    ·
     intro w hSw; (try dsimp only at hSw); obtain ⟨kb, ke⟩ := hSw; have ld := cell8 kb; clear kb; go_simp; try (with_reducible rfl)
    try simp only [Act.put, lA, lB, lC]
    refine tR (i := 9) (v := ?_) ?_ ?_; rotate_left
    ·
     intro w hSw; (try dsimp only at hSw); obtain ⟨kb, ke⟩ := hSw; have ld := cell8 kb; clear kb; go_simp; try (with_reducible rfl)
    try simp only [Act.put, lA, lB, lC]
    refine tR (i := 10) (v := ?_) ?_ ?_; rotate_left
    ·
     intro w hSw; (try dsimp only at hSw); obtain ⟨kb, ke⟩ := hSw; have ld := cell8 kb; clear kb; go_simp; try (with_reducible rfl)
    try simp only [Act.put, lA, lB, lC]
    refine tR (i := 11) (v := ?_) ?_ ?_; rotate_left
    ·
     intro w hSw; (try dsimp only at hSw); obtain ⟨kb, ke⟩ := hSw; have ld := cell8 kb; clear kb; go_simp; try (with_reducible rfl)
    try simp only [Act.put, lA, lB, lC]
    refine rA 12 (fun K hK => ?_)
    go_simp
    refine (specHasB (.slice p5 x.2.2.1.length c5) x.2.2.1 cu W4 (slR_ints (slR_below tInt_law S5A.out SQ.out.d)) Z5.out).mono ?_
    rintro e W5 ⟨rfl, c⟩
    replace SQ := hd (SQ.out.below c)
    clear c
    refine hK.out _ _ ⟨SQ.out.gB 1 rfl, (SQ.out.d.cell (p := ⟨b, off + k * 10 + 5, none⟩) HBL.out).trans E5.out⟩ (fun hHeld => ?_)
    clear hK K
    try simp only [Act.put, lA, lB, lC]
    refine tR (i := 13) (v := ?_) ?_ ?_; rotate_left
    ·
     intro w hSw; (try dsimp only at hSw); obtain ⟨kb, ke⟩ := hSw; have ld := cell8 kb; clear kb; go_simp; try (with_reducible rfl)
    try simp only [Act.put, lA, lB, lC]
    refine wpAnyH_done (by kernel_rfl) ?_ _
    clear hHeld
    by_cases hm : cu ∈ x.2.2.1
    ·
     rw [decide_eq_true hm]
     have HT : Hid (partTo cu qs (k + 1) = partTo cu qs k ++ [x.1.1]) := hd (HY.out (by unfold partB; rw [haw, decide_eq_true hm]; rfl))
     have HL : Hid ((partTo cu qs k).length ≤ 1048576) := hd (Nat.le_trans (partTo_len cu qs k) (by omega))
     clear HY HN HA haw hm
     have p4 := SQ.out.cell 1 rfl 4 rfl
     have q0 := (SQ.out.d.cell (p := ⟨b, off + k * 10, none⟩) HBL.out).trans E0.out
     generalize x.1.1 = id at *
     have SA := hd (SQ.out.alloc (.cells #[.int .i64 id] 3))
     go_wp2_with (at_builtin; refine append_flat tInt_law flat_int info_T_int Tryz.underlying25 rfl rfl (.tmp 31) (.tmp 39) rfl F (fun b => F b ∨ b = _) u3 _ (partTo cu qs k) [id] rfl rfl (SA.out.gS 0 rfl) (slR_num (heap_alloc_new _ _)) (fun _ h => Or.inl h) (Or.inr rfl) (by have := HL.out; simp; omega) ?_)
     intro v' W6 oN tN
     obtain ⟨F2, sp⟩ := SA.out.appS 0 rfl oN tN (fun b h => h.imp_right (fun q => by rw [q]; simp))
     replace SQ := hd sp
     clear sp oN tN SA p4 q0
     go_wp2
     go_roundw
     case rel => exact ⟨k + 1, F2, by omega, by go_num, hd (Or.inl HE.out), by rw [HT.out]; exact SQ⟩
     case measure => simp [intOf]; omega
    ·
     rw [decide_eq_false hm]
     have HT : Hid (partTo cu qs (k + 1) = partTo cu qs k) := hd (HN.out (by unfold partB; rw [haw, decide_eq_false hm]; rfl))
     clear HY HN HA haw hm
     go_wp2
     go_roundw
     case rel => exact ⟨k + 1, F, by omega, by go_num, hd (Or.inl HE.out), by rw [HT.out]; exact SQ⟩
     case measure => simp [intOf]; omega
   ·
    go_wp2
    refine wp_region_held_drew (S := (fun w' => w'.heap[w.heap.size]? = some (.cells #[.slice e0 ss.length n0, .int .i64 now, .int .i64 cu, .slice e3 os.length n3, .slice (some ⟨b, off, none⟩) qs.length n4, .slice e5 ds.length n5, .slice e6 ls.length n6, .int .i64 st] 40 (0, 0)) ∧ w'.cell? ⟨b, off + k * 10 + 5, none⟩ = some (.slice p5 x.2.2.1.length c5))) (by kernel_rfl) ⟨SQ.out.gB 1 rfl, (SQ.out.d.cell (p := ⟨b, off + k * 10 + 5, none⟩) HBL.out).trans E5.out⟩ (fun hHeld => ?_)
    replace SQ := hd SQ.out.drew
    generalize W2.drew = W3 at *
    refine tR (i := 0) (v := ?_) ?_ ?_; rotate_left
    ·
     intro w hSw; (try dsimp only at hSw); obtain ⟨kb, ke⟩ := hSw; have ld := cell8 kb; clear kb; go_simp; try (with_reducible rfl)
    try simp only [Act.put, lA, lB, lC]
    refine tR (i := 1) (v := ?_) ?_ ?_; rotate_left
    ·
     intro w hSw; (try dsimp only at hSw); obtain ⟨kb, ke⟩ := hSw; have ld := cell8 kb; clear kb; go_simp; try (with_reducible rfl)
    try simp only [Act.put, lA, lB, lC]
    refine rA 2 (fun K hK => ?_)
    go_simp
    refine (specIsAwake now cu st (.slice e0 ss.length n0) (.slice e3 os.length n3) (.slice (some ⟨b, off, none⟩) qs.length n4) (.slice e5 ds.length n5) (.slice e6 ls.length n6) ss os qs ds ls (k : Int) W3 (slR_below tVersionS_law H0.out SQ.out.d) (slR_below tInt_law H3.out SQ.out.d) (slR_below tActive_law H4.out SQ.out.d) (slR_below tFinished_law H5.out SQ.out.d) (slR_below tCharge_law H6.out SQ.out.d) HS.out).mono ?_
    rintro e W4 ⟨rfl, c⟩
    replace SQ := hd (SQ.out.below c)
    clear c
    rw [HA.out, haw]
    refine hK.out _ _ ⟨SQ.out.gB 1 rfl, (SQ.out.d.cell (p := ⟨b, off + k * 10 + 5, none⟩) HBL.out).trans E5.out⟩ (fun hHeld => ?_)
    clear hK K
    try simp only [Act.put, lA, lB, lC]
    refine tR (i := 3) (v := ?_) ?_ ?_; rotate_left
    ·
     intro w hSw; (try dsimp only at hSw); obtain ⟨kb, ke⟩ := hSw; have ld := cell8 kb; clear kb; go_simp; try (with_reducible rfl)
    try simp only [Act.put, lA, lB, lC]
    refine tO (i := 4) ?_
    try simp only [Act.put, lA, lB, lC]
    refine tO (i := 5) ?_
    try simp only [Act.put, lA, lB, lC]
    refine tO (i := 6) ?_
    try simp only [Act.put, lA, lB, lC]
    refine tO (i := 7) ?_
    try simp only [Act.put, lA, lB, lC]
    refine tO (i := 8) ?_
    try simp only [Act.put, lA, lB, lC]
    refine tO (i := 9) ?_
    try simp only [Act.put, lA, lB, lC]
    refine tO (i := 10) ?_
    try simp only [Act.put, lA, lB, lC]
    refine tO (i := 11) ?_
    try simp only [Act.put, lA, lB, lC]
    refine tO (i := 12) ?_
    try simp only [Act.put, lA, lB, lC]
    refine tR (i := 13) (v := ?_) ?_ ?_; rotate_left
    ·
     intro w hSw; (try dsimp only at hSw); obtain ⟨kb, ke⟩ := hSw; have ld := cell8 kb; clear kb; go_simp; try (with_reducible rfl)
    try simp only [Act.put, lA, lB, lC]
    refine wpAnyH_done (by kernel_rfl) ?_ _
    clear hHeld
    have HT : Hid (partTo cu qs (k + 1) = partTo cu qs k) := hd (HN.out (by unfold partB; rw [haw]; rfl))
    clear HY HN HA haw
    go_wp2
    go_roundw
    case rel => exact ⟨k + 1, F, by omega, by go_num, hd (Or.inl HE.out), by rw [HT.out]; exact SQ⟩
    case measure => simp [intOf]; omega
  ·
   obtain rfl : k = qs.length := by omega
   have HR : Hid (partE ((ss, now), cu, os, qs, ds, ls, st) = partTo cu qs qs.length) := hd (by
    rcases Bool.eq_false_or_eq_true (engB ((ss, now), cu, os, qs, ds, ls, st)) with he | he
    ·
     exact partE_yes he
    ·
     rcases hcase.out with g | g
     ·
      exact absurd g (by rw [he]; decide)
     ·
      rw [partE_no he, g, partTo_zero])
   have p4 := SQ.out.cell 1 rfl 4 rfl
   go_wp2
   clear p4
   go_ret
   exact ⟨_, rfl, by rw [HR.out]; exact SQ.out.outS 0 rfl, SQ.out.d⟩
end Go.Proofs.YtogbgeekmdnhlaaGreatDoor
