/-
 Texts of the proof, merged: HasSeg, QueryIsP, EngP2.
-/
import Derived.Test.YtnepfacnmaoieaaGreatDoorCA2
import Derived.Test.YtnepfacnmaoieaaGreatDoorCA3
import Derived.Test.YtnepfacnmaoieaaGreatDoorCA5
import Derived.Test.YtnepfacnmaoieaaGreatDoorCA6
import Derived.Test.YtnepfacnmaoieaaGreatDoorCA10
import Derived.Test.YtnepfacnmaoieaaGreatDoorCA16
namespace Go.Proofs.YtnepfacnmaoieaaGreatDoor
open Go.RowKit
open Go renaming cell_of_row → Ia, heap_alloc_new → Ic
open Go.World renaming size_alloc → Ie
open Nat renaming le_refl → Ii, zero_le → Ij
open Go.Value.slice renaming injEq → Ik
open Go.RowKit.Below renaming refl → Il
set_option maxRecDepth 100000
set_option linter.unusedVariables false
set_option linter.unusedSimpArgs false
set_option maxHeartbeats 4000000 in
theorem hasSegment_any (a : Option Addr) (n cap : Nat) (now g : Int) (w : World) (hn : n ≤ 1048576) :
  Calls Tryz.prog 132 #[.agg #[.slice a n cap, .int .i64 now], .int .i64 g] w (fun e w' => e = .returned (.bool (decide (0 ≤ g ∧ g < n))) ∧ Below w w w') := by
 have d := zh (show Below w w (w.alloc (.cells #[.slice a n cap, .int .i64 now] 35)) from (Il _ _).alloc (Ii _) _)
 by_cases h1 : 0 ≤ g
 ·
  by_cases h2 : g < n
  ·
   have HF : Hid (decide (0 ≤ g ∧ g < n) = true) := zh (decide_eq_true ⟨h1, h2⟩)
   have f1 : decide (0 ≤ g) = true := decide_eq_true h1
   have f2 : decide (g < n) = true := decide_eq_true h2
   rw [HF.out]
   clear h1 h2
   go_enter Tryz.func132, Tryz.ntmps132
   go_wp2
   go_ret
   exact ⟨rfl, d.out⟩
  ·
   have HF : Hid (decide (0 ≤ g ∧ g < n) = false) := zh (decide_eq_false (fun q => h2 q.2))
   have f1 : decide (0 ≤ g) = true := decide_eq_true h1
   have f2 : decide (g < n) = false := decide_eq_false h2
   rw [HF.out]
   clear h1 h2
   go_enter Tryz.func132, Tryz.ntmps132
   go_wp2
   go_ret
   exact ⟨rfl, d.out⟩
 ·
  have HF : Hid (decide (0 ≤ g ∧ g < n) = false) := zh (decide_eq_false (fun q => h1 q.1))
  have f1 : decide (0 ≤ g) = false := decide_eq_false h1
  rw [HF.out]
  clear h1
  go_enter Tryz.func132, Tryz.ntmps132
  go_wp2
  go_ret
  exact ⟨rfl, d.out⟩
theorem box_cells4 {W w : World} {t : TypeId} {x y z u : Value} {b : Nat} (h : W.heap[b]? = some (.cells #[x, y, z, u] t (0, 0))) (hb : Below W W w) :
  w.cell? ⟨b, 0, none⟩ = some x ∧ w.cell? ⟨b, 1, none⟩ = some y ∧ w.cell? ⟨b, 2, none⟩ = some z ∧ w.cell? ⟨b, 3, none⟩ = some u := by
 have hlt := (Array.getElem?_eq_some_iff.1 h).1
 have h' := (hb.block b hlt).trans h
 exact ⟨(Ia w b 0 _ _ _ h').trans rfl, (Ia w b 1 _ _ _ h').trans rfl, (Ia w b 2 _ _ _ h').trans rfl, (Ia w b 3 _ _ _ h').trans rfl⟩
theorem isField_yes (n : Int) (w : World) (h1 : 0 ≤ n) (h2 : n < 3) : Calls Tryz.prog 249 #[.int .i64 n] w fun e w' => e = .returned (.bool true) ∧ w' = w := by
 go_enter Tryz.func249, Tryz.ntmps249
 go_wp2
 go_ret
 exact ⟨rfl, rfl⟩
theorem isField_no (n : Int) (w : World) (h : ¬ (0 ≤ n ∧ n < 3)) : Calls Tryz.prog 249 #[.int .i64 n] w fun e w' => e = .returned (.bool false) ∧ w' = w := by
 by_cases h1 : 0 ≤ n
 ·
  have h2 : ¬ n < 3 := fun g => h ⟨h1, g⟩
  clear h
  go_enter Tryz.func249, Tryz.ntmps249
  go_wp2
  go_ret
  exact ⟨rfl, rfl⟩
 ·
  clear h
  go_enter Tryz.func249, Tryz.ntmps249
  go_wp2
  go_ret
  exact ⟨rfl, rfl⟩
theorem isTenant_yes (n : Int) (w : World) (h1 : 0 ≤ n) (h2 : n < 4) : Calls Tryz.prog 202 #[.int .i64 n] w fun e w' => e = .returned (.bool true) ∧ w' = w := by
 go_enter Tryz.func202, Tryz.ntmps202
 go_wp2
 go_ret
 exact ⟨rfl, rfl⟩
theorem isTenant_no (n : Int) (w : World) (h : ¬ (0 ≤ n ∧ n < 4)) : Calls Tryz.prog 202 #[.int .i64 n] w fun e w' => e = .returned (.bool false) ∧ w' = w := by
 by_cases h1 : 0 ≤ n
 ·
  have h2 : ¬ n < 4 := fun g => h ⟨h1, g⟩
  clear h
  go_enter Tryz.func202, Tryz.ntmps202
  go_wp2
  go_ret
  exact ⟨rfl, rfl⟩
 ·
  clear h
  go_enter Tryz.func202, Tryz.ntmps202
  go_wp2
  go_ret
  exact ⟨rfl, rfl⟩
theorem isQNum_yes (n : Int) (w : World) (h1 : 0 ≤ n) (h2 : n < 24) : Calls Tryz.prog 215 #[.int .i64 n] w fun e w' => e = .returned (.bool true) ∧ w' = w := by
 go_enter Tryz.func215, Tryz.ntmps215
 go_wp2
 go_ret
 exact ⟨rfl, rfl⟩
theorem isQNum_no (n : Int) (w : World) (h : ¬ (0 ≤ n ∧ n < 24)) : Calls Tryz.prog 215 #[.int .i64 n] w fun e w' => e = .returned (.bool false) ∧ w' = w := by
 by_cases h1 : 0 ≤ n
 ·
  have h2 : ¬ n < 24 := fun g => h ⟨h1, g⟩
  clear h
  go_enter Tryz.func215, Tryz.ntmps215
  go_wp2
  go_ret
  exact ⟨rfl, rfl⟩
 ·
  clear h
  go_enter Tryz.func215, Tryz.ntmps215
  go_wp2
  go_ret
  exact ⟨rfl, rfl⟩
/-- Can a field have the values from l to h? -/
theorem isFieldRange_is (l h : Int) (w : World) : Calls Tryz.prog 272 #[.int .i64 l, .int .i64 h] w fun e w' => e = .returned (.bool (decide (0 ≤ l ∧ l ≤ h) && decide (h ≤ 99))) ∧ w' = w := by
 obtain ⟨r, hr⟩ : ∃ r, (decide (0 ≤ l ∧ l ≤ h) && decide (h ≤ 99)) = r := ⟨_, rfl⟩
 rw [hr]
 by_cases h2 : 0 ≤ l
 ·
  by_cases h3 : l ≤ h
  ·
   by_cases h4 : h ≤ 99
   ·
    have HX := trivial
    have HT : Hid (r = true) := Lib.hid (by rw [← hr, decide_eq_true (And.intro h2 h3), decide_eq_true h4]; rfl)
    clear HX hr
    go_enter Tryz.func272, Tryz.ntmps272
    go_wp2
    go_ret
    exact ⟨Jy HT.out.symm, rfl⟩
   ·
    have HX := trivial
    have HT : Hid (r = false) := Lib.hid (by rw [← hr, decide_eq_false h4, Bool.and_false])
    clear HX hr
    go_enter Tryz.func272, Tryz.ntmps272
    go_wp2
    go_ret
    exact ⟨Jy HT.out.symm, rfl⟩
  ·
   have HX := trivial
   have HT : Hid (r = false) := Lib.hid (by rw [← hr, decide_eq_false (fun g => h3 g.2), Bool.false_and])
   clear HX hr
   go_enter Tryz.func272, Tryz.ntmps272
   go_wp2
   go_ret
   exact ⟨Jy HT.out.symm, rfl⟩
 ·
  have HX := trivial
  have HT : Hid (r = false) := Lib.hid (by rw [← hr, decide_eq_false (fun g => h2 g.1), Bool.false_and])
  clear HX hr
  go_enter Tryz.func272, Tryz.ntmps272
  go_wp2
  go_ret
  exact ⟨Jy HT.out.symm, rfl⟩
set_option maxHeartbeats 4000000 in
theorem implIsCond (f l h : Int) (w : World) : Calls Tryz.prog 248 #[condV f l h] w fun e w' => e = .returned (.bool (Uy (f, l, h))) ∧ Below w w w' := by
 have hb : Below w w (w.alloc (.cells #[.int .i64 f, .int .i64 l, .int .i64 h] 177)) := (Il _ w).alloc (Ii _) _
 by_cases h1 : 0 ≤ f ∧ f < 3
 ·
  have H1 := Lib.hid (fun w => isField_yes f w h1.1 h1.2)
  have H2 := Lib.hid (fun w => isFieldRange_is l h w)
  have HE : Hid (Uy (f, l, h) = (decide (0 ≤ l ∧ l ≤ h) && decide (h ≤ 99))) := Lib.hid (by unfold Uy; rw [decide_eq_true (by omega : 0 ≤ f ∧ f ≤ 2), Bool.true_and])
  clear h1
  generalize (decide (0 ≤ l ∧ l ≤ h) && decide (h ≤ 99)) = r at *
  go_enter Tryz.func248, Tryz.ntmps248
  go_wp2_with fail
  refine (H1.out _).mono ?_
  rintro e w1 ⟨rfl, rfl⟩
  go_wp2_with fail
  refine (H2.out _).mono ?_
  rintro e w1 ⟨rfl, rfl⟩
  go_wp2
  go_ret
  exact ⟨Jy HE.out.symm, hb⟩
 ·
  have H1 := Lib.hid (fun w => isField_no f w h1)
  have HT : Hid (Uy (f, l, h) = false) := Lib.hid (by unfold Uy; rw [decide_eq_false (by omega : ¬ (0 ≤ f ∧ f ≤ 2)), Bool.false_and])
  clear h1
  go_enter Tryz.func248, Tryz.ntmps248
  go_wp2_with fail
  refine (H1.out _).mono ?_
  rintro e w1 ⟨rfl, rfl⟩
  go_wp2
  go_ret
  exact ⟨Jy HT.out.symm, hb⟩
/-- Are these the conditions of a query? -/
def condsV (cs : List Ul) : Bool := decide (cs.length ≤ 3) && condsB cs
theorem condsV_bad {cs : List Ul} {k : Nat} (hk : k < cs.length) (h : Uy (cs.getD k c0D) = false ∨ (0 < k ∧ ¬ (cs.getD (k - 1) c0D).1 < (cs.getD k c0D).1)) : condsV cs = false := by
 unfold condsV; rw [condsB_bad hk h, Bool.and_false]
set_option maxHeartbeats 8000000 in
theorem areValid_any (v : Value) (cs : List Ul) (w : World) (h : CondsR w v cs) (hn : cs.length ≤ 1048576) :
  Calls Tryz.prog 216 #[v] w fun e w' => e = .returned (.bool (condsV cs)) ∧ Below w w w' := by
 have H := Lib.hid h
 obtain ⟨a, cap, rfl⟩ := condsR_len h
 clear h
 by_cases hbig : 3 < cs.length
 ·
  have HF : Hid (condsV cs = false) := Lib.hid (by unfold condsV; rw [decide_eq_false (by omega)]; simp)
  have i0 : (3 : Int) < (cs.length : Int) := by omega
  have hd : decide ((3 : Int) < (cs.length : Int)) = true := decide_eq_true i0
  have hdn : decide (3 < cs.length) = true := decide_eq_true hbig
  go_enter Tryz.func216, Tryz.ntmps216
  go_wp2
  go_ret
  exact ⟨Jy HF.out.symm, Il _ _⟩
 have HT : Hid (CondsTo cs cs.length → condsV cs = true) := Lib.hid (fun g => by unfold condsV; rw [decide_eq_true (by omega), condsB_all g]; rfl)
 have hd : decide ((3 : Int) < (cs.length : Int)) = false := decide_eq_false (by omega)
 have hdn : decide (3 < cs.length) = false := decide_eq_false hbig
 clear hbig
 go_enter Tryz.func216, Tryz.ntmps216
 go_wp2
 clear hd hdn
 go_loopw [10] (fun i wr => ∃ k : Nat, k ≤ cs.length ∧ i = .int .i64 k ∧ Hid (CondsTo cs k) ∧ Below w w wr) (fun i _ => cs.length - (intOf i).toNat)
 case atStart => exact ⟨0, Ij _, rfl, Lib.hid (fun i hi => by omega), Il _ _⟩
 case round =>
  obtain ⟨k, hk, rfl, hall, hbel⟩ := hrel
  by_cases hlt : k < cs.length
  ·
   have H1 := Lib.hid (condsR_below H.out hbel)
   obtain ⟨b, off, cap', hv, hbl, hc1, hc2, hc3⟩ := condsR_at H1.out hlt
   simp only [Ik] at hv
   obtain ⟨rfl, _, rfl⟩ := hv
   have HBAD := Lib.hid (condsV_bad (cs := cs) (k := k) hlt)
   have HSTEP := Lib.hid (condsTo_step hall.out)
   have HR0 : Hid (∀ w, Calls Tryz.prog 248 #[condV (cs.getD k c0D).1 (cs.getD k c0D).2.1 (cs.getD k c0D).2.2] w fun e w' => e = .returned (.bool (Uy (cs.getD k c0D))) ∧ Below w w w') := Lib.hid (fun w => implIsCond (cs.getD k c0D).1 (cs.getD k c0D).2.1 (cs.getD k c0D).2.2 w)
   have i1 : (0 : Int) ≤ (k : Int) := by omega
   have i2 : (k : Int) < (cs.length : Int) := by omega
   clear hall
   cases hrb : Uy (cs.getD k c0D) with
   | false =>
    have HF := Lib.hid (HBAD.out (Or.inl hrb))
    have HR := Lib.hid (fun w => (HR0.out w))
    rw [hrb] at HR
    clear hrb HBAD HSTEP H1 HR0
    generalize (cs.getD k c0D).1 = cf at *
    generalize (cs.getD k c0D).2.1 = cl at *
    generalize (cs.getD k c0D).2.2 = ch at *
    go_wp2
    have hW : Below wr wr (wr.alloc (.cells #[.int .i64 cf, .int .i64 cl, .int .i64 ch] 177)) := (Il _ wr).alloc (Ii _) _
    have g0 := Ic wr (.cells #[.int .i64 cf, .int .i64 cl, .int .i64 ch] 177)
    have hlt2 : wr.heap.size < (wr.alloc (.cells #[.int .i64 cf, .int .i64 cl, .int .i64 ch] 177)).heap.size := by simp
    generalize wr.alloc (.cells #[.int .i64 cf, .int .i64 cl, .int .i64 ch] 177) = W at *
    have q0 := Ia W _ 0 _ _ _ g0
    have q1 := Ia W _ 1 _ _ _ g0
    have q2 := Ia W _ 2 _ _ _ g0
    simp at q0 q1 q2
    refine wp_region_held_drew (S := fun w' => w'.cell? ⟨wr, 0, none⟩ = some (.int .i64 cf) ∧ w'.cell? ⟨wr, 1, none⟩ = some (.int .i64 cl) ∧ w'.cell? ⟨wr, 2, none⟩ = some (.int .i64 ch)) (by kernel_rfl) ⟨q0, q1, q2⟩ (fun hHeld => ?_)
    refine tQ (i := 0) ?_
    try simp only [Act.put, lA, lB, lC]
    refine rA 1 (fun K hK => ?_)
    go_simp
    refine (HR.out _).mono ?_
    rintro e w8 ⟨rfl, b9⟩
    have b10 : Below W W w8 := ⟨b9.os, b9.tape, b9.output, b9.size, b9.block⟩
    have s0 := (b10.cell (p := ⟨wr, 0, none⟩) hlt2).trans q0
    have s1 := (b10.cell (p := ⟨wr, 1, none⟩) hlt2).trans q1
    have s2 := (b10.cell (p := ⟨wr, 2, none⟩) hlt2).trans q2
    refine hK.out _ _ ⟨s0, s1, s2⟩ (fun hHeld => ?_)
    clear hK K
    try simp only [Act.put, lA, lB, lC]
    refine tQ (i := 2) ?_
    try simp only [Act.put, lA, lB, lC]
    refine tQ (i := 3) ?_
    try simp only [Act.put, lA, lB, lC]
    refine tO (i := 4) ?_
    try simp only [Act.put, lA, lB, lC]
    refine tO (i := 5) ?_
    try simp only [Act.put, lA, lB, lC]
    refine tO (i := 6) ?_
    try simp only [Act.put, lA, lB, lC]
    refine tO (i := 7) ?_
    try simp only [Act.put, lA, lB, lC]
    refine tO (i := 8) ?_
    try simp only [Act.put, lA, lB, lC]
    refine tO (i := 9) ?_
    try simp only [Act.put, lA, lB, lC]
    refine tO (i := 10) ?_
    try simp only [Act.put, lA, lB, lC]
    refine tO (i := 11) ?_
    try simp only [Act.put, lA, lB, lC]
    refine tO (i := 12) ?_
    try simp only [Act.put, lA, lB, lC]
    refine tO (i := 13) ?_
    try simp only [Act.put, lA, lB, lC]
    refine tO (i := 14) ?_
    try simp only [Act.put, lA, lB, lC]
    refine tO (i := 15) ?_
    try simp only [Act.put, lA, lB, lC]
    refine tO (i := 16) ?_
    try simp only [Act.put, lA, lB, lC]
    refine tQ (i := 17) ?_
    try simp only [Act.put, lA, lB, lC]
    refine wpAnyH_done (by kernel_rfl) ?_ _
    have b11 := hbel.trans ((hW.trans (b10.mono hW.size)).mono hbel.size)
    clear s0 s1 s2 hHeld b9 b10
    try clear s3
    go_wp2
    go_ret
    exact ⟨Jy HF.out.symm, b11⟩
   | true =>
    have HR := Lib.hid (fun w => (HR0.out w))
    rw [hrb] at HR
    clear HR0
    by_cases hz : k = 0
    ·
     have HA := Lib.hid (HSTEP.out hrb (fun g => absurd g (by omega)))
     have hg : decide ((0 : Int) < (k : Int)) = false := decide_eq_false (by omega)
     have hgn : decide (0 < k) = false := decide_eq_false (by omega)
     clear hrb HBAD HSTEP H1 hz
     generalize (cs.getD k c0D).1 = cf at *
     generalize (cs.getD k c0D).2.1 = cl at *
     generalize (cs.getD k c0D).2.2 = ch at *
     go_wp2
     have hW : Below wr wr (wr.alloc (.cells #[.int .i64 cf, .int .i64 cl, .int .i64 ch] 177)) := (Il _ wr).alloc (Ii _) _
     have g0 := Ic wr (.cells #[.int .i64 cf, .int .i64 cl, .int .i64 ch] 177)
     have hlt2 : wr.heap.size < (wr.alloc (.cells #[.int .i64 cf, .int .i64 cl, .int .i64 ch] 177)).heap.size := by simp
     generalize wr.alloc (.cells #[.int .i64 cf, .int .i64 cl, .int .i64 ch] 177) = W at *
     have q0 := Ia W _ 0 _ _ _ g0
     have q1 := Ia W _ 1 _ _ _ g0
     have q2 := Ia W _ 2 _ _ _ g0
     simp at q0 q1 q2
     refine wp_region_held_drew (S := fun w' => w'.cell? ⟨wr, 0, none⟩ = some (.int .i64 cf) ∧ w'.cell? ⟨wr, 1, none⟩ = some (.int .i64 cl) ∧ w'.cell? ⟨wr, 2, none⟩ = some (.int .i64 ch)) (by kernel_rfl) ⟨q0, q1, q2⟩ (fun hHeld => ?_)
     refine tQ (i := 0) ?_
     try simp only [Act.put, lA, lB, lC]
     refine rA 1 (fun K hK => ?_)
     go_simp
     refine (HR.out _).mono ?_
     rintro e w8 ⟨rfl, b9⟩
     have b10 : Below W W w8 := ⟨b9.os, b9.tape, b9.output, b9.size, b9.block⟩
     have s0 := (b10.cell (p := ⟨wr, 0, none⟩) hlt2).trans q0
     have s1 := (b10.cell (p := ⟨wr, 1, none⟩) hlt2).trans q1
     have s2 := (b10.cell (p := ⟨wr, 2, none⟩) hlt2).trans q2
     refine hK.out _ _ ⟨s0, s1, s2⟩ (fun hHeld => ?_)
     clear hK K
     try simp only [Act.put, lA, lB, lC]
     refine tQ (i := 2) ?_
     try simp only [Act.put, lA, lB, lC]
     refine tQ (i := 3) ?_
     try simp only [Act.put, lA, lB, lC]
     refine tQ (i := 4) ?_
     try simp only [Act.put, lA, lB, lC]
     refine tQ (i := 5) ?_
     try simp only [Act.put, lA, lB, lC]
     refine tQ (i := 6) ?_
     try simp only [Act.put, lA, lB, lC]
     refine tO (i := 7) ?_
     try simp only [Act.put, lA, lB, lC]
     refine tO (i := 8) ?_
     try simp only [Act.put, lA, lB, lC]
     refine tO (i := 9) ?_
     try simp only [Act.put, lA, lB, lC]
     refine tO (i := 10) ?_
     try simp only [Act.put, lA, lB, lC]
     refine tO (i := 11) ?_
     try simp only [Act.put, lA, lB, lC]
     refine tO (i := 12) ?_
     try simp only [Act.put, lA, lB, lC]
     refine tO (i := 13) ?_
     try simp only [Act.put, lA, lB, lC]
     refine tO (i := 14) ?_
     try simp only [Act.put, lA, lB, lC]
     refine tO (i := 15) ?_
     try simp only [Act.put, lA, lB, lC]
     refine tQ (i := 16) ?_
     try simp only [Act.put, lA, lB, lC]
     refine tQ (i := 17) ?_
     try simp only [Act.put, lA, lB, lC]
     refine wpAnyH_done (by kernel_rfl) ?_ _
     have b11 := hbel.trans ((hW.trans (b10.mono hW.size)).mono hbel.size)
     clear s0 s1 s2 hHeld b9 b10
     try clear s3
     go_wp2
     go_roundw
     case rel => exact ⟨k + 1, by omega, by go_num, HA, b11⟩
     case measure => simp [intOf]; omega
    ·
     obtain ⟨m, hkm⟩ : ∃ m, k = m + 1 := ⟨k - 1, by omega⟩
     have hml : m < cs.length := by omega
     obtain ⟨b', off', cap'', hv', _, hc0, _, _⟩ := condsR_at H1.out hml
     simp only [Ik, Option.some.injEq, Addr.mk.injEq] at hv'
     obtain ⟨⟨rfl, rfl, _⟩, _, rfl⟩ := hv'
     have hg : decide ((0 : Int) < (k : Int)) = true := decide_eq_true (by omega)
     have hgn : decide (0 < k) = true := decide_eq_true (by omega)
     have j1 : (0 : Int) ≤ (m : Int) := by omega
     have j2 : (m : Int) < (cs.length : Int) := by omega
     have hsub : IntKind.i64.wrap ((k : Int) - 1) = (m : Int) := by rw [IntWalk.i64_in _ (by omega)]; omega
     rw [show k - 1 = m by omega] at HBAD HSTEP
     by_cases hle : (cs.getD k c0D).1 ≤ (cs.getD m c0D).1
     ·
      have HF := Lib.hid (HBAD.out (Or.inr ⟨by omega, by omega⟩))
      have hd := decide_eq_true hle
      clear hrb HBAD HSTEP H1 hz hle hkm
      generalize (cs.getD k c0D).1 = cf at *
      generalize (cs.getD k c0D).2.1 = cl at *
      generalize (cs.getD k c0D).2.2 = ch at *
      generalize (cs.getD m c0D).1 = fp at *
      go_wp2
      have hW : Below wr wr (wr.alloc (.cells #[.int .i64 cf, .int .i64 cl, .int .i64 ch] 177)) := (Il _ wr).alloc (Ii _) _
      have g0 := Ic wr (.cells #[.int .i64 cf, .int .i64 cl, .int .i64 ch] 177)
      have hlt2 : wr.heap.size < (wr.alloc (.cells #[.int .i64 cf, .int .i64 cl, .int .i64 ch] 177)).heap.size := by simp
      generalize wr.alloc (.cells #[.int .i64 cf, .int .i64 cl, .int .i64 ch] 177) = W at *
      have q0 := Ia W _ 0 _ _ _ g0
      have q1 := Ia W _ 1 _ _ _ g0
      have q2 := Ia W _ 2 _ _ _ g0
      simp at q0 q1 q2
      have p0 := (hW.cell (p := ⟨b, off + m * 3, none⟩) hbl).trans hc0
      refine wp_region_held_drew (S := fun w' => w'.cell? ⟨wr, 0, none⟩ = some (.int .i64 cf) ∧ w'.cell? ⟨wr, 1, none⟩ = some (.int .i64 cl) ∧ w'.cell? ⟨wr, 2, none⟩ = some (.int .i64 ch) ∧ w'.cell? ⟨b, off + m * 3, none⟩ = some (.int .i64 fp)) (by kernel_rfl) ⟨q0, q1, q2, p0⟩ (fun hHeld => ?_)
      refine tQ (i := 0) ?_
      try simp only [Act.put, lA, lB, lC]
      refine rA 1 (fun K hK => ?_)
      go_simp
      refine (HR.out _).mono ?_
      rintro e w8 ⟨rfl, b9⟩
      have b10 : Below W W w8 := ⟨b9.os, b9.tape, b9.output, b9.size, b9.block⟩
      have s0 := (b10.cell (p := ⟨wr, 0, none⟩) hlt2).trans q0
      have s1 := (b10.cell (p := ⟨wr, 1, none⟩) hlt2).trans q1
      have s2 := (b10.cell (p := ⟨wr, 2, none⟩) hlt2).trans q2
      have s3 := (b10.cell (p := ⟨b, off + m * 3, none⟩) (Nat.lt_of_lt_of_le hbl hW.size)).trans p0
      refine hK.out _ _ ⟨s0, s1, s2, s3⟩ (fun hHeld => ?_)
      clear hK K
      try simp only [Act.put, lA, lB, lC]
      refine tQ (i := 2) ?_
      try simp only [Act.put, lA, lB, lC]
      refine tQ (i := 3) ?_
      try simp only [Act.put, lA, lB, lC]
      refine tQ (i := 4) ?_
      try simp only [Act.put, lA, lB, lC]
      refine tQ (i := 5) ?_
      try simp only [Act.put, lA, lB, lC]
      refine tQ (i := 6) ?_
      try simp only [Act.put, lA, lB, lC]
      refine tQ (i := 7) ?_
      try simp only [Act.put, lA, lB, lC]
      refine tQ (i := 8) ?_
      try simp only [Act.put, lA, lB, lC]
      refine tQ (i := 9) ?_
      try simp only [Act.put, lA, lB, lC]
      refine tQ (i := 10) ?_
      try simp only [Act.put, lA, lB, lC]
      refine tQ (i := 11) ?_
      try simp only [Act.put, lA, lB, lC]
      refine tQ (i := 12) ?_
      try simp only [Act.put, lA, lB, lC]
      refine tQ (i := 13) ?_
      try simp only [Act.put, lA, lB, lC]
      refine tQ (i := 14) ?_
      try simp only [Act.put, lA, lB, lC]
      refine tQ (i := 15) ?_
      try simp only [Act.put, lA, lB, lC]
      refine tQ (i := 16) ?_
      try simp only [Act.put, lA, lB, lC]
      refine tQ (i := 17) ?_
      try simp only [Act.put, lA, lB, lC]
      refine wpAnyH_done (by kernel_rfl) ?_ _
      have b11 := hbel.trans ((hW.trans (b10.mono hW.size)).mono hbel.size)
      clear s0 s1 s2 hHeld b9 b10
      try clear s3
      go_wp2
      go_ret
      exact ⟨Jy HF.out.symm, b11⟩
     ·
      have HA := Lib.hid (HSTEP.out hrb (fun _ => by omega))
      have hd := decide_eq_false hle
      clear hrb HBAD HSTEP H1 hz hle hkm
      generalize (cs.getD k c0D).1 = cf at *
      generalize (cs.getD k c0D).2.1 = cl at *
      generalize (cs.getD k c0D).2.2 = ch at *
      generalize (cs.getD m c0D).1 = fp at *
      go_wp2
      have hW : Below wr wr (wr.alloc (.cells #[.int .i64 cf, .int .i64 cl, .int .i64 ch] 177)) := (Il _ wr).alloc (Ii _) _
      have g0 := Ic wr (.cells #[.int .i64 cf, .int .i64 cl, .int .i64 ch] 177)
      have hlt2 : wr.heap.size < (wr.alloc (.cells #[.int .i64 cf, .int .i64 cl, .int .i64 ch] 177)).heap.size := by simp
      generalize wr.alloc (.cells #[.int .i64 cf, .int .i64 cl, .int .i64 ch] 177) = W at *
      have q0 := Ia W _ 0 _ _ _ g0
      have q1 := Ia W _ 1 _ _ _ g0
      have q2 := Ia W _ 2 _ _ _ g0
      simp at q0 q1 q2
      have p0 := (hW.cell (p := ⟨b, off + m * 3, none⟩) hbl).trans hc0
      refine wp_region_held_drew (S := fun w' => w'.cell? ⟨wr, 0, none⟩ = some (.int .i64 cf) ∧ w'.cell? ⟨wr, 1, none⟩ = some (.int .i64 cl) ∧ w'.cell? ⟨wr, 2, none⟩ = some (.int .i64 ch) ∧ w'.cell? ⟨b, off + m * 3, none⟩ = some (.int .i64 fp)) (by kernel_rfl) ⟨q0, q1, q2, p0⟩ (fun hHeld => ?_)
      refine tQ (i := 0) ?_
      try simp only [Act.put, lA, lB, lC]
      refine rA 1 (fun K hK => ?_)
      go_simp
      refine (HR.out _).mono ?_
      rintro e w8 ⟨rfl, b9⟩
      have b10 : Below W W w8 := ⟨b9.os, b9.tape, b9.output, b9.size, b9.block⟩
      have s0 := (b10.cell (p := ⟨wr, 0, none⟩) hlt2).trans q0
      have s1 := (b10.cell (p := ⟨wr, 1, none⟩) hlt2).trans q1
      have s2 := (b10.cell (p := ⟨wr, 2, none⟩) hlt2).trans q2
      have s3 := (b10.cell (p := ⟨b, off + m * 3, none⟩) (Nat.lt_of_lt_of_le hbl hW.size)).trans p0
      refine hK.out _ _ ⟨s0, s1, s2, s3⟩ (fun hHeld => ?_)
      clear hK K
      try simp only [Act.put, lA, lB, lC]
      refine tQ (i := 2) ?_
      try simp only [Act.put, lA, lB, lC]
      refine tQ (i := 3) ?_
      try simp only [Act.put, lA, lB, lC]
      refine tQ (i := 4) ?_
      try simp only [Act.put, lA, lB, lC]
      refine tQ (i := 5) ?_
      try simp only [Act.put, lA, lB, lC]
      refine tQ (i := 6) ?_
      try simp only [Act.put, lA, lB, lC]
      refine tQ (i := 7) ?_
      try simp only [Act.put, lA, lB, lC]
      refine tQ (i := 8) ?_
      try simp only [Act.put, lA, lB, lC]
      refine tQ (i := 9) ?_
      try simp only [Act.put, lA, lB, lC]
      refine tQ (i := 10) ?_
      try simp only [Act.put, lA, lB, lC]
      refine tQ (i := 11) ?_
      try simp only [Act.put, lA, lB, lC]
      refine tQ (i := 12) ?_
      try simp only [Act.put, lA, lB, lC]
      refine tQ (i := 13) ?_
      try simp only [Act.put, lA, lB, lC]
      refine tQ (i := 14) ?_
      try simp only [Act.put, lA, lB, lC]
      refine tQ (i := 15) ?_
      try simp only [Act.put, lA, lB, lC]
      refine tQ (i := 16) ?_
      try simp only [Act.put, lA, lB, lC]
      refine tQ (i := 17) ?_
      try simp only [Act.put, lA, lB, lC]
      refine wpAnyH_done (by kernel_rfl) ?_ _
      have b11 := hbel.trans ((hW.trans (b10.mono hW.size)).mono hbel.size)
      clear s0 s1 s2 hHeld b9 b10
      try clear s3
      go_wp2
      go_roundw
      case rel => exact ⟨k + 1, by omega, by go_num, HA, b11⟩
      case measure => simp [intOf]; omega
  ·
   obtain rfl : k = cs.length := by omega
   have HA := Lib.hid (HT.out hall.out)
   clear hall
   go_wp2
   go_ret
   exact ⟨Jy HA.out.symm, hbel⟩
set_option maxHeartbeats 4000000 in
theorem isOut_any (v : Value) (os : List Int) (w : World) (h : Uc w v os) (hn : os.length ≤ 1048576) :
  Calls Tryz.prog 217 #[v] w fun e w' => e = .returned (.bool (Yw os)) ∧ Below w w w' := by
 have H := Lib.hid h
 obtain ⟨a, cap, rfl⟩ := Yg h
 clear h
 by_cases hl : os.length < 1
 ·
  have HF : Hid (Yw os = false) := Lib.hid (by unfold Yw; rw [decide_eq_false (by omega : ¬ (1 ≤ os.length ∧ os.length ≤ 3)), Bool.and_false])
  have e0 : (os.length : Int) < 1 := by omega
  go_enter Tryz.func217, Tryz.ntmps217
  go_wp2
  go_ret
  exact ⟨Jy HF.out.symm, Il _ _⟩
 by_cases hg : 3 < os.length
 ·
  have HF : Hid (Yw os = false) := Lib.hid (by unfold Yw; rw [decide_eq_false (by omega : ¬ (1 ≤ os.length ∧ os.length ≤ 3)), Bool.and_false])
  have e0 : ¬ (os.length : Int) < 1 := by omega
  have e1 : (3 : Int) < (os.length : Int) := by omega
  go_enter Tryz.func217, Tryz.ntmps217
  go_wp2
  go_ret
  exact ⟨Jy HF.out.symm, Il _ _⟩
 have HT : Hid ((∀ k, k < os.length → 0 ≤ os.getD k 0 ∧ os.getD k 0 ≤ 2) → Yw os = true) := Lib.hid (fun g => by rw [fieldsB_all g]; exact decide_eq_true (by omega))
 have e0 : ¬ (os.length : Int) < 1 := by omega
 have e1 : ¬ (3 : Int) < (os.length : Int) := by omega
 go_enter Tryz.func217, Tryz.ntmps217
 go_wp2
 clear e0 e1 hl hg
 go_loopw [15] (fun i wr => ∃ k : Nat, k ≤ os.length ∧ i = .int .i64 k ∧ Hid (∀ j, j < k → 0 ≤ os.getD j 0 ∧ os.getD j 0 ≤ 2) ∧ wr = w) (fun i _ => os.length - (intOf i).toNat)
 case atStart => exact ⟨0, Ij _, rfl, Lib.hid (fun j hj => by omega), rfl⟩
 case round =>
  obtain ⟨k, hk, rfl, hall, rfl⟩ := hrel
  by_cases hlt : k < os.length
  ·
   obtain ⟨b, off, cap', hv, hbl, hc⟩ := Vq H.out (by omega)
   simp only [Ik] at hv
   obtain ⟨rfl, _, rfl⟩ := hv
   have hcell := hc k hlt
   have i1 : (0 : Int) ≤ (k : Int) := by omega
   have i2 : (k : Int) < (os.length : Int) := by omega
   clear hc
   by_cases hi : 0 ≤ os.getD k 0 ∧ os.getD k 0 ≤ 2
   ·
    have HA : Hid (∀ j, j < k + 1 → 0 ≤ os.getD j 0 ∧ os.getD j 0 ≤ 2) := Lib.hid (fun j hj => by
     by_cases e : j = k
     ·
      subst e; exact hi
     ·
      exact hall.out j (by omega))
    have HI := Lib.hid (fun w => isField_yes (os.getD k 0) w hi.1 (by omega))
    clear hi hall
    generalize os.getD k 0 = x at *
    go_wp2_with fail
    refine (HI.out _).mono ?_
    rintro e w1 ⟨rfl, rfl⟩
    go_wp2
    go_roundw
    case rel => exact ⟨k + 1, by omega, by go_num, HA, by simp⟩
    case measure => simp [intOf]; omega
   ·
    have HF := Lib.hid (fieldsB_bad hlt hi)
    have HI := Lib.hid (fun w => isField_no (os.getD k 0) w (by omega))
    clear hi hall
    generalize os.getD k 0 = x at *
    go_wp2_with fail
    refine (HI.out _).mono ?_
    rintro e w1 ⟨rfl, rfl⟩
    go_wp2
    go_ret
    exact ⟨Jy HF.out.symm, Il _ _⟩
  ·
   obtain rfl : k = os.length := by omega
   have HE := Lib.hid (HT.out hall.out)
   clear hall
   go_wp2
   go_ret
   exact ⟨Jy HE.out.symm, Il _ _⟩
set_option maxHeartbeats 4000000 in
theorem implIsQuery (id tn : Int) (cv ov : Value) (cs : List Ul) (os : List Int) (w : World) (h : CondsR w cv cs) (hn : cs.length ≤ 1048576) (g : Uc w ov os) (hm : os.length ≤ 1048576) :
  Calls Tryz.prog 164 #[qV id tn cv ov] w fun e w' => e = .returned (.bool (Xc id tn cs os)) ∧ Below w w w' := by
 obtain ⟨va, vcap, rfl⟩ := condsR_len h
 obtain ⟨oa, ocap, rfl⟩ := Yg g
 have hb0 : Below w w (w.alloc (.cells #[.int .i64 id, .int .i64 tn, .slice va cs.length vcap, .slice oa os.length ocap] 53)) := (Il _ w).alloc (Ii _) _
 have HB0 := Lib.hid hb0
 have HG0 := Lib.hid (Ic w (.cells #[.int .i64 id, .int .i64 tn, .slice va cs.length vcap, .slice oa os.length ocap] 53))
 have HH := Lib.hid (condsR_below h hb0)
 have HO := Lib.hid (Kx g hb0)
 have HV := Lib.hid (fun w h => areValid_any (.slice va cs.length vcap) cs w h hn)
 have HU := Lib.hid (fun w h => isOut_any (.slice oa os.length ocap) os w h hm)
 clear h g hn hm hb0
 have HQ : Hid (Xc id tn cs os = (decide (0 ≤ id ∧ id < 24) && (decide (0 ≤ tn ∧ tn < 4) && (condsV cs && Yw os)))) := Lib.hid (by
  unfold Xc condsV
  rw [show decide (0 ≤ id ∧ id < 24) = decide (0 ≤ id ∧ id ≤ 23) by congr 1; apply propext; omega, show decide (0 ≤ tn ∧ tn < 4) = decide (0 ≤ tn ∧ tn ≤ 3) by congr 1; apply propext; omega]
  cases condsB cs <;> cases decide (0 ≤ id ∧ id ≤ 23) <;> cases decide (0 ≤ tn ∧ tn ≤ 3) <;> cases decide (cs.length ≤ 3) <;> cases Yw os <;> rfl)
 by_cases h1 : 0 ≤ id ∧ id < 24
 ·
  have H1 := Lib.hid (fun w => isQNum_yes id w h1.1 h1.2)
  rw [decide_eq_true h1, Bool.true_and] at HQ
  clear h1
  by_cases h2 : 0 ≤ tn ∧ tn < 4
  ·
   have H2 := Lib.hid (fun w => isTenant_yes tn w h2.1 h2.2)
   rw [decide_eq_true h2, Bool.true_and] at HQ
   clear h2
   cases h3 : condsV cs with
   | false =>
    have HT : Hid (Xc id tn cs os = false) := Lib.hid (by rw [HQ.out, h3, Bool.false_and])
    rw [h3] at HV
    clear h3 HQ
    go_enter Tryz.func164, Tryz.ntmps164
    go_wp2_with fail
    generalize w.alloc (.cells #[.int .i64 id, .int .i64 tn, .slice va cs.length vcap, .slice oa os.length ocap] 53) = W at *
    obtain ⟨p0, p1, p2, p3⟩ := box_cells4 HG0.out (Il _ _)
    refine (H1.out _).mono ?_
    rintro e w1 ⟨rfl, rfl⟩
    go_wp2_with fail
    refine (H2.out _).mono ?_
    rintro e w2 ⟨rfl, rfl⟩
    go_wp2_with fail
    refine (HV.out _ HH.out).mono ?_
    rintro e w3 ⟨rfl, b3⟩
    have c3 := HB0.out.trans (b3.mono HB0.out.size)
    go_wp2
    go_ret
    exact ⟨Jy HT.out.symm, c3⟩
   | true =>
    have HT : Hid (Xc id tn cs os = Yw os) := Lib.hid (by rw [HQ.out, h3, Bool.true_and])
    rw [h3] at HV
    clear h3 HQ
    generalize Yw os = r at *
    go_enter Tryz.func164, Tryz.ntmps164
    go_wp2_with fail
    generalize w.alloc (.cells #[.int .i64 id, .int .i64 tn, .slice va cs.length vcap, .slice oa os.length ocap] 53) = W at *
    obtain ⟨p0, p1, p2, p3⟩ := box_cells4 HG0.out (Il _ _)
    refine (H1.out _).mono ?_
    rintro e w1 ⟨rfl, rfl⟩
    go_wp2_with fail
    refine (H2.out _).mono ?_
    rintro e w2 ⟨rfl, rfl⟩
    go_wp2_with fail
    refine (HV.out _ HH.out).mono ?_
    rintro e w3 ⟨rfl, b3⟩
    have c3 := HB0.out.trans (b3.mono HB0.out.size)
    clear p0 p1 p2 p3
    obtain ⟨p0, p1, p2, p3⟩ := box_cells4 HG0.out b3
    have I3 := Lib.hid (Kx HO.out b3)
    clear b3
    go_wp2_with fail
    refine (HU.out _ I3.out).mono ?_
    rintro e w4 ⟨rfl, b4⟩
    have c4 := c3.trans (b4.mono c3.size)
    go_wp2
    go_ret
    exact ⟨Jy HT.out.symm, c4⟩
  ·
   have H2 := Lib.hid (fun w => isTenant_no tn w h2)
   have HT : Hid (Xc id tn cs os = false) := Lib.hid (by rw [HQ.out, decide_eq_false h2, Bool.false_and])
   clear h2 HQ
   go_enter Tryz.func164, Tryz.ntmps164
   go_wp2_with fail
   generalize w.alloc (.cells #[.int .i64 id, .int .i64 tn, .slice va cs.length vcap, .slice oa os.length ocap] 53) = W at *
   obtain ⟨p0, p1, p2, p3⟩ := box_cells4 HG0.out (Il _ _)
   refine (H1.out _).mono ?_
   rintro e w1 ⟨rfl, rfl⟩
   go_wp2_with fail
   refine (H2.out _).mono ?_
   rintro e w2 ⟨rfl, rfl⟩
   go_wp2
   go_ret
   exact ⟨Jy HT.out.symm, HB0.out⟩
 ·
  have H1 := Lib.hid (fun w => isQNum_no id w h1)
  have HT : Hid (Xc id tn cs os = false) := Lib.hid (by rw [HQ.out, decide_eq_false h1, Bool.false_and])
  clear h1 HQ
  go_enter Tryz.func164, Tryz.ntmps164
  go_wp2_with fail
  generalize w.alloc (.cells #[.int .i64 id, .int .i64 tn, .slice va cs.length vcap, .slice oa os.length ocap] 53) = W at *
  obtain ⟨p0, p1, p2, p3⟩ := box_cells4 HG0.out (Il _ _)
  refine (H1.out _).mono ?_
  rintro e w1 ⟨rfl, rfl⟩
  go_wp2
  go_ret
  exact ⟨Jy HT.out.symm, HB0.out⟩
set_option maxHeartbeats 4000000 in
theorem isLimit_any (n : Int) (w : World) :
  Calls Tryz.prog 62 #[.int .i64 n] w (fun e w' => e = .returned (.bool (decide (0 ≤ n ∧ n ≤ 32))) ∧ Below w w w') := by
 have d := zh (show Below w w w from Il _ _)
 by_cases h1 : 0 ≤ n
 ·
  by_cases h2 : n ≤ 32
  ·
   have HF : Hid (decide (0 ≤ n ∧ n ≤ 32) = true) := zh (decide_eq_true ⟨h1, h2⟩)
   have f1 : decide (0 ≤ n) = true := decide_eq_true h1
   have f2 : decide (n ≤ 32) = true := decide_eq_true h2
   rw [HF.out]
   clear h1 h2
   go_enter Tryz.func62, Tryz.ntmps62
   go_wp2
   go_ret
   exact ⟨rfl, d.out⟩
  ·
   have HF : Hid (decide (0 ≤ n ∧ n ≤ 32) = false) := zh (decide_eq_false (fun q => h2 q.2))
   have f1 : decide (0 ≤ n) = true := decide_eq_true h1
   have f2 : decide (n ≤ 32) = false := decide_eq_false h2
   rw [HF.out]
   clear h1 h2
   go_enter Tryz.func62, Tryz.ntmps62
   go_wp2
   go_ret
   exact ⟨rfl, d.out⟩
 ·
  have HF : Hid (decide (0 ≤ n ∧ n ≤ 32) = false) := zh (decide_eq_false (fun q => h1 q.1))
  have f1 : decide (0 ≤ n) = false := decide_eq_false h1
  rw [HF.out]
  clear h1
  go_enter Tryz.func62, Tryz.ntmps62
  go_wp2
  go_ret
  exact ⟨rfl, d.out⟩
set_option maxHeartbeats 4000000 in
theorem canGet_any (sg ba : Int) (p2 p3 p4 : Option Addr) (n2 c2 n3 c3 n4 c4 : Nat) (y : Int) (w : World) :
  Calls Tryz.prog 203 #[.agg #[.int .i64 sg, .int .i64 ba, .slice p2 n2 c2, .slice p3 n3 c3, .slice p4 n4 c4], .int .i64 y] w (fun e w' => e = .returned (.bool (decide (0 ≤ y ∧ y ≤ ba))) ∧ Below w w w') := by
 have d := zh (show Below w w (w.alloc (.cells #[.int .i64 sg, .int .i64 ba, .slice p2 n2 c2, .slice p3 n3 c3, .slice p4 n4 c4] 162)) from (Il _ _).alloc (Ii _) _)
 by_cases h1 : 0 ≤ y
 ·
  by_cases h2 : y ≤ ba
  ·
   have HF : Hid (decide (0 ≤ y ∧ y ≤ ba) = true) := zh (decide_eq_true ⟨h1, h2⟩)
   have f1 : decide (0 ≤ y) = true := decide_eq_true h1
   have f2 : decide (y ≤ ba) = true := decide_eq_true h2
   rw [HF.out]
   clear h1 h2
   go_enter Tryz.func203, Tryz.ntmps203
   go_wp2
   go_ret
   exact ⟨rfl, d.out⟩
  ·
   have HF : Hid (decide (0 ≤ y ∧ y ≤ ba) = false) := zh (decide_eq_false (fun q => h2 q.2))
   have f1 : decide (0 ≤ y) = true := decide_eq_true h1
   have f2 : decide (y ≤ ba) = false := decide_eq_false h2
   rw [HF.out]
   clear h1 h2
   go_enter Tryz.func203, Tryz.ntmps203
   go_wp2
   go_ret
   exact ⟨rfl, d.out⟩
 ·
  have HF : Hid (decide (0 ≤ y ∧ y ≤ ba) = false) := zh (decide_eq_false (fun q => h1 q.1))
  have f1 : decide (0 ≤ y) = false := decide_eq_false h1
  rw [HF.out]
  clear h1
  go_enter Tryz.func203, Tryz.ntmps203
  go_wp2
  go_ret
  exact ⟨rfl, d.out⟩
set_option maxHeartbeats 8000000 in
theorem allRows  (v : Value) (l : List Ej) (w : World)  (h : Ko Ke w v l) (hs : zL Ke l ≤ 1048576) :
  Calls Tryz.prog 241 #[v, .func (.func 242) #[] #[]] w (fun e w' => e = .returned (.bool (l.all (Ui))) ∧ Below w w w') := by
 have hlen := Jz hs
 have HS := zh hs
 have H := zh h
 obtain ⟨a, cap, rfl⟩ := Jl h
 clear h hs
 go_enter Tryz.func241, Tryz.ntmps241
 go_wp2
 go_loopw [9] (fun i wr => ∃ k : Nat, k ≤ l.length ∧ i = .int .i64 k ∧ Hid (Ux (Ui) ((0, []) : Ej) l k) ∧ Below w w wr) (fun i _ => l.length - (intOf i).toNat)
 case atStart => exact ⟨0, Ij _, rfl, zh (Xy _ _ _), Il _ _⟩
 case round =>
  obtain ⟨k, hk, rfl, hno, c⟩ := hrel
  have cw := zh c
  by_cases hlt : k < l.length
  ·
   have i1 : (0 : Int) ≤ (k : Int) := by omega
   have i2 : (k : Int) < (l.length : Int) := by omega
   have hz := Vj HS.out hlt
   change Ke.sz (l.getD k ((0, []) : Ej)) ≤ 1048576 at hz
   have HST : Hid ((Ui) (l.getD k ((0, []) : Ej)) = true → Ux (Ui) ((0, []) : Ej) l (k + 1)) := zh (fun g => Xz hno.out g)
   have HNO : Hid ((Ui) (l.getD k ((0, []) : Ej)) = false → l.all (Ui) = false) := zh (fun g => allB_no ((0, []) : Ej) hlt g)
   obtain ⟨b, off, cap', cs, hv, hbl, hcs, hR⟩ := Ku (Jb Jw H.out c) hlt
   simp only [Ik] at hv
   obtain ⟨rfl, _, rfl⟩ := hv
   change Ke.R wr cs (l.getD k (0, [])) at hR
   generalize l.getD k ((0, []) : Ej) = r at *
   obtain ⟨id, xs⟩ := r
   obtain ⟨v1, rfl, h1⟩ := tRow_R hR
   rw [tRow_sz] at hz
   obtain ⟨xa, xc, rfl⟩ := Jl h1
   have e0 : wr.cell? ⟨b, off + k * 2, none⟩ = some (Value.int .i64 id) := hcs 0 (by decide)
   have e1 : wr.cell? ⟨b, off + k * 2 + 1, none⟩ = some (Value.slice xa xs.length xc) := hcs 1 (by decide)
   have hal : Below wr wr (wr.alloc (.cells #[.int .i64 id, .slice xa xs.length xc] 75)) := (Il _ _).alloc (Ii _) _
   have HC0 := implIsRow id (.slice xa xs.length xc) xs _ (Yd (Jb Jc h1 hal)) (Jz hz)
   have HC := zh (HC0.mono (fun e w' hh => (⟨hh.1, hal.trans (hh.2.mono hal.size)⟩ : e = .returned (.bool (Ui (id, xs))) ∧ Below wr wr w')))
   clear HC0 hal hcs hR h1 hz hbl
   clear hno c
   obtain ⟨bv, hbv⟩ : ∃ bv, bv = Ui (id, xs) := ⟨_, rfl⟩
   rw [← hbv] at HC HST HNO
   clear hbv
   cases bv with
   | true =>
    have HT := zh (HST.out rfl)
    clear HST HNO
    go_wp2_with fail
    refine HC.out.mono ?_
    rintro e w2 ⟨rfl, c2⟩
    have cw2 := zh (cw.out.trans (c2.mono cw.out.size))
    clear c2 HC e0 e1
    go_wp2
    go_roundw
    case rel => exact ⟨k + 1, by omega, by go_num, HT, cw2.out⟩
    case measure => simp [intOf]; omega
   | false =>
    have HF := zh (HNO.out rfl)
    clear HST HNO
    go_wp2_with fail
    refine HC.out.mono ?_
    rintro e w2 ⟨rfl, c2⟩
    have cw2 := zh (cw.out.trans (c2.mono cw.out.size))
    clear c2 HC e0 e1
    go_wp2
    go_ret
    exact ⟨Jy HF.out.symm, cw2.out⟩
  ·
   obtain rfl : k = l.length := by omega
   have HA := zh (Ee (p := Ui) ((0, []) : Ej) hno.out)
   clear hno c
   go_wp2
   go_ret
   exact ⟨Jy HA.out.symm, cw.out⟩
theorem isTenant_ten (n : Int) (w : World) : Calls Tryz.prog 202 #[.int .i64 n] w fun e w' => e = .returned (.bool (tenB n)) ∧ Below w w w' := by
 by_cases h : 0 ≤ n ∧ n < 4
 ·
  have e : tenB n = true := decide_eq_true ⟨h.1, by omega⟩
  rw [e]
  exact (isTenant_yes n w h.1 h.2).mono (fun e w' hh => ⟨hh.1, by rw [hh.2]; exact Il _ _⟩)
 ·
  have e : tenB n = false := decide_eq_false (fun g => h ⟨g.1, by omega⟩)
  rw [e]
  exact (isTenant_no n w h).mono (fun e w' hh => ⟨hh.1, by rw [hh.2]; exact Il _ _⟩)
set_option maxHeartbeats 8000000 in
theorem allTen  (v : Value) (l : List Int) (w : World)  (h : Ko Je w v l) (hs : zL Je l ≤ 1048576) :
  Calls Tryz.prog 201 #[v, .func (.func 202) #[] #[]] w (fun e w' => e = .returned (.bool (l.all (tenB))) ∧ Below w w w') := by
 have hlen := Jz hs
 have HS := zh hs
 have H := zh h
 obtain ⟨a, cap, rfl⟩ := Jl h
 clear h hs
 go_enter Tryz.func201, Tryz.ntmps201
 go_wp2
 go_loopw [9] (fun i wr => ∃ k : Nat, k ≤ l.length ∧ i = .int .i64 k ∧ Hid (Ux (tenB) 0 l k) ∧ Below w w wr) (fun i _ => l.length - (intOf i).toNat)
 case atStart => exact ⟨0, Ij _, rfl, zh (Xy _ _ _), Il _ _⟩
 case round =>
  obtain ⟨k, hk, rfl, hno, c⟩ := hrel
  have cw := zh c
  by_cases hlt : k < l.length
  ·
   have i1 : (0 : Int) ≤ (k : Int) := by omega
   have i2 : (k : Int) < (l.length : Int) := by omega
   have hz := Vj HS.out hlt
   change Je.sz (l.getD k 0) ≤ 1048576 at hz
   have HST : Hid ((tenB) (l.getD k 0) = true → Ux (tenB) 0 l (k + 1)) := zh (fun g => Xz hno.out g)
   have HNO : Hid ((tenB) (l.getD k 0) = false → l.all (tenB) = false) := zh (fun g => allB_no 0 hlt g)
   obtain ⟨b, off, cap', hv, hbl, hc⟩ := Vq (Yd (Jb Jc H.out c)) (by omega)
   simp only [Ik] at hv
   obtain ⟨rfl, _, rfl⟩ := hv
   have e0 := hc k hlt
   clear hc hbl hz
   generalize l.getD k 0 = y at *
   have HC := zh (isTenant_ten y wr)
   clear hno c
   obtain ⟨bv, hbv⟩ : ∃ bv, bv = tenB y := ⟨_, rfl⟩
   rw [← hbv] at HC HST HNO
   clear hbv
   cases bv with
   | true =>
    have HT := zh (HST.out rfl)
    clear HST HNO
    go_wp2_with fail
    refine HC.out.mono ?_
    rintro e w2 ⟨rfl, c2⟩
    have cw2 := zh (cw.out.trans (c2.mono cw.out.size))
    clear c2 HC e0
    go_wp2
    go_roundw
    case rel => exact ⟨k + 1, by omega, by go_num, HT, cw2.out⟩
    case measure => simp [intOf]; omega
   | false =>
    have HF := zh (HNO.out rfl)
    clear HST HNO
    go_wp2_with fail
    refine HC.out.mono ?_
    rintro e w2 ⟨rfl, c2⟩
    have cw2 := zh (cw.out.trans (c2.mono cw.out.size))
    clear c2 HC e0
    go_wp2
    go_ret
    exact ⟨Jy HF.out.symm, cw2.out⟩
  ·
   obtain rfl : k = l.length := by omega
   have HA := zh (Ee (p := tenB) 0 hno.out)
   clear hno c
   go_wp2
   go_ret
   exact ⟨Jy HA.out.symm, cw.out⟩
set_option maxHeartbeats 8000000 in
theorem allGet (sg ba : Int) (p2 p3 p4 : Option Addr) (n2 c2 n3 c3 n4 c4 : Nat) (v : Value) (l : List Int) (w : World)  (h : Ko Je w v l) (hs : zL Je l ≤ 1048576) :
  Calls Tryz.prog 201 #[v, .func (.func 203) #[.agg #[.int .i64 sg, .int .i64 ba, .slice p2 n2 c2, .slice p3 n3 c3, .slice p4 n4 c4]] #[]] w (fun e w' => e = .returned (.bool (l.all (getB ba))) ∧ Below w w w') := by
 have hlen := Jz hs
 have HS := zh hs
 have H := zh h
 obtain ⟨a, cap, rfl⟩ := Jl h
 clear h hs
 go_enter Tryz.func201, Tryz.ntmps201
 go_wp2
 go_loopw [9] (fun i wr => ∃ k : Nat, k ≤ l.length ∧ i = .int .i64 k ∧ Hid (Ux (getB ba) 0 l k) ∧ Below w w wr) (fun i _ => l.length - (intOf i).toNat)
 case atStart => exact ⟨0, Ij _, rfl, zh (Xy _ _ _), Il _ _⟩
 case round =>
  obtain ⟨k, hk, rfl, hno, c⟩ := hrel
  have cw := zh c
  by_cases hlt : k < l.length
  ·
   have i1 : (0 : Int) ≤ (k : Int) := by omega
   have i2 : (k : Int) < (l.length : Int) := by omega
   have hz := Vj HS.out hlt
   change Je.sz (l.getD k 0) ≤ 1048576 at hz
   have HST : Hid ((getB ba) (l.getD k 0) = true → Ux (getB ba) 0 l (k + 1)) := zh (fun g => Xz hno.out g)
   have HNO : Hid ((getB ba) (l.getD k 0) = false → l.all (getB ba) = false) := zh (fun g => allB_no 0 hlt g)
   obtain ⟨b, off, cap', hv, hbl, hc⟩ := Vq (Yd (Jb Jc H.out c)) (by omega)
   simp only [Ik] at hv
   obtain ⟨rfl, _, rfl⟩ := hv
   have e0 := hc k hlt
   clear hc hbl hz
   generalize l.getD k 0 = y at *
   have HC : Hid (Calls Tryz.prog 203 #[.agg #[.int .i64 sg, .int .i64 ba, .slice p2 n2 c2, .slice p3 n3 c3, .slice p4 n4 c4], .int .i64 y] wr (fun e w' => e = .returned (.bool (getB ba y)) ∧ Below wr wr w')) := zh (canGet_any sg ba p2 p3 p4 n2 c2 n3 c3 n4 c4 y wr)
   clear hno c
   obtain ⟨bv, hbv⟩ : ∃ bv, bv = getB ba y := ⟨_, rfl⟩
   rw [← hbv] at HC HST HNO
   clear hbv
   cases bv with
   | true =>
    have HT := zh (HST.out rfl)
    clear HST HNO
    go_wp2_with fail
    refine HC.out.mono ?_
    rintro e w2 ⟨rfl, c2⟩
    have cw2 := zh (cw.out.trans (c2.mono cw.out.size))
    clear c2 HC e0
    go_wp2
    go_roundw
    case rel => exact ⟨k + 1, by omega, by go_num, HT, cw2.out⟩
    case measure => simp [intOf]; omega
   | false =>
    have HF := zh (HNO.out rfl)
    clear HST HNO
    go_wp2_with fail
    refine HC.out.mono ?_
    rintro e w2 ⟨rfl, c2⟩
    have cw2 := zh (cw.out.trans (c2.mono cw.out.size))
    clear c2 HC e0
    go_wp2
    go_ret
    exact ⟨Jy HF.out.symm, cw2.out⟩
  ·
   obtain rfl : k = l.length := by omega
   have HA := zh (Ee (p := getB ba) 0 hno.out)
   clear hno c
   go_wp2
   go_ret
   exact ⟨Jy HA.out.symm, cw.out⟩
theorem list_split (l : List Ej) : Ec l = (decide (l.length ≤ 1000) && l.all Ui) := rfl
def ansB (q : QD) (t : Int) (rs : List Ej) (now : Int) : Bool := (qdB q && decide (0 ≤ t ∧ t ≤ now)) && Ec rs
theorem ans_no1 {q : QD} {t now : Int} {rs : List Ej} (h : qdB q = false) : ansB q t rs now = false := by unfold ansB; rw [h]; rfl
theorem ans_no2 {q : QD} {t now : Int} {rs : List Ej} (h : ¬ (0 ≤ t ∧ t ≤ now)) : ansB q t rs now = false := by unfold ansB; rw [decide_eq_false h]; simp
theorem ans_no3 {q : QD} {t now : Int} {rs : List Ej} (h : Ec rs = false) : ansB q t rs now = false := by unfold ansB; rw [h]; simp
theorem ans_yes {q : QD} {t now : Int} {rs : List Ej} (h1 : qdB q = true) (h2 : 0 ≤ t ∧ t ≤ now) (h3 : Ec rs = true) : ansB q t rs now = true := by unfold ansB; rw [h1, decide_eq_true h2, h3]; rfl
set_option maxHeartbeats 8000000 in
theorem isAnswer_any (a0 a1 t now : Int) (v2 v3 rv : Value) (x2 : List Ul) (x3 : List Int) (rs : List Ej) (w : World) (h2 : Ko Jk w v2 x2) (h3 : Ko Je w v3 x3) (h9 : Ko Ke w rv rs) (s2 : zL Jk x2 ≤ 1048576) (s3 : zL Je x3 ≤ 1048576) (s9 : zL Ke rs ≤ 1048576) :
  Calls Tryz.prog 199 #[.agg #[a0, a1, v2, v3], .int .i64 t, rv, .int .i64 now] w (fun e w' => e = .returned (.bool (ansB (a0, a1, x2, x3) t rs now)) ∧ Below w w w') := by
 obtain ⟨p2, c2, rfl⟩ := Jl h2
 obtain ⟨p3, c3, rfl⟩ := Jl h3
 obtain ⟨p9, c9, rfl⟩ := Jl h9
 have H2 := zh h2; have H3 := zh h3; have H9 := zh h9; have N2 := zh (Jz s2); have N3 := zh (Jz s3); have S9 := zh s9; have n9 := Jz s9
 clear h2 h3 h9 s2 s3 s9
 have d := zh (show Below w w (w.alloc (.cells #[a0, a1, .slice p2 x2.length c2, .slice p3 x3.length c3] 53)) from ((Il _ w).alloc (Ii _) _))
 have B0 : Hid ((w.alloc (.cells #[a0, a1, .slice p2 x2.length c2, .slice p3 x3.length c3] 53)).heap[w.heap.size]? = some (.cells #[a0, a1, .slice p2 x2.length c2, .slice p3 x3.length c3] 53 (0, 0))) := zh (by
  exact Ic w _)
 have YW : Hid (w.heap.size + 1 ≤ (w.alloc (.cells #[a0, a1, .slice p2 x2.length c2, .slice p3 x3.length c3] 53)).heap.size) := zh (by simp [Ie])
 go_enter Tryz.func199, Tryz.ntmps199
 go_wp2_with fail
 generalize (w.alloc (.cells #[a0, a1, .slice p2 x2.length c2, .slice p3 x3.length c3] 53)) = W at *
 refine (implIsQuery a0 a1 (.slice p2 x2.length c2) (.slice p3 x3.length c3) x2 x3 W (slR_conds (Jb Jt H2.out d.out)) N2.out (Yd (Jb Jc H3.out d.out)) N3.out).mono ?_
 rintro e W1 ⟨rfl, c⟩
 replace B0 := zb c B0
 replace d := zD d c
 have Z_W1 := zh (show W.heap.size ≤ W1.heap.size from c.size)
 clear c
 rcases Bool.eq_false_or_eq_true (Xc a0 a1 x2 x3) with hq | hq
 rotate_left
 ·
  rw [hq]
  have HF := zh (ans_no1 (q := (a0, a1, x2, x3)) (t := t) (now := now) (rs := rs) hq)
  clear hq
  have cp_B0_0 := cls4 B0.out
  go_wp2
  clear cp_B0_0
  go_ret
  exact ⟨Jy HF.out.symm, d.out⟩
 rw [hq]
 have HQ := zh hq
 clear hq
 by_cases hp1 : 0 ≤ t
 rotate_left
 ·
  have HF := zh (ans_no2 (q := (a0, a1, x2, x3)) (t := t) (now := now) (rs := rs) (fun g => hp1 g.1))
  have f1 : decide (0 ≤ t) = false := decide_eq_false hp1
  clear hp1
  have cp_B0_0 := cls4 B0.out
  go_wp2
  clear cp_B0_0
  go_ret
  exact ⟨Jy HF.out.symm, d.out⟩
 have f1 : decide (0 ≤ t) = true := decide_eq_true hp1
 have HP1 := zh hp1
 clear hp1
 by_cases hp2 : t ≤ now
 rotate_left
 ·
  have HF := zh (ans_no2 (q := (a0, a1, x2, x3)) (t := t) (now := now) (rs := rs) (fun g => hp2 g.2))
  have f2 : decide (t ≤ now) = false := decide_eq_false hp2
  clear hp2
  have cp_B0_0 := cls4 B0.out
  go_wp2
  clear cp_B0_0
  go_ret
  exact ⟨Jy HF.out.symm, d.out⟩
 have f2 : decide (t ≤ now) = true := decide_eq_true hp2
 have HP2 := zh hp2
 clear hp2
 by_cases hp3 : rs.length ≤ 1000
 rotate_left
 ·
  have HF := zh (ans_no3 (q := (a0, a1, x2, x3)) (t := t) (now := now) (rs := rs) (by rw [list_split, decide_eq_false hp3]; rfl))
  have f3 : decide ((rs.length : Int) ≤ 1000) = false := decide_eq_false (by omega)
  clear hp3
  have cp_B0_0 := cls4 B0.out
  go_wp2
  clear cp_B0_0
  go_ret
  exact ⟨Jy HF.out.symm, d.out⟩
 have f3 : decide ((rs.length : Int) ≤ 1000) = true := decide_eq_true (by omega)
 have HP3 := zh hp3
 clear hp3
 have HC := zh (allRows (.slice p9 rs.length c9) rs W1 (Jb Jw H9.out d.out) S9.out)
 have cp_B0_0 := cls4 B0.out
 go_wp2_with fail
 clear cp_B0_0 f1 f2 f3
 refine HC.out.mono ?_
 rintro e W8 ⟨rfl, c⟩
 replace B0 := zb c B0
 replace d := zD d c
 have Z_W8 := zh (show W1.heap.size ≤ W8.heap.size from c.size)
 clear c HC
 have HT : Hid (rs.all Ui = ansB (a0, a1, x2, x3) t rs now) := zh (by
  rcases Bool.eq_false_or_eq_true (rs.all Ui) with g | g
  ·
   rw [g]; exact (ans_yes (q := (a0, a1, x2, x3)) (t := t) (now := now) (rs := rs) HQ.out ⟨HP1.out, HP2.out⟩ (by rw [list_split, decide_eq_true HP3.out, g]; rfl)).symm
  ·
   rw [g]; exact (ans_no3 (q := (a0, a1, x2, x3)) (t := t) (now := now) (rs := rs) (by rw [list_split, g]; simp)).symm)
 rw [HT.out]
 have cp_B0_0 := cls4 B0.out
 go_wp2
 clear cp_B0_0
 go_ret
 exact ⟨rfl, d.out⟩
set_option maxHeartbeats 8000000 in
theorem areSegments_any (v : Value) (l : List Int) (sa : Option Addr) (n sc : Nat) (now : Int) (w : World) (h : Ko Je w v l) (hl : l.length ≤ 1048576) (hn : n ≤ 1048576) :
  Calls Tryz.prog 240 #[v, .agg #[.slice sa n sc, .int .i64 now]] w (fun e w' => e = .returned (.bool (decide (Uw l n l.length))) ∧ Below w w w') := by
 obtain ⟨a, cap, rfl⟩ := Jl h
 have H := zh h
 clear h
 have d := zh (show Below w w (w.alloc (.cells #[.slice sa n sc, .int .i64 now] 35)) from ((Il _ w).alloc (Ii _) _))
 have B0 : Hid ((w.alloc (.cells #[.slice sa n sc, .int .i64 now] 35)).heap[w.heap.size]? = some (.cells #[.slice sa n sc, .int .i64 now] 35 (0, 0))) := zh (by
  exact Ic w _)
 have YW : Hid (w.heap.size + 1 ≤ (w.alloc (.cells #[.slice sa n sc, .int .i64 now] 35)).heap.size) := zh (by simp [Ie])
 go_enter Tryz.func240, Tryz.ntmps240
 go_wp2
 generalize (w.alloc (.cells #[.slice sa n sc, .int .i64 now] 35)) = W at *
 go_loopw [9] (fun i wr => ∃ k : Nat, k ≤ l.length ∧ i = .int .i64 k ∧ Hid (Uw l n k) ∧ Below W W wr) (fun i _ => l.length - (intOf i).toNat)
 case atStart => exact ⟨0, Ij _, rfl, zh (todoTo_zero _ _), Il _ _⟩
 case round =>
  obtain ⟨k, hk, rfl, hno, c⟩ := hrel
  have cw := zh c
  replace B0 := zb c B0
  replace d := zD d c
  clear c
  by_cases hlt : k < l.length
  ·
   have i1 : (0 : Int) ≤ (k : Int) := by omega
   have i2 : (k : Int) < (l.length : Int) := by omega
   obtain ⟨b, off, cap', hv, hbl, hc⟩ := Vq (Yd (Jb Jc H.out d.out)) (by omega)
   simp only [Ik] at hv
   obtain ⟨rfl, _, rfl⟩ := hv
   have e0 := hc k hlt
   have HS : Hid ((0 ≤ l.getD k 0 ∧ l.getD k 0 < n) → (0 < k → l.getD (k - 1) 0 < l.getD k 0) → Uw l n (k + 1)) := zh (fun g1 g2 => todoTo_step hno.out g1.1 g1.2 g2)
   have HN : Hid (¬ ((0 ≤ l.getD k 0 ∧ l.getD k 0 < n) ∧ (0 < k → l.getD (k - 1) 0 < l.getD k 0)) → decide (Uw l n l.length) = false) := zh (fun g => decide_eq_false (todo_no hlt g))
   clear hno
   by_cases hz : k = 0
   ·
    have f1 : decide ((0 : Int) < (k : Int)) = false := decide_eq_false (by omega)
    have f1n : decide (0 < k) = false := decide_eq_false (by omega)
    have HK := zh hz
    clear hz hc
    generalize l.getD k 0 = y at *
    have cp_B0_0 := Vl B0.out
    go_wp2_with fail
    clear cp_B0_0
    refine (hasSegment_any sa n sc now y wr hn).mono ?_
    rintro e w2 ⟨rfl, c⟩
    have d2 := zh c
    replace B0 := zb c B0
    replace d := zD d c
    have Z_w2 := zh (show wr.heap.size ≤ w2.heap.size from c.size)
    clear c
    by_cases hin : 0 ≤ y ∧ y < (n : Int)
    rotate_left
    ·
     have HF := zh (HN.out (fun g => hin g.1))
     rw [decide_eq_false hin]
     clear hin HN HS
     have cp_B0_0 := Vl B0.out
     go_wp2
     clear cp_B0_0
     go_ret
     exact ⟨Jy HF.out.symm, d.out⟩
    rw [decide_eq_true hin]
    have HIN := zh hin
    clear hin
    have HT := zh (HS.out HIN.out (fun g => absurd g (by have := HK.out; omega)))
    clear HS HN
    have cp_B0_0 := Vl B0.out
    go_wp2
    clear cp_B0_0
    go_roundw
    case rel => exact ⟨k + 1, by omega, by go_num, HT, cw.out.trans (d2.out.mono cw.out.size)⟩
    case measure => simp [intOf]; omega
   ·
    have HK : Hid (0 < k) := zh (by omega)
    have f1 : decide ((0 : Int) < (k : Int)) = true := decide_eq_true (by omega)
    have f1n : decide (0 < k) = true := decide_eq_true (by omega)
    have i3 : (0 : Int) ≤ (k : Int) - 1 := by omega
    have i4 : (k : Int) - 1 < (l.length : Int) := by omega
    have i5 : ((k : Int) - 1).toNat = k - 1 := by omega
    have i6 : IntKind.i64.wrap ((k : Int) - 1) = (k : Int) - 1 := IntWalk.i64_in _ (by omega)
    have g0 := hc (k - 1) (by omega)
    clear hz hc
    generalize l.getD (k - 1) 0 = z at *
    generalize l.getD k 0 = y at *
    have cp_B0_0 := Vl B0.out
    go_wp2_with fail
    clear cp_B0_0
    refine (hasSegment_any sa n sc now y wr hn).mono ?_
    rintro e w2 ⟨rfl, c⟩
    have d2 := zh c
    replace B0 := zb c B0
    replace d := zD d c
    have Z_w2 := zh (show wr.heap.size ≤ w2.heap.size from c.size)
    clear c
    by_cases hin : 0 ≤ y ∧ y < (n : Int)
    rotate_left
    ·
     have HF := zh (HN.out (fun g => hin g.1))
     rw [decide_eq_false hin]
     clear hin HN HS
     have cp_B0_0 := Vl B0.out
     go_wp2
     clear cp_B0_0
     go_ret
     exact ⟨Jy HF.out.symm, d.out⟩
    rw [decide_eq_true hin]
    have HIN := zh hin
    clear hin
    have g1 := (d2.out.cell (p := ⟨b, off + (k - 1), none⟩) (show b < wr.heap.size from hbl)).trans g0
    clear g0
    by_cases hle : z < y
    rotate_left
    ·
     have HF := zh (HN.out (fun g => hle (g.2 HK.out)))
     have f2 : decide (y ≤ z) = true := decide_eq_true (by omega)
     clear hle HN HS
     have cp_B0_0 := Vl B0.out
     go_wp2
     clear cp_B0_0
     go_ret
     exact ⟨Jy HF.out.symm, d.out⟩
    have HT := zh (HS.out HIN.out (fun _ => hle))
    have f2 : decide (y ≤ z) = false := decide_eq_false (by omega)
    clear hle HS HN
    have cp_B0_0 := Vl B0.out
    go_wp2
    clear cp_B0_0
    go_roundw
    case rel => exact ⟨k + 1, by omega, by go_num, HT, cw.out.trans (d2.out.mono cw.out.size)⟩
    case measure => simp [intOf]; omega
  ·
   obtain rfl : k = l.length := by omega
   have HT : Hid (decide (Uw l n l.length) = true) := zh (decide_eq_true hno.out)
   clear hno
   have cp_B0_0 := Vl B0.out
   go_wp2
   clear cp_B0_0
   go_ret
   exact ⟨Jy HT.out.symm, d.out⟩
end Go.Proofs.YtnepfacnmaoieaaGreatDoor
