/-
 Texts of the proof, merged: CheckP, FindSpanP, ProbeP, CountP, WorkP.
-/
import Derived.Test.YtededfficggkaaaDoorI5
import Derived.Test.YtededfficggkaaaDoorI6
import Derived.Test.YtededfficggkaaaDoorI11
import Derived.Test.YtededfficggkaaaDoorI12
import Derived.Test.YtededfficggkaaaDoorI14
import Derived.Test.YtededfficggkaaaDoorI23
import Derived.Test.YtededfficggkaaaDoorI25
import Derived.Test.YtededfficggkaaaDoorI27
import Derived.Laws.CopyOwn
import Derived.Lib.MinMax
import Derived.IntWalk
import Derived.Maps.RangeWalk
namespace Go.Proofs.YtededfficggkaaaDoor
open Go.RowKit
set_option linter.unusedVariables false
set_option linter.unusedSimpArgs false
theorem Tryd.info1_SpanS : (Tryd.prog.info? 37).map (·.size) = some 1 := by kernel_rfl
/-- The three lists of spans of a checked index are read. -/
def CI (w : World) (fs : List (List SpanD)) (s0 s1 s2 : Value) : Prop := SlR tSpan w s0 (fs.getD 0 []) ∧ SlR tSpan w s1 (fs.getD 1 []) ∧ SlR tSpan w s2 (fs.getD 2 [])
theorem ci_below {W w : World} {fs : List (List SpanD)} {s0 s1 s2 : Value} (h : CI W fs s0 s1 s2) (hb : Below W.heap.size W w) : CI w fs s0 s1 s2 :=
 ⟨slR_below tSpan_law h.1 hb, slR_below tSpan_law h.2.1 hb, slR_below tSpan_law h.2.2 hb⟩
abbrev ciV (m : Nat) (s0 s1 s2 : Value) : Value := .agg #[.int .u32 (m : Int), s0, s1, s2]
theorem three_at {w : World} {v : Value} {fs : List (List SpanD)} (h : SlR tSpanS w v fs) (hl : fs.length = 3) :
  ∃ (b off cap : Nat) (s0 s1 s2 : Value), v = .slice (some ⟨b, off, none⟩) 3 cap ∧ b < w.heap.size ∧ w.cell? ⟨b, off, none⟩ = some s0 ∧ w.cell? ⟨b, off + 1, none⟩ = some s1 ∧ w.cell? ⟨b, off + 2, none⟩ = some s2 ∧ CI w fs s0 s1 s2 := by
 have one : ∀ k, k < 3 → ∃ (b off cap : Nat) (s : Value), v = .slice (some ⟨b, off, none⟩) 3 cap ∧ b < w.heap.size ∧ w.cell? ⟨b, off + k, none⟩ = some s ∧ SlR tSpan w s (fs.getD k []) := by
  intro k hk
  obtain ⟨b, off, cap, cs, hv, hb, hcs, hR⟩ := slR_at h (k := k) (by omega)
  obtain ⟨u, rfl, hU⟩ := hR
  have p0 : w.cell? ⟨b, off + k, none⟩ = some u := by have := hcs 0 Nat.one_pos; rw [show tSpanS.n = 1 from rfl, Nat.mul_one, Nat.add_zero] at this; exact this
  exact ⟨b, off, cap, u, by rw [hv, hl], hb, p0, hU⟩
 obtain ⟨b, off, cap, s0, hv, hb, c0, r0⟩ := one 0 (by omega)
 obtain ⟨b1, off1, cap1, s1, hv1, _, c1, r1⟩ := one 1 (by omega)
 obtain ⟨b2, off2, cap2, s2, hv2, _, c2, r2⟩ := one 2 (by omega)
 rw [hv] at hv1 hv2
 simp only [Value.slice.injEq, Option.some.injEq, Addr.mk.injEq] at hv1 hv2
 obtain ⟨⟨rfl, rfl, _⟩, _⟩ := hv1
 obtain ⟨⟨rfl, rfl, _⟩, _⟩ := hv2
 exact ⟨b, off, cap, s0, s1, s2, hv, hb, c0, c1, c2, r0, r1, r2⟩
theorem slice_one {w : World} {v : Value} {xs : List SpanD} (h : SlR tSpan w v xs) : v.oneCell' = true := by
 obtain ⟨a, cap, rfl⟩ := slR_len h
 rfl
theorem splice_ci (a x y z s0 s1 s2 : Value) : splice [a, x, y, z] 1 [s0, s1, s2] = [a, s0, s1, s2] := rfl
theorem ids_to {qs : List QD} {k : Nat} (hk : k < qs.length) : maskTo (allL qs) (k + 1) = maskTo (allL qs) k ||| 2 ^ ((qs.getD k q0D).1).toNat := by
 have h : k < (allL qs).length := by simpa [allL] using hk
 rw [maskTo_step h]
 have e : (allL qs).getD k 0 = (qs.getD k q0D).1 := by simp [allL, List.getD, hk]
 rw [e]
theorem ids_range {qs : List QD} (h : areQB qs = true) {k : Nat} (hk : k < qs.length) : 0 ≤ (qs.getD k q0D).1 ∧ (qs.getD k q0D).1 ≤ 23 := by
 have e : qs.getD k q0D = qs[k] := by simp [List.getD, hk]
 have h1 := areQ_at h (List.getElem_mem hk)
 unfold qB queryB at h1
 simp only [Bool.and_eq_true, decide_eq_true_eq] at h1
 rw [e]
 exact h1.2.1
theorem ids_lt {qs : List QD} (h : areQB qs = true) {k : Nat} (hk : k ≤ qs.length) : maskTo (allL qs) k < 16777216 := by
 have hs := allL_set h
 refine maskTo_lt24 (by simpa [allL] using hk) ⟨fun i hi => hs.1 i (by simp [allL]; omega), fun i hi => hs.2 i (by simp [allL]; omega)⟩
theorem ids_all {qs : List QD} (h : areQB qs = true) : maskTo (allL qs) qs.length = maskL (allL qs) := by
 rw [maskL_yes (allL_set h)]
 simp [allL]
set_option maxHeartbeats 16000000 in
set_option maxRecDepth 100000 in
theorem implCheck_no (qv fv : Value) (qs : List QD) (fs : List (List SpanD)) (w : World) (h1 : SlR tQuery w qv qs) (h2 : SlR tSpanS w fv fs) (hs : zL tQuery qs ≤ 1048576) (hz : zL tSpanS fs ≤ 1048576) (hx : isIndexB qs fs = false) :
  Calls Tryd.prog 81 #[.agg #[qv, fv]] w fun e w' => e = .returned (.tuple #[ciV 0 (.slice none 0 0) (.slice none 0 0) (.slice none 0 0), .bool false]) ∧ Below w.heap.size w w' := by
 have hlen := zL_len hs
 have HX := Lib.hid (fun w g1 g2 => implIsIndex qv fv qs fs w g1 g2 hs hz)
 rw [hx] at HX
 obtain ⟨qa, qc, rfl⟩ := slR_len h1
 obtain ⟨fa, fc, rfl⟩ := slR_len h2
 have H1 := Lib.hid h1; have H2 := Lib.hid h2
 have d := Lib.hid (((Below.refl w.heap.size w).alloc (Nat.le_refl _) (.cells #[.slice qa qs.length qc, .slice fa fs.length fc] 49)).alloc (by simp) (.cells #[.int .u32 0, .slice none 0 0, .slice none 0 0, .slice none 0 0] 109))
 have B0 : Hid (((w.alloc (.cells #[.slice qa qs.length qc, .slice fa fs.length fc] 49)).alloc (.cells #[.int .u32 0, .slice none 0 0, .slice none 0 0, .slice none 0 0] 109)).heap[w.heap.size]? = some (.cells #[.slice qa qs.length qc, .slice fa fs.length fc] 49 (0, 0))) := Lib.hid (by rw [Below.heap_alloc _ _ _ (by simp)]; exact heap_alloc_new w _)
 have B1 : Hid (((w.alloc (.cells #[.slice qa qs.length qc, .slice fa fs.length fc] 49)).alloc (.cells #[.int .u32 0, .slice none 0 0, .slice none 0 0, .slice none 0 0] 109)).heap[(w.heap.size + 1)]? = some (.cells #[.int .u32 0, .slice none 0 0, .slice none 0 0, .slice none 0 0] 109 (0, 0))) := Lib.hid (by
  have := heap_alloc_new (w.alloc (.cells #[.slice qa qs.length qc, .slice fa fs.length fc] 49)) (.cells #[.int .u32 0, .slice none 0 0, .slice none 0 0, .slice none 0 0] 109)
  simpa only [World.size_alloc] using this)
 have Y1 : Hid (w.heap.size + 1 < ((w.alloc (.cells #[.slice qa qs.length qc, .slice fa fs.length fc] 49)).alloc (.cells #[.int .u32 0, .slice none 0 0, .slice none 0 0, .slice none 0 0] 109)).heap.size) := Lib.hid (by simp)
 clear h1 h2 hs hz hx
 go_enter Tryd.func81, Tryd.ntmps81
 go_wp2_with fail
 generalize ((w.alloc (.cells #[.slice qa qs.length qc, .slice fa fs.length fc] 49)).alloc (.cells #[.int .u32 0, .slice none 0 0, .slice none 0 0, .slice none 0 0] 109)) = W at *
 refine (HX.out W (slR_below tQuery_law H1.out d.out) (slR_below tSpanS_law H2.out d.out)).mono ?_
 rintro e w1 ⟨rfl, c1⟩
 replace B0 := Lib.hid ((c1.block w.heap.size (Array.getElem?_eq_some_iff.1 B0.out).1).trans B0.out)
 replace B1 := Lib.hid ((c1.block (w.heap.size + 1) (Array.getElem?_eq_some_iff.1 B1.out).1).trans B1.out)
 replace d := Lib.hid (d.out.trans (c1.mono d.out.size))
 have Z_w1 := Lib.hid (show W.heap.size ≤ w1.heap.size from c1.size)
 clear c1
 have p_B1_0 := (cell_of_row w1 _ 0 _ _ _ B1.out).trans (show _ = some (Value.int .u32 0) from rfl)
 have p_B1_1 := (cell_of_row w1 _ 1 _ _ _ B1.out).trans (show _ = some (Value.slice none 0 0) from rfl)
 have p_B1_2 := (cell_of_row w1 _ 2 _ _ _ B1.out).trans (show _ = some (Value.slice none 0 0) from rfl)
 have p_B1_3 := (cell_of_row w1 _ 3 _ _ _ B1.out).trans (show _ = some (Value.slice none 0 0) from rfl)
 have f_B1_0 := frozen_of_row w1 _ 0 _ _ B1.out
 have f_B1_1 := frozen_of_row w1 _ 1 _ _ B1.out
 have f_B1_2 := frozen_of_row w1 _ 2 _ _ B1.out
 have f_B1_3 := frozen_of_row w1 _ 3 _ _ B1.out
 have e1 := cell_of_row w1 (w.heap.size + 1) 0 _ _ _ B1.out
 clear e1
 go_wp2
 have D := Lib.hid (((((d.out.setCell (p := ⟨w.heap.size + 1, 0, none⟩) (by simp) (.int .u32 0)).setCell (p := ⟨w.heap.size + 1, 1, none⟩) (by simp) (.slice none 0 0)).setCell (p := ⟨w.heap.size + 1, 2, none⟩) (by simp) (.slice none 0 0)).setCell (p := ⟨w.heap.size + 1, 3, none⟩) (by simp) (.slice none 0 0)))
 have r := heap_setCell_same _ (w.heap.size + 1) 3 _ _ (.slice none 0 0) (heap_setCell_same _ (w.heap.size + 1) 2 _ _ (.slice none 0 0) (heap_setCell_same _ (w.heap.size + 1) 1 _ _ (.slice none 0 0) (heap_setCell_same w1 (w.heap.size + 1) 0 _ _ (.int .u32 0) B1.out)))
 simp at r
 have e0 := (cell_of_row _ (w.heap.size + 1) 0 _ _ _ r).trans (show _ = some (Value.int .u32 0) from rfl)
 have e1 := (cell_of_row _ (w.heap.size + 1) 1 _ _ _ r).trans (show _ = some (Value.slice none 0 0) from rfl)
 have e2 := (cell_of_row _ (w.heap.size + 1) 2 _ _ _ r).trans (show _ = some (Value.slice none 0 0) from rfl)
 have e3 := (cell_of_row _ (w.heap.size + 1) 3 _ _ _ r).trans (show _ = some (Value.slice none 0 0) from rfl)
 clear r
 refine bodyPost_ret (v := .tuple #[ciV 0 (.slice none 0 0) (.slice none 0 0) (.slice none 0 0), .bool false]) ?_ rfl ⟨rfl, D.out⟩
 simp [results, Tryd.f81, go_sem, e0, e1, e2, e3]
set_option maxHeartbeats 16000000 in
set_option maxRecDepth 100000 in
theorem implCheck_yes (qv fv : Value) (qs : List QD) (fs : List (List SpanD)) (w : World) (h1 : SlR tQuery w qv qs) (h2 : SlR tSpanS w fv fs) (hs : zL tQuery qs ≤ 1048576) (hz : zL tSpanS fs ≤ 1048576) (hx : isIndexB qs fs = true) :
  Calls Tryd.prog 81 #[.agg #[qv, fv]] w fun e w' => ∃ s0 s1 s2, e = .returned (.tuple #[ciV (maskL (allL qs)) s0 s1 s2, .bool true]) ∧ CI w' fs s0 s1 s2 ∧ Below w.heap.size w w' := by
 have HQ := Lib.hid (idx_iff hx).1
 have hlen := zL_len hs
 have HX := Lib.hid (fun w g1 g2 => implIsIndex qv fv qs fs w g1 g2 hs hz)
 rw [hx] at HX
 obtain ⟨qa, qc, rfl⟩ := slR_len h1
 have hfl : fs.length = 3 := by rw [(idx_iff hx).2, fldTo_len]
 obtain ⟨fb, fo, fc, s0, s1, s2, rfl, hfb, f0, f1, f2, hci⟩ := three_at h2 hfl
 obtain ⟨ta0, cp0, rfl⟩ := slR_len hci.1
 obtain ⟨ta1, cp1, rfl⟩ := slR_len hci.2.1
 obtain ⟨ta2, cp2, rfl⟩ := slR_len hci.2.2
 generalize (fs.getD 0 []).length = ln0 at *
 generalize (fs.getD 1 []).length = ln1 at *
 generalize (fs.getD 2 []).length = ln2 at *
 -- MARK
 have HCI := Lib.hid hci; have HFB := Lib.hid hfb; have F0 := Lib.hid f0; have F1 := Lib.hid f1; have F2 := Lib.hid f2
 clear hci hfb f0 f1 f2 hfl
 have H1 := Lib.hid h1; have H2 := Lib.hid h2
 have d := Lib.hid (((Below.refl w.heap.size w).alloc (Nat.le_refl _) (.cells #[.slice qa qs.length qc, .slice (some ⟨fb, fo, none⟩) 3 fc] 49)).alloc (by simp) (.cells #[.int .u32 0, .slice none 0 0, .slice none 0 0, .slice none 0 0] 109))
 have B0 : Hid (((w.alloc (.cells #[.slice qa qs.length qc, .slice (some ⟨fb, fo, none⟩) 3 fc] 49)).alloc (.cells #[.int .u32 0, .slice none 0 0, .slice none 0 0, .slice none 0 0] 109)).heap[w.heap.size]? = some (.cells #[.slice qa qs.length qc, .slice (some ⟨fb, fo, none⟩) 3 fc] 49 (0, 0))) := Lib.hid (by rw [Below.heap_alloc _ _ _ (by simp)]; exact heap_alloc_new w _)
 have B1 : Hid (((w.alloc (.cells #[.slice qa qs.length qc, .slice (some ⟨fb, fo, none⟩) 3 fc] 49)).alloc (.cells #[.int .u32 0, .slice none 0 0, .slice none 0 0, .slice none 0 0] 109)).heap[(w.heap.size + 1)]? = some (.cells #[.int .u32 0, .slice none 0 0, .slice none 0 0, .slice none 0 0] 109 (0, 0))) := Lib.hid (by
  have := heap_alloc_new (w.alloc (.cells #[.slice qa qs.length qc, .slice (some ⟨fb, fo, none⟩) 3 fc] 49)) (.cells #[.int .u32 0, .slice none 0 0, .slice none 0 0, .slice none 0 0] 109)
  simpa only [World.size_alloc] using this)
 have Y1 : Hid (w.heap.size + 1 < ((w.alloc (.cells #[.slice qa qs.length qc, .slice (some ⟨fb, fo, none⟩) 3 fc] 49)).alloc (.cells #[.int .u32 0, .slice none 0 0, .slice none 0 0, .slice none 0 0] 109)).heap.size) := Lib.hid (by simp)
 clear h1 h2 hs hz hx
 go_enter Tryd.func81, Tryd.ntmps81
 go_wp2_with fail
 generalize ((w.alloc (.cells #[.slice qa qs.length qc, .slice (some ⟨fb, fo, none⟩) 3 fc] 49)).alloc (.cells #[.int .u32 0, .slice none 0 0, .slice none 0 0, .slice none 0 0] 109)) = W at *
 refine (HX.out W (slR_below tQuery_law H1.out d.out) (slR_below tSpanS_law H2.out d.out)).mono ?_
 rintro e w1 ⟨rfl, c1⟩
 have Y2 : Hid (w.heap.size + 1 < w1.heap.size) := Lib.hid (Nat.lt_of_lt_of_le Y1.out c1.size)
 replace B0 := Lib.hid ((c1.block w.heap.size (Array.getElem?_eq_some_iff.1 B0.out).1).trans B0.out)
 replace B1 := Lib.hid ((c1.block (w.heap.size + 1) (Array.getElem?_eq_some_iff.1 B1.out).1).trans B1.out)
 replace d := Lib.hid (d.out.trans (c1.mono d.out.size))
 have Z_w1 := Lib.hid (show W.heap.size ≤ w1.heap.size from c1.size)
 clear c1 Y1
 go_wp2
 have hal : Below w1.heap.size w1 (w1.alloc (.cells #[.int .u32 0, .slice none 0 0, .slice none 0 0, .slice none 0 0] 109)) := (Below.refl _ _).alloc (Nat.le_refl _) _
 have B2 : Hid ((w1.alloc (.cells #[.int .u32 0, .slice none 0 0, .slice none 0 0, .slice none 0 0] 109)).heap[w1.heap.size]? = some (.cells #[.int .u32 0, .slice none 0 0, .slice none 0 0, .slice none 0 0] 109 (0, 0))) := Lib.hid (heap_alloc_new w1 _)
 have Y3 : Hid (w1.heap.size < (w1.alloc (.cells #[.int .u32 0, .slice none 0 0, .slice none 0 0, .slice none 0 0] 109)).heap.size) := Lib.hid (by simp)
 replace B0 := Lib.hid ((hal.block w.heap.size (Array.getElem?_eq_some_iff.1 B0.out).1).trans B0.out)
 replace B1 := Lib.hid ((hal.block (w.heap.size + 1) (Array.getElem?_eq_some_iff.1 B1.out).1).trans B1.out)
 replace d := Lib.hid (d.out.trans (hal.mono d.out.size))
 clear hal
 try clear Z_w1
 generalize w1.alloc (.cells #[.int .u32 0, .slice none 0 0, .slice none 0 0, .slice none 0 0] 109) = W2 at *
 generalize hg : w1.heap.size = g at *
 have HG : Hid (g = w1.heap.size) := Lib.hid hg.symm
 clear hg
 have p_B0_0 := (cell_of_row W2 _ 0 _ _ _ B0.out).trans (show _ = some (Value.slice qa qs.length qc) from rfl)
 have p_B0_1 := (cell_of_row W2 _ 1 _ _ _ B0.out).trans (show _ = some (Value.slice (some ⟨fb, fo, none⟩) 3 fc) from rfl)
 refine wp_region_held_drew (S := fun w' => w'.cell? ⟨w.heap.size, 0, none⟩ = some (Value.slice qa qs.length qc) ∧ w'.cell? ⟨w.heap.size, 1, none⟩ = some (Value.slice (some ⟨fb, fo, none⟩) 3 fc)) (by kernel_rfl) ⟨p_B0_0, p_B0_1⟩ (fun hHeld => ?_)
 clear p_B0_0 p_B0_1
 refine tR (i := 0) (v := ?_) ?_ ?_; rotate_left
 ·
  intro w hSw; (try dsimp only at hSw); go_simp; try (with_reducible rfl)
 try simp only [Act.put, lA, lB, lC]
 refine tR (i := 1) (v := ?_) ?_ ?_; rotate_left
 ·
  intro w hSw; (try dsimp only at hSw); go_simp; try (with_reducible rfl)
 try simp only [Act.put, lA, lB, lC]
 refine tR (i := 2) (v := ?_) ?_ ?_; rotate_left
 ·
  intro w hSw; (try dsimp only at hSw); go_simp; try (with_reducible rfl)
 try simp only [Act.put, lA, lB, lC]
 refine tR (i := 3) (v := ?_) ?_ ?_; rotate_left
 ·
  intro w hSw; (try dsimp only at hSw); go_simp; try (with_reducible rfl)
 try simp only [Act.put, lA, lB, lC]
 refine wpAnyH_ready (rs := [4]) (by kernel_rfl) (by simp) ?_
 refine (AllReadyH.cons (o := _) (by simp only [hA, hB, hC]; rfl) (fun K hK => ?_) AllReadyH.nil)
 have HS3 : ∀ (j : Nat) (v : Value), [(Value.slice ta0 ln0 cp0), (Value.slice ta1 ln1 cp1), (Value.slice ta2 ln2 cp2)][j]? = some v → W2.cell? ((⟨fb, fo, none⟩ : Addr).add j) = some v := by
  intro j v hj
  have hlt : fb < W2.heap.size := by have := HFB.out; have := d.out.size; omega
  rw [show (⟨fb, fo, none⟩ : Addr).add j = ⟨fb, fo + j, none⟩ from by unfold Addr.add; split <;> simp_all]
  match j, hj with
  | 0, hj => simp at hj; subst hj; exact (d.out.cell (p := ⟨fb, fo, none⟩) HFB.out).trans F0.out
  | 1, hj => simp at hj; subst hj; exact (d.out.cell (p := ⟨fb, fo + 1, none⟩) HFB.out).trans F1.out
  | 2, hj => simp at hj; subst hj; exact (d.out.cell (p := ⟨fb, fo + 2, none⟩) HFB.out).trans F2.out
  | j + 3, hj => simp at hj
 refine step_copy_splice rfl (.tmp 12) (.tmp 14) 47 47 rfl 37 Tryd.underlying47 Tryd.info1_SpanS _ _ _ _ _ _ rfl rfl g 1 [.int .u32 0, .slice none 0 0, .slice none 0 0, .slice none 0 0] _ B2.out [(Value.slice ta0 ln0 cp0), (Value.slice ta1 ln1 cp1), (Value.slice ta2 ln2 cp2)] rfl (fun _ => ⟨rfl, _, rfl, fun j v hj => HS3 j v hj⟩) (by simp) (fun u hu => by simp only [List.mem_cons, List.not_mem_nil, or_false] at hu; rcases hu with rfl | rfl | rfl; exact slice_one HCI.out.1; exact slice_one HCI.out.2.1; exact slice_one HCI.out.2.2) g W2 (below_drew (Below.refl _ W2)) (Nat.le_refl _) ?_
 intro W3 G3 bA
 rw [splice_ci] at G3
 rw [show (goInt (([(Value.slice ta0 ln0 cp0), (Value.slice ta1 ln1 cp1), (Value.slice ta2 ln2 cp2)] : List Value).length)) = Value.int .i64 3 from rfl]
 have y3 := Y3.out; have y2 := Y2.out; have hg := HG.out; have yd := d.out.size
 replace B0 := Lib.hid ((bA.block w.heap.size (by omega)).trans B0.out)
 replace B1 := Lib.hid ((bA.block (w.heap.size + 1) (by omega)).trans B1.out)
 replace B2 := G3
 replace d := Lib.hid (d.out.trans (bA.mono (by omega)))
 replace Y3 := Lib.hid (Nat.lt_of_lt_of_le y3 bA.size)
 clear bA G3 HS3 y3 y2 hg yd
 have p_B0_0 := (cell_of_row W3 _ 0 _ _ _ B0.out).trans (show _ = some (Value.slice qa qs.length qc) from rfl)
 have p_B0_1 := (cell_of_row W3 _ 1 _ _ _ B0.out).trans (show _ = some (Value.slice (some ⟨fb, fo, none⟩) 3 fc) from rfl)
 refine hK.out _ _ ⟨p_B0_0, p_B0_1⟩ (fun hHeld => ?_)
 clear p_B0_0 p_B0_1
 clear hK K
 try simp only [Act.put, lA, lB, lC]
 refine wpAnyH_done (by kernel_rfl) ?_ _
 clear hHeld
 have m0 : maskTo (allL qs) 0 = 0 := maskTo_zero _
 have p_B0_0 := (cell_of_row W3 _ 0 _ _ _ B0.out).trans (show _ = some (Value.slice qa qs.length qc) from rfl)
 have p_B0_1 := (cell_of_row W3 _ 1 _ _ _ B0.out).trans (show _ = some (Value.slice (some ⟨fb, fo, none⟩) 3 fc) from rfl)
 go_wp2
 clear p_B0_0 p_B0_1
 go_loopw [19] (fun i wr => ∃ k : Nat, k ≤ qs.length ∧ i = .int .i64 k ∧ Hid (wr.heap[w.heap.size]? = some (.cells #[.slice qa qs.length qc, .slice (some ⟨fb, fo, none⟩) 3 fc] 49 (0, 0))) ∧ Hid (wr.heap[(w.heap.size + 1)]? = some (.cells #[.int .u32 0, .slice none 0 0, .slice none 0 0, .slice none 0 0] 109 (0, 0))) ∧ Hid (wr.heap[g]? = some (.cells #[.int .u32 ((maskTo (allL qs) k : Nat) : Int), (Value.slice ta0 ln0 cp0), (Value.slice ta1 ln1 cp1), (Value.slice ta2 ln2 cp2)] 109 (0, 0))) ∧ Hid (Below w.heap.size w wr) ∧ Hid (g < wr.heap.size)) (fun i _ => qs.length - (intOf i).toNat)
 case atStart => exact ⟨0, Nat.zero_le _, rfl, B0, B1, by rw [m0]; exact B2, d, Y3⟩
 clear B0 B1 B2 d Y3 m0
 case round =>
  obtain ⟨k, hk, rfl, B0, B1, B2, d, Y3⟩ := hrel
  by_cases hlt : k < qs.length
  ·
   have HS := Lib.hid (ids_to hlt)
   have HR := Lib.hid (ids_range HQ.out hlt)
   have HM := Lib.hid (ids_lt HQ.out hk)
   obtain ⟨b, off, cap', cv, ov, hv, hbl, q0, q1, q2, q3, hcc, hoo⟩ := queriesR_at (slR_queries (slR_below tQuery_law H1.out d.out)) hlt
   simp only [Value.slice.injEq] at hv
   obtain ⟨rfl, _, rfl⟩ := hv
   obtain ⟨ca, cc, rfl⟩ := condsR_len hcc
   obtain ⟨oa, oc, rfl⟩ := ints_len hoo
   clear hcc hoo
   generalize (qs.getD k q0D).2.2.1.length = cl at *
   generalize (qs.getD k q0D).2.2.2.length = ol at *
   have i1 : (0 : Int) ≤ (k : Int) := by omega
   have i2 : (k : Int) < (qs.length : Int) := by omega
   generalize hmk : maskTo (allL qs) k = m at *
   clear hmk
   generalize (qs.getD k q0D).1 = id at *
   generalize (qs.getD k q0D).2.1 = tn at *
   obtain ⟨x, rfl⟩ : ∃ x : Nat, id = (x : Int) := ⟨id.toNat, by have := HR.out; omega⟩
   rw [Int.toNat_natCast] at HS
   have HP : Hid (2 ^ x < 16777216 ∧ ((2 : Int) ^ x % 4294967296 = ((2 ^ x : Nat) : Int))) := by
    have h2 : 2 ^ x < 2 ^ 24 := Nat.pow_lt_pow_right (by omega) (show x < 24 by have := HR.out; omega)
    have h3 : (2 : Int) ^ x = ((2 ^ x : Nat) : Int) := by norm_cast
    exact Lib.hid ⟨h2, by rw [h3]; clear h3; generalize 2 ^ x = q at *; omega⟩
   have x1 : (0 : Int) ≤ (x : Int) := by omega
   have x2 : (x : Int) ≤ 23 := HR.out.2
   go_wp2
   have hal : Below wr.heap.size wr (wr.alloc (.cells #[.int .i64 (x : Int), .int .i64 tn, .slice ca cl cc, .slice oa ol oc] 63)) := (Below.refl _ _).alloc (Nat.le_refl _) _
   have B3 : Hid ((wr.alloc (.cells #[.int .i64 (x : Int), .int .i64 tn, .slice ca cl cc, .slice oa ol oc] 63)).heap[wr.heap.size]? = some (.cells #[.int .i64 (x : Int), .int .i64 tn, .slice ca cl cc, .slice oa ol oc] 63 (0, 0))) := Lib.hid (heap_alloc_new wr _)
   have Y4 : Hid (wr.heap.size < (wr.alloc (.cells #[.int .i64 (x : Int), .int .i64 tn, .slice ca cl cc, .slice oa ol oc] 63)).heap.size) := Lib.hid (by simp)
   replace B0 := Lib.hid ((hal.block w.heap.size (Array.getElem?_eq_some_iff.1 B0.out).1).trans B0.out)
   replace B1 := Lib.hid ((hal.block (w.heap.size + 1) (Array.getElem?_eq_some_iff.1 B1.out).1).trans B1.out)
   replace B2 := Lib.hid ((hal.block g (Array.getElem?_eq_some_iff.1 B2.out).1).trans B2.out)
   replace d := Lib.hid (d.out.trans (hal.mono d.out.size))
   clear hal q0 q1 q2 q3 hbl
   generalize (wr.alloc (.cells #[.int .i64 (x : Int), .int .i64 tn, .slice ca cl cc, .slice oa ol oc] 63)) = W5 at *
   have p_B3_0 := (cell_of_row W5 _ 0 _ _ _ B3.out).trans (show _ = some (Value.int .i64 (x : Int)) from rfl)
   have p_B3_1 := (cell_of_row W5 _ 1 _ _ _ B3.out).trans (show _ = some (Value.int .i64 tn) from rfl)
   have p_B3_2 := (cell_of_row W5 _ 2 _ _ _ B3.out).trans (show _ = some (Value.slice ca cl cc) from rfl)
   have p_B3_3 := (cell_of_row W5 _ 3 _ _ _ B3.out).trans (show _ = some (Value.slice oa ol oc) from rfl)
   refine wp_region_held_drew (S := fun w' => w'.cell? ⟨wr.heap.size, 0, none⟩ = some (Value.int .i64 (x : Int)) ∧ w'.cell? ⟨wr.heap.size, 1, none⟩ = some (Value.int .i64 tn) ∧ w'.cell? ⟨wr.heap.size, 2, none⟩ = some (Value.slice ca cl cc) ∧ w'.cell? ⟨wr.heap.size, 3, none⟩ = some (Value.slice oa ol oc)) (by kernel_rfl) ⟨p_B3_0, p_B3_1, p_B3_2, p_B3_3⟩ (fun hHeld => ?_)
   clear p_B3_0 p_B3_1 p_B3_2 p_B3_3
   have cdr : Below W5.heap.size W5 W5.drew := below_drew (Below.refl _ _)
   replace B0 := Lib.hid ((cdr.block w.heap.size (Array.getElem?_eq_some_iff.1 B0.out).1).trans B0.out)
   replace B1 := Lib.hid ((cdr.block (w.heap.size + 1) (Array.getElem?_eq_some_iff.1 B1.out).1).trans B1.out)
   replace B2 := Lib.hid ((cdr.block g (Array.getElem?_eq_some_iff.1 B2.out).1).trans B2.out)
   replace B3 := Lib.hid ((cdr.block wr.heap.size (Array.getElem?_eq_some_iff.1 B3.out).1).trans B3.out)
   replace d := Lib.hid (d.out.trans (cdr.mono d.out.size))
   clear cdr
   refine tR (i := 0) (v := ?_) ?_ ?_; rotate_left
   ·
    intro w hSw; (try dsimp only at hSw); go_simp; try (with_reducible rfl)
   try simp only [Act.put, lA, lB, lC]
   refine tR (i := 2) (v := ?_) ?_ ?_; rotate_left
   ·
    intro w hSw; (try dsimp only at hSw); go_simp; try (with_reducible rfl)
   try simp only [Act.put, lA, lB, lC]
   refine tR (i := 3) (v := ?_) ?_ ?_; rotate_left
   ·
    intro w hSw; (try dsimp only at hSw); go_simp; try (with_reducible rfl)
   try simp only [Act.put, lA, lB, lC]
   refine tR (i := 4) (v := ?_) ?_ ?_; rotate_left
   ·
    intro w hSw; (try dsimp only at hSw); go_simp; try (with_reducible rfl)
   try simp only [Act.put, lA, lB, lC]
   refine wpAnyH_ready (rs := [1]) (by kernel_rfl) (by simp) ?_
   refine (AllReadyH.cons (o := _) (by simp only [hA, hB, hC]; rfl) (fun K hK => ?_) AllReadyH.nil)
   have p_B2_0 := (cell_of_row (W5.drew) _ 0 _ _ _ B2.out).trans (show _ = some (Value.int .u32 (m : Int)) from rfl)
   have p_B2_1 := (cell_of_row (W5.drew) _ 1 _ _ _ B2.out).trans (show _ = some ((Value.slice ta0 ln0 cp0)) from rfl)
   have p_B2_2 := (cell_of_row (W5.drew) _ 2 _ _ _ B2.out).trans (show _ = some ((Value.slice ta1 ln1 cp1)) from rfl)
   have p_B2_3 := (cell_of_row (W5.drew) _ 3 _ _ _ B2.out).trans (show _ = some ((Value.slice ta2 ln2 cp2)) from rfl)
   go_simp
   clear p_B2_0 p_B2_1 p_B2_2 p_B2_3
   have p_B3_0 := (cell_of_row (W5.drew) _ 0 _ _ _ B3.out).trans (show _ = some (Value.int .i64 (x : Int)) from rfl)
   have p_B3_1 := (cell_of_row (W5.drew) _ 1 _ _ _ B3.out).trans (show _ = some (Value.int .i64 tn) from rfl)
   have p_B3_2 := (cell_of_row (W5.drew) _ 2 _ _ _ B3.out).trans (show _ = some (Value.slice ca cl cc) from rfl)
   have p_B3_3 := (cell_of_row (W5.drew) _ 3 _ _ _ B3.out).trans (show _ = some (Value.slice oa ol oc) from rfl)
   refine hK.out _ _ ⟨p_B3_0, p_B3_1, p_B3_2, p_B3_3⟩ (fun hHeld => ?_)
   clear p_B3_0 p_B3_1 p_B3_2 p_B3_3
   clear hK K
   try simp only [Act.put, lA, lB, lC]
   refine tR (i := 5) (v := ?_) ?_ ?_; rotate_left
   ·
    intro w hSw; (try dsimp only at hSw); go_simp; try (with_reducible rfl)
   try simp only [Act.put, lA, lB, lC]
   refine tR (i := 6) (v := ?_) ?_ ?_; rotate_left
   ·
    intro w hSw; (try dsimp only at hSw); go_simp; try (with_reducible rfl)
   try simp only [Act.put, lA, lB, lC]
   refine wpAnyH_ready (rs := [7]) (by kernel_rfl) (by simp) ?_
   refine (AllReadyH.cons (o := _) (by simp only [hA, hB, hC]; rfl) (fun K hK => ?_) AllReadyH.nil)
   have cx := (cell_of_row (W5.drew) _ 0 _ _ _ B2.out).trans (show _ = some (Value.int .u32 (m : Int)) from rfl)
   have fx := frozen_of_row (W5.drew) _ 0 _ _ B2.out
   go_simp
   clear cx fx
   have HV : bits .or .u32 (m : Int) (IntKind.u32.wrap ((2 : Int) ^ x)) = ((m ||| 2 ^ x : Nat) : Int) := by rw [IntKind.wrap_u32, HP.out.2, or_u32 m _ (by have := HM.out; omega) (by have := HP.out.1; omega)]
   simp only [HV]
   have y3 := Y3.out; have y4 := Y4.out; have yd := d.out.size; have y2 := Y2.out; have hg := HG.out
   have tt : Turn (fun b => b = g) (W5.drew) ((W5.setCell ⟨g, 0, none⟩ (.int .u32 ((m ||| 2 ^ x : Nat) : Int))).drew) := turn_set (G := fun b => b = g) (g := g) (j := 0) (u := (.int .u32 ((m ||| 2 ^ x : Nat) : Int))) rfl
   have r := heap_setCell_same W5 g 0 _ _ (.int .u32 ((m ||| 2 ^ x : Nat) : Int)) B2.out
   simp at r
   replace B2 : Hid (((W5.setCell ⟨g, 0, none⟩ (.int .u32 ((m ||| 2 ^ x : Nat) : Int))).drew).heap[g]? = some (.cells #[.int .u32 ((m ||| 2 ^ x : Nat) : Int), (Value.slice ta0 ln0 cp0), (Value.slice ta1 ln1 cp1), (Value.slice ta2 ln2 cp2)] 109 (0, 0))) := Lib.hid r
   have zc : W5.heap.size ≤ ((W5.setCell ⟨g, 0, none⟩ (.int .u32 ((m ||| 2 ^ x : Nat) : Int))).drew).heap.size := tt.size
   replace B0 := Lib.hid ((tt.block w.heap.size (by show w.heap.size < W5.heap.size; omega) (fun h => by omega)).trans B0.out)
   replace B1 := Lib.hid ((tt.block (w.heap.size + 1) (by show w.heap.size + 1 < W5.heap.size; omega) (fun h => by omega)).trans B1.out)
   replace B3 := Lib.hid ((tt.block wr.heap.size (by show wr.heap.size < W5.heap.size; omega) (fun h => by omega)).trans B3.out)
   replace d := Lib.hid (below_turn d.out tt (fun b h => by omega) d.out.size)
   have Y6 : Hid (g < ((W5.setCell ⟨g, 0, none⟩ (.int .u32 ((m ||| 2 ^ x : Nat) : Int))).drew).heap.size) := Lib.hid (by omega)
   clear tt r y3 y4 yd y2 hg zc HV
   generalize ((W5.setCell ⟨g, 0, none⟩ (.int .u32 ((m ||| 2 ^ x : Nat) : Int))).drew) = W6 at *
   have p_B3_0 := (cell_of_row W6 _ 0 _ _ _ B3.out).trans (show _ = some (Value.int .i64 (x : Int)) from rfl)
   have p_B3_1 := (cell_of_row W6 _ 1 _ _ _ B3.out).trans (show _ = some (Value.int .i64 tn) from rfl)
   have p_B3_2 := (cell_of_row W6 _ 2 _ _ _ B3.out).trans (show _ = some (Value.slice ca cl cc) from rfl)
   have p_B3_3 := (cell_of_row W6 _ 3 _ _ _ B3.out).trans (show _ = some (Value.slice oa ol oc) from rfl)
   refine hK.out _ _ ⟨p_B3_0, p_B3_1, p_B3_2, p_B3_3⟩ (fun hHeld => ?_)
   clear p_B3_0 p_B3_1 p_B3_2 p_B3_3
   clear hK K
   try simp only [Act.put, lA, lB, lC]
   refine wpAnyH_done (by kernel_rfl) ?_ _
   clear hHeld
   rw [← HS.out] at B2
   clear B3
   go_wp2
   go_roundw
   case rel => exact ⟨k + 1, by omega, by go_num, B0, B1, B2, d, Y6⟩
   case measure => simp [intOf]; omega
  ·
   obtain rfl : k = qs.length := by omega
   have HA := Lib.hid (ids_all HQ.out)
   rw [HA.out] at B2
   generalize hm : maskL (allL qs) = m at *
   have HMM := Lib.hid hm
   clear hm
   have p_B1_0 := (cell_of_row wr _ 0 _ _ _ B1.out).trans (show _ = some (Value.int .u32 0) from rfl)
   have p_B1_1 := (cell_of_row wr _ 1 _ _ _ B1.out).trans (show _ = some (Value.slice none 0 0) from rfl)
   have p_B1_2 := (cell_of_row wr _ 2 _ _ _ B1.out).trans (show _ = some (Value.slice none 0 0) from rfl)
   have p_B1_3 := (cell_of_row wr _ 3 _ _ _ B1.out).trans (show _ = some (Value.slice none 0 0) from rfl)
   have f_B1_0 := frozen_of_row wr _ 0 _ _ B1.out
   have f_B1_1 := frozen_of_row wr _ 1 _ _ B1.out
   have f_B1_2 := frozen_of_row wr _ 2 _ _ B1.out
   have f_B1_3 := frozen_of_row wr _ 3 _ _ B1.out
   have p_B2_0 := (cell_of_row wr _ 0 _ _ _ B2.out).trans (show _ = some (Value.int .u32 (m : Int)) from rfl)
   have p_B2_1 := (cell_of_row wr _ 1 _ _ _ B2.out).trans (show _ = some ((Value.slice ta0 ln0 cp0)) from rfl)
   have p_B2_2 := (cell_of_row wr _ 2 _ _ _ B2.out).trans (show _ = some ((Value.slice ta1 ln1 cp1)) from rfl)
   have p_B2_3 := (cell_of_row wr _ 3 _ _ _ B2.out).trans (show _ = some ((Value.slice ta2 ln2 cp2)) from rfl)
   go_wp2
   have CIW := Lib.hid (ci_below HCI.out d.out)
   have D := Lib.hid (((((d.out.setCell (p := ⟨w.heap.size + 1, 0, none⟩) (by simp) (.int .u32 (m : Int))).setCell (p := ⟨w.heap.size + 1, 1, none⟩) (by simp) ((Value.slice ta0 ln0 cp0))).setCell (p := ⟨w.heap.size + 1, 2, none⟩) (by simp) ((Value.slice ta1 ln1 cp1))).setCell (p := ⟨w.heap.size + 1, 3, none⟩) (by simp) ((Value.slice ta2 ln2 cp2))))
   have r := heap_setCell_same _ (w.heap.size + 1) 3 _ _ ((Value.slice ta2 ln2 cp2)) (heap_setCell_same _ (w.heap.size + 1) 2 _ _ ((Value.slice ta1 ln1 cp1)) (heap_setCell_same _ (w.heap.size + 1) 1 _ _ ((Value.slice ta0 ln0 cp0)) (heap_setCell_same wr (w.heap.size + 1) 0 _ _ (.int .u32 (m : Int)) B1.out)))
   simp at r
   have e0 := (cell_of_row _ (w.heap.size + 1) 0 _ _ _ r).trans (show _ = some (Value.int .u32 (m : Int)) from rfl)
   have e1 := (cell_of_row _ (w.heap.size + 1) 1 _ _ _ r).trans (show _ = some ((Value.slice ta0 ln0 cp0)) from rfl)
   have e2 := (cell_of_row _ (w.heap.size + 1) 2 _ _ _ r).trans (show _ = some ((Value.slice ta1 ln1 cp1)) from rfl)
   have e3 := (cell_of_row _ (w.heap.size + 1) 3 _ _ _ r).trans (show _ = some ((Value.slice ta2 ln2 cp2)) from rfl)
   clear r
   have yd := d.out.size; have y2 := Y2.out
   refine bodyPost_ret (v := .tuple #[ciV m (Value.slice ta0 ln0 cp0) (Value.slice ta1 ln1 cp1) (Value.slice ta2 ln2 cp2), .bool true]) ?_ rfl ⟨(Value.slice ta0 ln0 cp0), (Value.slice ta1 ln1 cp1), (Value.slice ta2 ln2 cp2), by rw [HMM.out], ?_, D.out⟩
   ·
    simp [results, Tryd.f81, go_sem, e0, e1, e2, e3]
   ·
    exact ci_below HCI.out D.out
end Go.Proofs.YtededfficggkaaaDoor
namespace Go.Proofs.YtededfficggkaaaDoor
open Go.RowKit
set_option linter.unusedVariables false
set_option linter.unusedSimpArgs false
set_option maxHeartbeats 4000000 in
set_option maxRecDepth 100000 in
theorem interval_of (f t : Int) (a : Option Addr) (m c : Nat) (w : World) : Calls Tryd.prog 72 #[.agg #[.int .i64 f, .int .i64 t, .slice a m c]] w fun e w' => e = .returned (.agg #[.int .i64 f, .int .i64 t, .slice a m c]) ∧ Below w.heap.size w w' := by
 have hb1 : Below w.heap.size w (w.alloc (.cells #[.int .i64 f, .int .i64 t, .slice a m c] 43)) := (Below.refl _ w).alloc (Nat.le_refl _) _
 go_enter Tryd.func72, Tryd.ntmps72
 go_wp2
 refine bodyPost_ret (v := .agg #[.int .i64 f, .int .i64 t, .slice a m c]) ?_ rfl ?_
 ·
  simp [results, Tryd.f72, go_sem]
 ·
  refine ⟨rfl, ?_⟩
  first
  | exact ((((((Below.refl _ w).alloc (Nat.le_refl _) _).alloc (by simp) _).setCell (by simp) _).setCell (by simp) _).setCell (by simp) _)
  | exact ((Below.refl _ w).alloc (Nat.le_refl _) _).alloc (by simp) _
set_option maxHeartbeats 4000000 in
set_option maxRecDepth 100000 in
theorem containsS_is (a b : Int) (p : Option Addr) (m c : Nat) (v : Int) (w : World) : Calls Tryd.prog 73 #[.agg #[.int .i64 a, .int .i64 b, .slice p m c], .int .i64 v] w fun e w' => e = .returned (.bool (decide (a ≤ v ∧ v ≤ b))) ∧ Below w.heap.size w w' := by
 have hb : Below w.heap.size w (w.alloc (.cells #[.int .i64 a, .int .i64 b, .slice p m c] 99)) := (Below.refl _ w).alloc (Nat.le_refl _) _
 obtain ⟨r, hr⟩ : ∃ r, decide (a ≤ v ∧ v ≤ b) = r := ⟨_, rfl⟩
 rw [hr]
 by_cases h1 : a ≤ v
 ·
  by_cases h2 : v ≤ b
  ·
   have HT : Hid (r = true) := Lib.hid (by rw [← hr]; exact decide_eq_true ⟨h1, h2⟩)
   clear hr
   go_enter Tryd.func73, Tryd.ntmps73
   go_wp2
   go_ret
   exact ⟨ret_b HT.out.symm, hb⟩
  ·
   have HT : Hid (r = false) := Lib.hid (by rw [← hr]; exact decide_eq_false (fun g => h2 g.2))
   clear hr
   go_enter Tryd.func73, Tryd.ntmps73
   go_wp2
   go_ret
   exact ⟨ret_b HT.out.symm, hb⟩
 ·
  have HT : Hid (r = false) := Lib.hid (by rw [← hr]; exact decide_eq_false (fun g => h1 g.1))
  clear hr
  go_enter Tryd.func73, Tryd.ntmps73
  go_wp2
  go_ret
  exact ⟨ret_b HT.out.symm, hb⟩
set_option maxHeartbeats 8000000 in
set_option maxRecDepth 100000 in
theorem implFindSpan (va : Value) (rs : List SpanD) (v : Int) (w : World) (h : SpansR w va rs) (hs : zpL rs ≤ 1048576) :
  Calls Tryd.prog 31 #[va, .int .i64 v] w (FreshInts w (findL rs v)) := by
 have H := Lib.hid h
 have HS := Lib.hid hs
 have hlen := zpL_len hs
 obtain ⟨a, cap, rfl⟩ := spansR_len h
 clear h hs
 go_enter Tryd.func31, Tryd.ntmps31
 go_wp2
 go_loopw [10] (fun i wr => ∃ k : Nat, k ≤ rs.length ∧ i = .int .i64 k ∧ Hid (∀ j, j < k → hitB v (rs.getD j p0D) = false) ∧ Below w.heap.size w wr) (fun i _ => rs.length - (intOf i).toNat)
 case atStart => exact ⟨0, Nat.zero_le _, rfl, Lib.hid (fun j hj => by omega), Below.refl _ _⟩
 case round =>
  obtain ⟨k, hk, rfl, hall, hbel⟩ := hrel
  by_cases hlt : k < rs.length
  ·
   obtain ⟨b, off, cap', vv, hv, hbl, hc1, hc2, hc3, hI⟩ := spansR_at (spansR_below H.out hbel) hlt
   simp only [Value.slice.injEq] at hv
   obtain ⟨rfl, _, rfl⟩ := hv
   obtain ⟨ua, uc, rfl⟩ := ints_len hI
   have HXL := Lib.hid (zpL_span HS.out hlt)
   have i1 : (0 : Int) ≤ (k : Int) := by omega
   have i2 : (k : Int) < (rs.length : Int) := by omega
   have HHIT := Lib.hid (fun e => find_at (v := v) hlt hall.out e)
   have HALL : Hid (hitB v (rs.getD k p0D) = false → ∀ j, j < k + 1 → hitB v (rs.getD j p0D) = false) := Lib.hid (fun he j hj => by
    by_cases e : j = k
    ·
     exact e ▸ he
    ·
     exact hall.out j (by omega))
   clear hall
   generalize rs.getD k p0D = r at *
   obtain ⟨sf, st, xs⟩ := r
   simp only at hc1 hc2 hc3 hI HXL HHIT
   have hal : Below wr.heap.size wr (wr.alloc (.cells #[.int .i64 sf, .int .i64 st, .slice ua xs.length uc] 43)) := (Below.refl _ _).alloc (Nat.le_refl _) _
   have HII := Lib.hid (ints_below hI hal)
   have HBW := Lib.hid (hbel.trans (hal.mono hbel.size))
   have HB : Hid (hitB v (sf, st, xs) = decide (sf ≤ v ∧ v ≤ st)) := Lib.hid rfl
   clear hI hbel hal
   go_wp2_with fail
   generalize wr.alloc (.cells #[.int .i64 sf, .int .i64 st, .slice ua xs.length uc] 43) = W at *
   refine (interval_of sf st ua xs.length uc _).mono ?_
   rintro e w2 ⟨rfl, b2⟩
   have hal : Below w2.heap.size w2 (w2.alloc (.cells #[.int .i64 sf, .int .i64 st, .slice ua xs.length uc] 99)) := (Below.refl _ _).alloc (Nat.le_refl _) _
   have g0 := heap_alloc_new w2 (.cells #[.int .i64 sf, .int .i64 st, .slice ua xs.length uc] 99)
   have HZL : Hid (w2.heap.size < (w2.alloc (.cells #[.int .i64 sf, .int .i64 st, .slice ua xs.length uc] 99)).heap.size) := Lib.hid (by simp)
   have HI2 := Lib.hid (ints_below (ints_below HII.out b2) hal)
   have HB2 := Lib.hid ((HBW.out.trans (b2.mono HBW.out.size)).trans (hal.mono (HBW.out.trans (b2.mono HBW.out.size)).size))
   clear hc1 hc2 hc3 HII HBW b2 hal
   go_wp2_with fail
   generalize w2.alloc (.cells #[.int .i64 sf, .int .i64 st, .slice ua xs.length uc] 99) = W2 at *
   refine (containsS_is sf st ua xs.length uc v _).mono ?_
   rintro e w3 ⟨rfl, b3⟩
   have k3 := (b3.block _ HZL.out).trans g0
   have p2 := (cell_of_row w3 _ 2 _ _ _ k3).trans (show _ = some (Value.slice ua xs.length uc) from rfl)
   have I3 := ints_below HI2.out b3
   have B3 := HB2.out.trans (b3.mono HB2.out.size)
   rw [← HB.out]
   clear k3 g0 b3 HI2 HB2
   cases hh : hitB v (sf, st, xs) with
   | true =>
    have HF := Lib.hid (HHIT.out hh)
    clear HHIT HALL hh
    go_wp2_with fail
    refine (copyInts_any (.slice ua xs.length uc) xs w3 I3 HXL.out).mono ?_
    rintro e w4 ⟨u, rfl, oB, bB⟩
    obtain ⟨pa, pc, rfl⟩ := ints_len (ownsN_ints oB)
    have oB2 := ownsN_up oB B3.size
    have B4 := B3.trans (bB.mono B3.size)
    clear oB bB B3 I3 p2
    go_wp2
    go_ret
    rw [HF.out]
    exact ⟨_, rfl, oB2, B4⟩
   | false =>
    have HA := Lib.hid (HALL.out hh)
    clear HHIT HALL hh
    go_wp2
    go_roundw
    case rel => exact ⟨k + 1, by omega, by go_num, HA, B3⟩
    case measure => simp [intOf]; omega
  ·
   obtain rfl : k = rs.length := by omega
   have HF := Lib.hid (find_none hall.out)
   clear hall
   go_wp2
   go_ret
   rw [HF.out]
   exact ⟨_, rfl, ownsN_nil _ _, hbel⟩
theorem findL_len {rs : List SpanD} {v : Int} (h : zpL rs ≤ 1048576) : (findL rs v).length ≤ 1048576 := by
 unfold findL
 cases hf : rs.find? (hitB v) with
 | none => simp [p0D]
 | some r =>
  have hm := List.mem_of_find?_eq_some hf
  obtain ⟨j, hj, rfl⟩ := List.getElem_of_mem hm
  have := zpL_span h hj
  have e : rs.getD j p0D = rs[j] := by simp [List.getD, hj]
  rw [e] at this
  simpa using this
end Go.Proofs.YtededfficggkaaaDoor
namespace Go.Proofs.YtededfficggkaaaDoor
open Go.RowKit
set_option linter.unusedVariables false
set_option linter.unusedSimpArgs false
theorem idxS0 (s0 s1 s2 : Value) (w : World) : Sem.run Tryd.prog (Instr.index 107 (.agg #[s0, s1, s2]) (.int .i64 0)) w = .ok s0 w := by
 have u := Tryd.underlying107
 have z := Tryd.sizeOf37
 have g := Tryd.isAgg37
 unfold Instr.index
 go_simp
theorem idxS1 (s0 s1 s2 : Value) (w : World) : Sem.run Tryd.prog (Instr.index 107 (.agg #[s0, s1, s2]) (.int .i64 1)) w = .ok s1 w := by
 have u := Tryd.underlying107
 have z := Tryd.sizeOf37
 have g := Tryd.isAgg37
 unfold Instr.index
 go_simp
theorem idxS2 (s0 s1 s2 : Value) (w : World) : Sem.run Tryd.prog (Instr.index 107 (.agg #[s0, s1, s2]) (.int .i64 2)) w = .ok s2 w := by
 have u := Tryd.underlying107
 have z := Tryd.sizeOf37
 have g := Tryd.isAgg37
 unfold Instr.index
 go_simp
theorem idxP0 (a b c : Int) (w : World) : Sem.run Tryd.prog (Instr.index 113 (.agg #[.int .i64 a, .int .i64 b, .int .i64 c]) (.int .i64 0)) w = .ok (.int .i64 a) w := by
 have u := Tryd.underlying113
 have z := Tryd.sizeOf3
 have g := Tryd.isAgg3
 unfold Instr.index
 go_simp
theorem idxP1 (a b c : Int) (w : World) : Sem.run Tryd.prog (Instr.index 113 (.agg #[.int .i64 a, .int .i64 b, .int .i64 c]) (.int .i64 1)) w = .ok (.int .i64 b) w := by
 have u := Tryd.underlying113
 have z := Tryd.sizeOf3
 have g := Tryd.isAgg3
 unfold Instr.index
 go_simp
theorem idxP2 (a b c : Int) (w : World) : Sem.run Tryd.prog (Instr.index 113 (.agg #[.int .i64 a, .int .i64 b, .int .i64 c]) (.int .i64 2)) w = .ok (.int .i64 c) w := by
 have u := Tryd.underlying113
 have z := Tryd.sizeOf3
 have g := Tryd.isAgg3
 unfold Instr.index
 go_simp
theorem findL_len3 {rs : List SpanD} {v : Int} (h : zL tSpan rs ≤ 1048576) : (findL rs v).length ≤ 1048576 := findL_len (by rw [← zL_spans]; exact h)
set_option maxHeartbeats 16000000 in
set_option maxRecDepth 100000 in
theorem implSetsOf (m : Nat) (s0 s1 s2 : Value) (fs : List (List SpanD)) (rid : Int) (vv : Value) (vs : List Int) (w : World) (hc : CI w fs s0 s1 s2) (h : Ints w vv vs) (hz : zL tSpanS fs ≤ 1048576) (hf : fs.length = 3) (hv : vs.length = 3) :
  Calls Tryd.prog 85 #[ciV m s0 s1 s2, .agg #[.int .i64 rid, vv]] w fun e w' => e = .returned (.agg #[.int .u32 ((setM fs vs 0 : Nat) : Int), .int .u32 ((setM fs vs 1 : Nat) : Int), .int .u32 ((setM fs vs 2 : Nat) : Int)]) ∧ Below w.heap.size w w' := by
 obtain ⟨vb, vo, vc, rfl, hvb, hcell⟩ := ints_cell h (by omega)
 have HI := Lib.hid hc
 have z0 : zL tSpan (fs.getD 0 []) ≤ 1048576 := zL_at hz (by omega)
 have z1 : zL tSpan (fs.getD 1 []) ≤ 1048576 := zL_at hz (by omega)
 have z2 : zL tSpan (fs.getD 2 []) ≤ 1048576 := zL_at hz (by omega)
 have HVB := Lib.hid hvb
 have V0 := Lib.hid (hcell 0 (by omega)); have V1 := Lib.hid (hcell 1 (by omega)); have V2 := Lib.hid (hcell 2 (by omega))
 rw [hv] at *
 have F0 := Lib.hid (fun w g => implFindSpan s0 (fs.getD 0 []) (vs.getD 0 0) w g (by rw [← zL_spans]; exact z0))
 have F1 := Lib.hid (fun w g => implFindSpan s1 (fs.getD 1 []) (vs.getD 1 0) w g (by rw [← zL_spans]; exact z1))
 have F2 := Lib.hid (fun w g => implFindSpan s2 (fs.getD 2 []) (vs.getD 2 0) w g (by rw [← zL_spans]; exact z2))
 have M0 := Lib.hid (fun u w g => implMaskOf u (findL (fs.getD 0 []) (vs.getD 0 0)) w g (by have := findL_len3 (v := vs.getD 0 0) z0; omega))
 have M1 := Lib.hid (fun u w g => implMaskOf u (findL (fs.getD 1 []) (vs.getD 1 0)) w g (by have := findL_len3 (v := vs.getD 1 0) z1; omega))
 have M2 := Lib.hid (fun u w g => implMaskOf u (findL (fs.getD 2 []) (vs.getD 2 0)) w g (by have := findL_len3 (v := vs.getD 2 0) z2; omega))
 change Hid (∀ u w, Ints w u _ → Calls Tryd.prog _ #[u] w fun e w' => e = .returned (.tuple #[.int .u32 ((setM fs vs 0 : Nat) : Int), .bool _]) ∧ _) at M0
 change Hid (∀ u w, Ints w u _ → Calls Tryd.prog _ #[u] w fun e w' => e = .returned (.tuple #[.int .u32 ((setM fs vs 1 : Nat) : Int), .bool _]) ∧ _) at M1
 change Hid (∀ u w, Ints w u _ → Calls Tryd.prog _ #[u] w fun e w' => e = .returned (.tuple #[.int .u32 ((setM fs vs 2 : Nat) : Int), .bool _]) ∧ _) at M2
 clear hc h hz hf hv hcell hvb z0 z1 z2
 generalize setM fs vs 0 = m0 at *
 generalize setM fs vs 1 = m1 at *
 generalize setM fs vs 2 = m2 at *
 generalize vs.getD 0 0 = x0 at *
 generalize vs.getD 1 0 = x1 at *
 generalize vs.getD 2 0 = x2 at *
 have j0 := idxS0 s0 s1 s2
 have j1 := idxS1 s0 s1 s2
 have j2 := idxS2 s0 s1 s2
 go_enter Tryd.func85, Tryd.ntmps85
 go_wp2
 have d := Lib.hid (((((Below.refl w.heap.size w).alloc (Nat.le_refl _) (.cells #[.int .u32 (m : Int), s0, s1, s2] 109)).alloc (by simp) (.cells #[.int .i64 rid, .slice (some ⟨vb, vo, none⟩) 3 vc] 51)).alloc (by simp <;> omega) (.cells #[.int .u32 0, .int .u32 0, .int .u32 0] 119)).alloc (by simp <;> omega) (.cells #[.int .u32 0, .int .u32 0, .int .u32 0] 119))
 have B1 : Hid (((((w.alloc (.cells #[.int .u32 (m : Int), s0, s1, s2] 109)).alloc (.cells #[.int .i64 rid, .slice (some ⟨vb, vo, none⟩) 3 vc] 51)).alloc (.cells #[.int .u32 0, .int .u32 0, .int .u32 0] 119)).alloc (.cells #[.int .u32 0, .int .u32 0, .int .u32 0] 119)).heap[(w.heap.size + 1)]? = some (.cells #[.int .i64 rid, .slice (some ⟨vb, vo, none⟩) 3 vc] 51 (0, 0))) := Lib.hid (by
  rw [Below.heap_alloc _ _ _ (by simp <;> omega), Below.heap_alloc _ _ _ (by simp)]
  have := heap_alloc_new (w.alloc (.cells #[.int .u32 (m : Int), s0, s1, s2] 109)) (.cells #[.int .i64 rid, .slice (some ⟨vb, vo, none⟩) 3 vc] 51)
  simpa only [World.size_alloc] using this)
 have B2 : Hid (((((w.alloc (.cells #[.int .u32 (m : Int), s0, s1, s2] 109)).alloc (.cells #[.int .i64 rid, .slice (some ⟨vb, vo, none⟩) 3 vc] 51)).alloc (.cells #[.int .u32 0, .int .u32 0, .int .u32 0] 119)).alloc (.cells #[.int .u32 0, .int .u32 0, .int .u32 0] 119)).heap[(w.heap.size + 1 + 1)]? = some (.cells #[.int .u32 0, .int .u32 0, .int .u32 0] 119 (0, 0))) := Lib.hid (by
  rw [Below.heap_alloc _ _ _ (by simp)]
  have := heap_alloc_new ((w.alloc (.cells #[.int .u32 (m : Int), s0, s1, s2] 109)).alloc (.cells #[.int .i64 rid, .slice (some ⟨vb, vo, none⟩) 3 vc] 51)) (.cells #[.int .u32 0, .int .u32 0, .int .u32 0] 119)
  simpa only [World.size_alloc] using this)
 have B3 : Hid (((((w.alloc (.cells #[.int .u32 (m : Int), s0, s1, s2] 109)).alloc (.cells #[.int .i64 rid, .slice (some ⟨vb, vo, none⟩) 3 vc] 51)).alloc (.cells #[.int .u32 0, .int .u32 0, .int .u32 0] 119)).alloc (.cells #[.int .u32 0, .int .u32 0, .int .u32 0] 119)).heap[(w.heap.size + 1 + 1 + 1)]? = some (.cells #[.int .u32 0, .int .u32 0, .int .u32 0] 119 (0, 0))) := Lib.hid (by
  have := heap_alloc_new (((w.alloc (.cells #[.int .u32 (m : Int), s0, s1, s2] 109)).alloc (.cells #[.int .i64 rid, .slice (some ⟨vb, vo, none⟩) 3 vc] 51)).alloc (.cells #[.int .u32 0, .int .u32 0, .int .u32 0] 119)) (.cells #[.int .u32 0, .int .u32 0, .int .u32 0] 119)
  simpa only [World.size_alloc] using this)
 generalize ((((w.alloc (.cells #[.int .u32 (m : Int), s0, s1, s2] 109)).alloc (.cells #[.int .i64 rid, .slice (some ⟨vb, vo, none⟩) 3 vc] 51)).alloc (.cells #[.int .u32 0, .int .u32 0, .int .u32 0] 119)).alloc (.cells #[.int .u32 0, .int .u32 0, .int .u32 0] 119)) = W at *
 refine wp_loop_rounds 4 ?_
 rw [rounds_succ]
 have i0 : (0 : Int) ≤ 0 := by decide
 have q0 := (d.out.cell (p := ⟨vb, vo, none⟩) HVB.out).trans V0.out
 have q1 := (cell_of_row W _ 1 _ _ _ B1.out).trans (show _ = some (Value.slice (some ⟨vb, vo, none⟩) 3 vc) from rfl)
 go_wp2_with fail
 clear q0 q1 i0
 refine (F0.out W (slR_spans (ci_below HI.out d.out).1)).mono ?_
 rintro e wa0 ⟨u0, rfl, ou, c4⟩
 replace B1 := Lib.hid ((c4.block (w.heap.size + 1) (Array.getElem?_eq_some_iff.1 B1.out).1).trans B1.out)
 replace B2 := Lib.hid ((c4.block (w.heap.size + 1 + 1) (Array.getElem?_eq_some_iff.1 B2.out).1).trans B2.out)
 replace B3 := Lib.hid ((c4.block (w.heap.size + 1 + 1 + 1) (Array.getElem?_eq_some_iff.1 B3.out).1).trans B3.out)
 replace d := Lib.hid (d.out.trans (c4.mono d.out.size))
 have Z_wa0 := Lib.hid (show W.heap.size ≤ wa0.heap.size from c4.size)
 clear c4
 go_wp2_with fail
 refine (M0.out u0 wa0 (ownsN_ints ou)).mono ?_
 rintro e wb0 ⟨rfl, c5⟩
 replace B1 := Lib.hid ((c5.block (w.heap.size + 1) (Array.getElem?_eq_some_iff.1 B1.out).1).trans B1.out)
 replace B2 := Lib.hid ((c5.block (w.heap.size + 1 + 1) (Array.getElem?_eq_some_iff.1 B2.out).1).trans B2.out)
 replace B3 := Lib.hid ((c5.block (w.heap.size + 1 + 1 + 1) (Array.getElem?_eq_some_iff.1 B3.out).1).trans B3.out)
 replace d := Lib.hid (d.out.trans (c5.mono d.out.size))
 have Z_wb0 := Lib.hid (show wa0.heap.size ≤ wb0.heap.size from c5.size)
 clear c5 ou
 have f0 := frozen_of_row wb0 _ 0 _ _ B3.out
 have r0 := (cell_of_row wb0 _ 0 _ _ _ B3.out).trans (show _ = some (Value.int .u32 0) from rfl)
 go_wp2
 clear f0 r0
 have yd := d.out.size
 have tt : Turn (fun b => b = w.heap.size + 1 + 1 + 1) wb0 (wb0.setCell ⟨w.heap.size + 1 + 1 + 1, 0, none⟩ (.int .u32 (m0 : Int))) := turn_set (G := fun b => b = w.heap.size + 1 + 1 + 1) (g := w.heap.size + 1 + 1 + 1) (j := 0) (u := .int .u32 (m0 : Int)) rfl
 have r := heap_setCell_same wb0 (w.heap.size + 1 + 1 + 1) 0 _ _ (.int .u32 (m0 : Int)) B3.out
 have hb1 := (Array.getElem?_eq_some_iff.1 B1.out).1; have hb2 := (Array.getElem?_eq_some_iff.1 B2.out).1
 replace B3 : Hid ((wb0.setCell ⟨w.heap.size + 1 + 1 + 1, 0, none⟩ (.int .u32 (m0 : Int))).heap[(w.heap.size + 1 + 1 + 1)]? = some (.cells #[.int .u32 (m0 : Int), .int .u32 0, .int .u32 0] 119 (0, 0))) := Lib.hid (by simpa using r)
 replace B1 := Lib.hid ((tt.block (w.heap.size + 1) hb1 (fun h => by omega)).trans B1.out)
 replace B2 := Lib.hid ((tt.block (w.heap.size + 1 + 1) hb2 (fun h => by omega)).trans B2.out)
 replace d := Lib.hid (below_turn d.out tt (fun b h => by omega) d.out.size)
 clear tt r yd hb1 hb2
 generalize (wb0.setCell ⟨w.heap.size + 1 + 1 + 1, 0, none⟩ (.int .u32 (m0 : Int))) = W2 at *
 rw [rounds_succ]
 have i0 : (0 : Int) ≤ 1 := by decide
 have q0 := (d.out.cell (p := ⟨vb, vo + 1, none⟩) HVB.out).trans V1.out
 have q1 := (cell_of_row W2 _ 1 _ _ _ B1.out).trans (show _ = some (Value.slice (some ⟨vb, vo, none⟩) 3 vc) from rfl)
 go_wp2_with fail
 clear q0 q1 i0
 refine (F1.out W2 (slR_spans (ci_below HI.out d.out).2.1)).mono ?_
 rintro e wa1 ⟨u1, rfl, ou, c4⟩
 replace B1 := Lib.hid ((c4.block (w.heap.size + 1) (Array.getElem?_eq_some_iff.1 B1.out).1).trans B1.out)
 replace B2 := Lib.hid ((c4.block (w.heap.size + 1 + 1) (Array.getElem?_eq_some_iff.1 B2.out).1).trans B2.out)
 replace B3 := Lib.hid ((c4.block (w.heap.size + 1 + 1 + 1) (Array.getElem?_eq_some_iff.1 B3.out).1).trans B3.out)
 replace d := Lib.hid (d.out.trans (c4.mono d.out.size))
 have Z_wa1 := Lib.hid (show W2.heap.size ≤ wa1.heap.size from c4.size)
 clear c4
 go_wp2_with fail
 refine (M1.out u1 wa1 (ownsN_ints ou)).mono ?_
 rintro e wb1 ⟨rfl, c5⟩
 replace B1 := Lib.hid ((c5.block (w.heap.size + 1) (Array.getElem?_eq_some_iff.1 B1.out).1).trans B1.out)
 replace B2 := Lib.hid ((c5.block (w.heap.size + 1 + 1) (Array.getElem?_eq_some_iff.1 B2.out).1).trans B2.out)
 replace B3 := Lib.hid ((c5.block (w.heap.size + 1 + 1 + 1) (Array.getElem?_eq_some_iff.1 B3.out).1).trans B3.out)
 replace d := Lib.hid (d.out.trans (c5.mono d.out.size))
 have Z_wb1 := Lib.hid (show wa1.heap.size ≤ wb1.heap.size from c5.size)
 clear c5 ou
 have f0 := frozen_of_row wb1 _ 1 _ _ B3.out
 have r0 := (cell_of_row wb1 _ 1 _ _ _ B3.out).trans (show _ = some (Value.int .u32 0) from rfl)
 go_wp2
 clear f0 r0
 have yd := d.out.size
 have tt : Turn (fun b => b = w.heap.size + 1 + 1 + 1) wb1 (wb1.setCell ⟨w.heap.size + 1 + 1 + 1, 1, none⟩ (.int .u32 (m1 : Int))) := turn_set (G := fun b => b = w.heap.size + 1 + 1 + 1) (g := w.heap.size + 1 + 1 + 1) (j := 1) (u := .int .u32 (m1 : Int)) rfl
 have r := heap_setCell_same wb1 (w.heap.size + 1 + 1 + 1) 1 _ _ (.int .u32 (m1 : Int)) B3.out
 have hb1 := (Array.getElem?_eq_some_iff.1 B1.out).1; have hb2 := (Array.getElem?_eq_some_iff.1 B2.out).1
 replace B3 : Hid ((wb1.setCell ⟨w.heap.size + 1 + 1 + 1, 1, none⟩ (.int .u32 (m1 : Int))).heap[(w.heap.size + 1 + 1 + 1)]? = some (.cells #[.int .u32 (m0 : Int), .int .u32 (m1 : Int), .int .u32 0] 119 (0, 0))) := Lib.hid (by simpa using r)
 replace B1 := Lib.hid ((tt.block (w.heap.size + 1) hb1 (fun h => by omega)).trans B1.out)
 replace B2 := Lib.hid ((tt.block (w.heap.size + 1 + 1) hb2 (fun h => by omega)).trans B2.out)
 replace d := Lib.hid (below_turn d.out tt (fun b h => by omega) d.out.size)
 clear tt r yd hb1 hb2
 generalize (wb1.setCell ⟨w.heap.size + 1 + 1 + 1, 1, none⟩ (.int .u32 (m1 : Int))) = W3 at *
 rw [rounds_succ]
 have i0 : (0 : Int) ≤ 2 := by decide
 have q0 := (d.out.cell (p := ⟨vb, vo + 2, none⟩) HVB.out).trans V2.out
 have q1 := (cell_of_row W3 _ 1 _ _ _ B1.out).trans (show _ = some (Value.slice (some ⟨vb, vo, none⟩) 3 vc) from rfl)
 go_wp2_with fail
 clear q0 q1 i0
 refine (F2.out W3 (slR_spans (ci_below HI.out d.out).2.2)).mono ?_
 rintro e wa2 ⟨u2, rfl, ou, c4⟩
 replace B1 := Lib.hid ((c4.block (w.heap.size + 1) (Array.getElem?_eq_some_iff.1 B1.out).1).trans B1.out)
 replace B2 := Lib.hid ((c4.block (w.heap.size + 1 + 1) (Array.getElem?_eq_some_iff.1 B2.out).1).trans B2.out)
 replace B3 := Lib.hid ((c4.block (w.heap.size + 1 + 1 + 1) (Array.getElem?_eq_some_iff.1 B3.out).1).trans B3.out)
 replace d := Lib.hid (d.out.trans (c4.mono d.out.size))
 have Z_wa2 := Lib.hid (show W3.heap.size ≤ wa2.heap.size from c4.size)
 clear c4
 go_wp2_with fail
 refine (M2.out u2 wa2 (ownsN_ints ou)).mono ?_
 rintro e wb2 ⟨rfl, c5⟩
 replace B1 := Lib.hid ((c5.block (w.heap.size + 1) (Array.getElem?_eq_some_iff.1 B1.out).1).trans B1.out)
 replace B2 := Lib.hid ((c5.block (w.heap.size + 1 + 1) (Array.getElem?_eq_some_iff.1 B2.out).1).trans B2.out)
 replace B3 := Lib.hid ((c5.block (w.heap.size + 1 + 1 + 1) (Array.getElem?_eq_some_iff.1 B3.out).1).trans B3.out)
 replace d := Lib.hid (d.out.trans (c5.mono d.out.size))
 have Z_wb2 := Lib.hid (show wa2.heap.size ≤ wb2.heap.size from c5.size)
 clear c5 ou
 have f0 := frozen_of_row wb2 _ 2 _ _ B3.out
 have r0 := (cell_of_row wb2 _ 2 _ _ _ B3.out).trans (show _ = some (Value.int .u32 0) from rfl)
 go_wp2
 clear f0 r0
 have yd := d.out.size
 have tt : Turn (fun b => b = w.heap.size + 1 + 1 + 1) wb2 (wb2.setCell ⟨w.heap.size + 1 + 1 + 1, 2, none⟩ (.int .u32 (m2 : Int))) := turn_set (G := fun b => b = w.heap.size + 1 + 1 + 1) (g := w.heap.size + 1 + 1 + 1) (j := 2) (u := .int .u32 (m2 : Int)) rfl
 have r := heap_setCell_same wb2 (w.heap.size + 1 + 1 + 1) 2 _ _ (.int .u32 (m2 : Int)) B3.out
 have hb1 := (Array.getElem?_eq_some_iff.1 B1.out).1; have hb2 := (Array.getElem?_eq_some_iff.1 B2.out).1
 replace B3 : Hid ((wb2.setCell ⟨w.heap.size + 1 + 1 + 1, 2, none⟩ (.int .u32 (m2 : Int))).heap[(w.heap.size + 1 + 1 + 1)]? = some (.cells #[.int .u32 (m0 : Int), .int .u32 (m1 : Int), .int .u32 (m2 : Int)] 119 (0, 0))) := Lib.hid (by simpa using r)
 replace B1 := Lib.hid ((tt.block (w.heap.size + 1) hb1 (fun h => by omega)).trans B1.out)
 replace B2 := Lib.hid ((tt.block (w.heap.size + 1 + 1) hb2 (fun h => by omega)).trans B2.out)
 replace d := Lib.hid (below_turn d.out tt (fun b h => by omega) d.out.size)
 clear tt r yd hb1 hb2
 generalize (wb2.setCell ⟨w.heap.size + 1 + 1 + 1, 2, none⟩ (.int .u32 (m2 : Int))) = W4 at *
 rw [rounds_succ]
 have p_B3_0 := (cell_of_row W4 _ 0 _ _ _ B3.out).trans (show _ = some (Value.int .u32 (m0 : Int)) from rfl)
 have p_B3_1 := (cell_of_row W4 _ 1 _ _ _ B3.out).trans (show _ = some (Value.int .u32 (m1 : Int)) from rfl)
 have p_B3_2 := (cell_of_row W4 _ 2 _ _ _ B3.out).trans (show _ = some (Value.int .u32 (m2 : Int)) from rfl)
 have p_B2_0 := (cell_of_row W4 _ 0 _ _ _ B2.out).trans (show _ = some (Value.int .u32 0) from rfl)
 have p_B2_1 := (cell_of_row W4 _ 1 _ _ _ B2.out).trans (show _ = some (Value.int .u32 0) from rfl)
 have p_B2_2 := (cell_of_row W4 _ 2 _ _ _ B2.out).trans (show _ = some (Value.int .u32 0) from rfl)
 have f_B2_0 := frozen_of_row W4 _ 0 _ _ B2.out
 have f_B2_1 := frozen_of_row W4 _ 1 _ _ B2.out
 have f_B2_2 := frozen_of_row W4 _ 2 _ _ B2.out
 go_wp2
 have D := Lib.hid (((d.out.setCell (p := ⟨w.heap.size + 1 + 1, 0, none⟩) (by simp <;> omega) (.int .u32 (m0 : Int))).setCell (p := ⟨w.heap.size + 1 + 1, 1, none⟩) (by simp <;> omega) (.int .u32 (m1 : Int))).setCell (p := ⟨w.heap.size + 1 + 1, 2, none⟩) (by simp <;> omega) (.int .u32 (m2 : Int)))
 have r := heap_setCell_same _ (w.heap.size + 1 + 1) 2 _ _ (.int .u32 (m2 : Int)) (heap_setCell_same _ (w.heap.size + 1 + 1) 1 _ _ (.int .u32 (m1 : Int)) (heap_setCell_same W4 (w.heap.size + 1 + 1) 0 _ _ (.int .u32 (m0 : Int)) B2.out))
 simp at r
 have e0 := (cell_of_row _ (w.heap.size + 1 + 1) 0 _ _ _ r).trans (show _ = some (Value.int .u32 (m0 : Int)) from rfl)
 have e1 := (cell_of_row _ (w.heap.size + 1 + 1) 1 _ _ _ r).trans (show _ = some (Value.int .u32 (m1 : Int)) from rfl)
 have e2 := (cell_of_row _ (w.heap.size + 1 + 1) 2 _ _ _ r).trans (show _ = some (Value.int .u32 (m2 : Int)) from rfl)
 clear r
 refine bodyPost_ret (v := .agg #[.int .u32 (m0 : Int), .int .u32 (m1 : Int), .int .u32 (m2 : Int)]) ?_ rfl ⟨rfl, D.out⟩
 simp [results, Tryd.f85, go_sem, e0, e1, e2]
theorem pick_lt {a b c : Nat} (ha : a < 16777216) (hb : b < 16777216) (hc : c < 16777216) (f : Int) : pick3 a b c f < 16777216 := by
 unfold pick3
 split
 ·
  exact ha
 ·
  split
  ·
   exact hb
  ·
   exact hc
theorem pair_wi {R : Nat × Int} {m : Nat} {n : Int} (h : R = (m, n)) : Ending.returned (.tuple #[.int .u32 (m : Int), .int .i64 n]) = .returned (.tuple #[.int .u32 ((R.1 : Nat) : Int), .int .i64 R.2]) := by rw [h]
/-- What is left of three fields after k of them. -/
def dropF (x0 x1 x2 : Int) (k : Nat) : List Int := [x0, x1, x2].drop k
theorem probeM_stop {s : Int → Nat} {os : List Int} {work : Int} : probeM s os 0 work = (0, work) := by
 cases os with
 | nil => rfl
 | cons f os => unfold probeM; rfl
theorem probeM_go {s : Int → Nat} {f : Int} {os : List Int} {m : Nat} {work : Int} (h : ¬ m = 0) : probeM s (f :: os) m work = probeM s os (m &&& s f) (work + 1 + ((min (cntM m) (cntM (s f)) : Nat) : Int)) := by
 rw [probeM, if_neg h]
set_option maxHeartbeats 16000000 in
set_option maxRecDepth 100000 in
theorem implProbe (m : Nat) (s0 s1 s2 : Value) (a b c : Nat) (x0 x1 x2 : Int) (w : World) (hm : m < 16777216) (ha : a < 16777216) (hb : b < 16777216) (hc : c < 16777216) (h0 : 0 ≤ x0 ∧ x0 ≤ 2) (h1 : 0 ≤ x1 ∧ x1 ≤ 2) (h2 : 0 ≤ x2 ∧ x2 ≤ 2) :
  Calls Tryd.prog 84 #[ciV m s0 s1 s2, .agg #[.int .u32 (a : Int), .int .u32 (b : Int), .int .u32 (c : Int)], .agg #[.int .i64 x0, .int .i64 x1, .int .i64 x2]] w fun e w' =>
   e = .returned (.tuple #[.int .u32 (((probeM (pick3 a b c) [x0, x1, x2] m 0).1 : Nat) : Int), .int .i64 (probeM (pick3 a b c) [x0, x1, x2] m 0).2]) ∧ Below w.heap.size w w' := by
 obtain ⟨R, hR⟩ : ∃ R, R = probeM (pick3 a b c) [x0, x1, x2] m 0 := ⟨_, rfl⟩
 rw [← hR]
 have HR := Lib.hid hR
 have HL : Hid (∀ f, pick3 a b c f < 16777216) := Lib.hid (pick_lt ha hb hc)
 have HM := Lib.hid hm
 have d := Lib.hid ((((Below.refl w.heap.size w).alloc (Nat.le_refl _) (.cells #[.int .u32 (m : Int), s0, s1, s2] 109)).alloc (by simp) (.cells #[.int .u32 (a : Int), .int .u32 (b : Int), .int .u32 (c : Int)] 119)).alloc (by simp <;> omega) (.cells #[.int .i64 x0, .int .i64 x1, .int .i64 x2] 113))
 have B0 : Hid ((((w.alloc (.cells #[.int .u32 (m : Int), s0, s1, s2] 109)).alloc (.cells #[.int .u32 (a : Int), .int .u32 (b : Int), .int .u32 (c : Int)] 119)).alloc (.cells #[.int .i64 x0, .int .i64 x1, .int .i64 x2] 113)).heap[w.heap.size]? = some (.cells #[.int .u32 (m : Int), s0, s1, s2] 109 (0, 0))) := Lib.hid (by
  rw [Below.heap_alloc _ _ _ (by simp <;> omega), Below.heap_alloc _ _ _ (by simp)]
  exact heap_alloc_new w _)
 have B1 : Hid ((((w.alloc (.cells #[.int .u32 (m : Int), s0, s1, s2] 109)).alloc (.cells #[.int .u32 (a : Int), .int .u32 (b : Int), .int .u32 (c : Int)] 119)).alloc (.cells #[.int .i64 x0, .int .i64 x1, .int .i64 x2] 113)).heap[(w.heap.size + 1)]? = some (.cells #[.int .u32 (a : Int), .int .u32 (b : Int), .int .u32 (c : Int)] 119 (0, 0))) := Lib.hid (by
  rw [Below.heap_alloc _ _ _ (by simp)]
  have := heap_alloc_new (w.alloc (.cells #[.int .u32 (m : Int), s0, s1, s2] 109)) (.cells #[.int .u32 (a : Int), .int .u32 (b : Int), .int .u32 (c : Int)] 119)
  simpa only [World.size_alloc] using this)
 have B2 : Hid ((((w.alloc (.cells #[.int .u32 (m : Int), s0, s1, s2] 109)).alloc (.cells #[.int .u32 (a : Int), .int .u32 (b : Int), .int .u32 (c : Int)] 119)).alloc (.cells #[.int .i64 x0, .int .i64 x1, .int .i64 x2] 113)).heap[(w.heap.size + 1 + 1)]? = some (.cells #[.int .i64 x0, .int .i64 x1, .int .i64 x2] 113 (0, 0))) := Lib.hid (by
  have := heap_alloc_new ((w.alloc (.cells #[.int .u32 (m : Int), s0, s1, s2] 109)).alloc (.cells #[.int .u32 (a : Int), .int .u32 (b : Int), .int .u32 (c : Int)] 119)) (.cells #[.int .i64 x0, .int .i64 x1, .int .i64 x2] 113)
  simpa only [World.size_alloc] using this)
 have HX : Hid (∀ k, k < 3 → ∃ f : Nat, f < 3 ∧ dropF x0 x1 x2 k = (f : Int) :: dropF x0 x1 x2 (k + 1) ∧ (∀ w, Sem.run Tryd.prog (Instr.index 113 (.agg #[.int .i64 x0, .int .i64 x1, .int .i64 x2]) (.int .i64 (k : Int))) w = .ok (.int .i64 (f : Int)) w) ∧ ∀ W : World, W.heap[(w.heap.size + 1)]? = some (.cells #[.int .u32 (a : Int), .int .u32 (b : Int), .int .u32 (c : Int)] 119 (0, 0)) → W.cell? ⟨w.heap.size + 1, f, none⟩ = some (.int .u32 ((pick3 a b c (f : Int) : Nat) : Int))) := Lib.hid (by
  have pk : ∀ f : Nat, f < 3 → ∀ W : World, W.heap[(w.heap.size + 1)]? = some (.cells #[.int .u32 (a : Int), .int .u32 (b : Int), .int .u32 (c : Int)] 119 (0, 0)) → W.cell? ⟨w.heap.size + 1, f, none⟩ = some (.int .u32 ((pick3 a b c (f : Int) : Nat) : Int)) := by
   intro f hf W hW
   rw [cell_of_row W _ f _ _ _ hW]
   rcases (show f = 0 ∨ f = 1 ∨ f = 2 by omega) with rfl | rfl | rfl <;> rfl
  intro k hk
  rcases (show k = 0 ∨ k = 1 ∨ k = 2 by omega) with rfl | rfl | rfl
  ·
   exact ⟨x0.toNat, by omega, by show [x0, x1, x2] = _ :: [x1, x2]; rw [Int.toNat_of_nonneg h0.1], fun w => by rw [Int.toNat_of_nonneg h0.1]; exact idxP0 x0 x1 x2 w, fun W hW => pk _ (by omega) W hW⟩
  ·
   exact ⟨x1.toNat, by omega, by show [x1, x2] = _ :: [x2]; rw [Int.toNat_of_nonneg h1.1], fun w => by rw [Int.toNat_of_nonneg h1.1]; exact idxP1 x0 x1 x2 w, fun W hW => pk _ (by omega) W hW⟩
  ·
   exact ⟨x2.toNat, by omega, by show [x2] = _ :: []; rw [Int.toNat_of_nonneg h2.1], fun w => by rw [Int.toNat_of_nonneg h2.1]; exact idxP2 x0 x1 x2 w, fun W hW => pk _ (by omega) W hW⟩)
 clear hm ha hb hc h0 h1 h2 hR
 go_enter Tryd.func84, Tryd.ntmps84
 go_wp2_with fail
 generalize (((w.alloc (.cells #[.int .u32 (m : Int), s0, s1, s2] 109)).alloc (.cells #[.int .u32 (a : Int), .int .u32 (b : Int), .int .u32 (c : Int)] 119)).alloc (.cells #[.int .i64 x0, .int .i64 x1, .int .i64 x2] 113)) = W at *
 have p0 := (cell_of_row W _ 0 _ _ _ B0.out).trans (show _ = some (Value.int .u32 (m : Int)) from rfl)
 have p1 := (cell_of_row W _ 0 _ _ _ B2.out).trans (show _ = some (Value.int .i64 x0) from rfl)
 have p2 := (cell_of_row W _ 1 _ _ _ B2.out).trans (show _ = some (Value.int .i64 x1) from rfl)
 have p3 := (cell_of_row W _ 2 _ _ _ B2.out).trans (show _ = some (Value.int .i64 x2) from rfl)
 go_wp2
 clear p0 p1 p2 p3 B0 B2
 go_loopw [8, 9, 15] (fun r n i wr => ∃ (k m' : Nat) (work : Int), k ≤ 3 ∧ i = .int .i64 k ∧ r = .int .u32 (m' : Int) ∧ n = .int .i64 work ∧ Hid (m' < 16777216) ∧ Hid (0 ≤ work ∧ work ≤ 25 * k) ∧ Hid (probeM (pick3 a b c) (dropF x0 x1 x2 k) m' work = R) ∧ Hid (wr.heap[(w.heap.size + 1)]? = some (.cells #[.int .u32 (a : Int), .int .u32 (b : Int), .int .u32 (c : Int)] 119 (0, 0))) ∧ Hid (Below w.heap.size w wr)) (fun _ _ i _ => 3 - (intOf i).toNat)
 case atStart => exact ⟨0, m, 0, by omega, rfl, rfl, rfl, HM, Lib.hid ⟨by omega, by omega⟩, Lib.hid HR.out.symm, B1, d⟩
 case round =>
  clear B1 d HM
  obtain ⟨k, m', work, hk, rfl, rfl, rfl, HM, HW, HP, B1, d⟩ := hrel
  by_cases hlt : k < 3
  ·
   obtain ⟨f, hf, hdr, hI, hcl⟩ := HX.out k hlt
   have i1 : (0 : Int) ≤ (k : Int) := by omega
   have i2 : (k : Int) < 3 := by omega
   by_cases hz : m' = 0
   ·
    have hz2 : ((m' : Int) == 0) = true := by rw [hz]; rfl
    have HE : Hid (R = (m', work)) := Lib.hid (by have := HP.out; rw [hz] at this ⊢; rw [← this]; exact probeM_stop)
    clear hz HP hdr hcl
    go_wp2
    go_ret2
    exact ⟨pair_wi HE.out, d.out⟩
   ·
    have hz2 : ((m' : Int) == 0) = false := by rw [beq_eq_false_iff_ne]; omega
    have HN : Hid (probeM (pick3 a b c) (dropF x0 x1 x2 (k + 1)) (m' &&& pick3 a b c (f : Int)) (work + 1 + ((min (cntM m') (cntM (pick3 a b c (f : Int))) : Nat) : Int)) = R) := Lib.hid (by have := HP.out; rw [hdr, probeM_go hz] at this; exact this)
    have HC := Lib.hid hcl
    have HQ := Lib.hid (HL.out (f : Int))
    have HC1 := Lib.hid (fun w => maskCount m' HM.out w)
    have HC2 := Lib.hid (fun w => maskCount (pick3 a b c (f : Int)) HQ.out w)
    have j1 : (0 : Int) ≤ (f : Int) := by omega
    have j2 : (f : Int) < 3 := by omega
    have HA : Hid (bits .and .u32 (m' : Int) ((pick3 a b c (f : Int) : Nat) : Int) = ((m' &&& pick3 a b c (f : Int) : Nat) : Int)) := Lib.hid (and_u32 _ _ (by have := HM.out; omega) (by have := HQ.out; omega))
    have HLT : Hid (m' &&& pick3 a b c (f : Int) < 16777216) := Lib.hid (Nat.lt_of_le_of_lt Nat.and_le_left HM.out)
    have l1 := cntM_le m'
    have l2 := cntM_le (pick3 a b c (f : Int))
    clear hz HP hdr hcl
    generalize pick3 a b c (f : Int) = t at *
    generalize m' &&& t = m2 at *
    generalize cntM m' = n1 at *
    generalize cntM t = n2 at *
    have hw1 := HW.out.1
    have hw2 : work ≤ 50 := by have := HW.out.2; omega
    have hmn : min (n1 : Int) (n2 : Int) = ((min n1 n2 : Nat) : Int) := by omega
    have hmm : min n1 n2 ≤ 24 := by omega
    have HMN := Lib.hid hmn
    clear hmn
    go_wp2
    have p_el := HC.out wr B1.out
    refine wp_region_held_drew (S := fun w' => w'.cell? ⟨w.heap.size + 1, f, none⟩ = some (Value.int .u32 (t : Int))) (by kernel_rfl) p_el (fun hHeld => ?_)
    clear p_el
    have cdr : Below wr.heap.size wr wr.drew := below_drew (Below.refl _ _)
    replace B1 := Lib.hid ((cdr.block (w.heap.size + 1) (Array.getElem?_eq_some_iff.1 B1.out).1).trans B1.out)
    replace d := Lib.hid (d.out.trans (cdr.mono d.out.size))
    clear cdr
    refine tR (i := 0) (v := ?_) ?_ ?_; rotate_left
    ·
     intro w hSw; (try dsimp only at hSw); go_simp; try (with_reducible rfl)
    try simp only [Act.put, lA, lB, lC]
    refine tR (i := 1) (v := ?_) ?_ ?_; rotate_left
    ·
     intro w hSw; (try dsimp only at hSw); go_simp; try (with_reducible rfl)
    try simp only [Act.put, lA, lB, lC]
    refine tR (i := 3) (v := ?_) ?_ ?_; rotate_left
    ·
     intro w hSw; (try dsimp only at hSw); go_simp; try (with_reducible rfl)
    try simp only [Act.put, lA, lB, lC]
    refine tR (i := 4) (v := ?_) ?_ ?_; rotate_left
    ·
     intro w hSw; (try dsimp only at hSw); go_simp; try (with_reducible rfl)
    try simp only [Act.put, lA, lB, lC]
    refine tR (i := 5) (v := ?_) ?_ ?_; rotate_left
    ·
     intro w hSw; (try dsimp only at hSw); go_simp; try (with_reducible rfl)
    try simp only [Act.put, lA, lB, lC]
    refine wpAnyH_ready (rs := [2]) (by kernel_rfl) (by simp) ?_
    refine (AllReadyH.cons (o := _) (by simp only [hA, hB, hC]; rfl) (fun K hK => ?_) AllReadyH.nil)
    go_simp
    refine (HC1.out _).mono ?_
    rintro e wc1 ⟨rfl, c1⟩
    replace B1 := Lib.hid ((c1.block (w.heap.size + 1) (Array.getElem?_eq_some_iff.1 B1.out).1).trans B1.out)
    replace d := Lib.hid (d.out.trans (c1.mono d.out.size))
    have Z_wc1 := Lib.hid (show wr.heap.size ≤ wc1.heap.size from c1.size)
    clear c1
    have p_el := HC.out wc1 B1.out
    refine hK.out _ _ p_el (fun hHeld => ?_)
    clear p_el
    clear hK K
    try simp only [Act.put, lA, lB, lC]
    refine wpAnyH_ready (rs := [6]) (by kernel_rfl) (by simp) ?_
    refine (AllReadyH.cons (o := _) (by simp only [hA, hB, hC]; rfl) (fun K hK => ?_) AllReadyH.nil)
    go_simp
    refine (HC2.out _).mono ?_
    rintro e wc2 ⟨rfl, c2⟩
    replace B1 := Lib.hid ((c2.block (w.heap.size + 1) (Array.getElem?_eq_some_iff.1 B1.out).1).trans B1.out)
    replace d := Lib.hid (d.out.trans (c2.mono d.out.size))
    have Z_wc2 := Lib.hid (show wc1.heap.size ≤ wc2.heap.size from c2.size)
    clear c2
    have p_el := HC.out wc2 B1.out
    refine hK.out _ _ p_el (fun hHeld => ?_)
    clear p_el
    clear hK K
    try simp only [Act.put, lA, lB, lC]
    refine tR (i := 7) (v := ?_) ?_ ?_; rotate_left
    ·
     intro w hSw; (try dsimp only at hSw); go_simp; try (with_reducible rfl)
    try simp only [Act.put, lA, lB, lC]
    refine tR (i := 8) (v := ?_) ?_ ?_; rotate_left
    ·
     intro w hSw; (try dsimp only at hSw); go_simp; try (with_reducible rfl)
    try simp only [Act.put, lA, lB, lC]
    refine tR (i := 9) (v := ?_) ?_ ?_; rotate_left
    ·
     intro w hSw; (try dsimp only at hSw); go_simp; try (with_reducible rfl)
    try simp only [Act.put, lA, lB, lC]
    refine tR (i := 10) (v := ?_) ?_ ?_; rotate_left
    ·
     intro w hSw; (try dsimp only at hSw); go_simp; try (with_reducible rfl)
    try simp only [Act.put, lA, lB, lC]
    refine wpAnyH_done (by kernel_rfl) ?_ _
    clear hHeld
    clear HC1 HC2
    have p_el := HC.out wc2 B1.out
    have HWV : Hid (IntKind.i64.wrap (work + IntKind.i64.wrap (1 + min (n1 : Int) (n2 : Int))) = work + 1 + ((min n1 n2 : Nat) : Int)) := Lib.hid (by rw [IntWalk.i64_in (1 + min (n1 : Int) (n2 : Int)) (by omega), IntWalk.i64_in _ (by omega)]; omega)
    go_wp2
    clear p_el
    go_roundw
    case rel => exact ⟨k + 1, m2, work + 1 + ((min n1 n2 : Nat) : Int), by omega, by go_num, by rw [HA.out], congrArg (Value.int .i64) HWV.out, HLT, Lib.hid ⟨by omega, by have := HW.out.2; omega⟩, HN, B1, d⟩
    case measure => simp [intOf]; omega
  ·
   obtain rfl : k = 3 := by omega
   have HE : Hid (R = (m', work)) := Lib.hid HP.out.symm
   clear HP
   go_wp2
   go_ret2
   exact ⟨pair_wi HE.out, d.out⟩
end Go.Proofs.YtededfficggkaaaDoor
namespace Go.Proofs.YtededfficggkaaaDoor
open Go.RowKit Go.Maps
set_option linter.unusedVariables false
set_option linter.unusedSimpArgs false
theorem arrK : WideMaps.ArrKey Tryd.prog 119 73 3 := ⟨Tryd.underlying119, by kernel_rfl, by kernel_rfl, by kernel_rfl⟩
theorem keyLawK : WideMaps.KeyLaw Tryd.prog 119 := arrK.law
theorem keyedK : Keyed Tryd.prog 119 := Keyed.of_law keyLawK
theorem typesK : ∃ m, Tryd.prog.types.size = m + 1 := ⟨Tryd.prog.types.size - 1, (Nat.sub_add_cancel (of_decide_eq_true (p := 1 ≤ Tryd.prog.types.size) (by kernel_rfl))).symm⟩
theorem zeroK (w : World) : (zeroValue 3).run Tryd.prog w = .ok (.int .i64 0) w := by kernel_rfl
theorem wf_u32 {m : Nat} (h : m < 16777216) : (Lit.int .u32 (m : Int)).wf = true := by
 have h1 : IntKind.u32.min = 0 := by decide
 have h2 : IntKind.u32.max = 4294967295 := by decide
 simp [Lit.wf, h1, h2]
 omega
/-- The key of three masks. -/
def keyL (a b c : Nat) : Lit := .string (keyBytes [.int .u32 (a : Int), .int .u32 (b : Int), .int .u32 (c : Int)])
theorem keyL_of {a b c : Nat} (ha : a < 16777216) (hb : b < 16777216) (hc : c < 16777216) : keyOf Tryd.prog 119 (.agg #[.int .u32 (a : Int), .int .u32 (b : Int), .int .u32 (c : Int)]) = some (keyL a b c) :=
 keyOf_triple arrK Tryd.underlying73 typesK (wf_u32 ha) (wf_u32 hb) (wf_u32 hc)
theorem keyL_lit {a b c : Nat} : WideAt.IsKeyLit (keyL a b c) := trivial
/-- The keys of the rows that are valid. -/
def keyR (fs : List (List SpanD)) (r : RowD) : Lit := keyL (setM fs r.2 0) (setM fs r.2 1) (setM fs r.2 2)
def keysTo (fs : List (List SpanD)) (rs : List RowD) (k : Nat) : List Lit := ((rs.take k).filter rowB).map (keyR fs)
theorem keysTo_yes {fs : List (List SpanD)} {rs : List RowD} {k : Nat} {d : RowD} (hk : k < rs.length) (h : rowB (rs.getD k d) = true) : keysTo fs rs (k + 1) = keysTo fs rs k ++ [keyR fs (rs.getD k d)] := by
 have e : rs.getD k d = rs[k] := by simp [List.getD, hk]
 rw [e] at h ⊢
 unfold keysTo
 rw [List.take_succ_eq_append_getElem hk, List.filter_append, List.map_append]
 simp [h]
theorem keysTo_no {fs : List (List SpanD)} {rs : List RowD} {k : Nat} {d : RowD} (hk : k < rs.length) (h : rowB (rs.getD k d) = false) : keysTo fs rs (k + 1) = keysTo fs rs k := by
 have e : rs.getD k d = rs[k] := by simp [List.getD, hk]
 rw [e] at h
 unfold keysTo
 rw [List.take_succ_eq_append_getElem hk, List.filter_append, List.map_append]
 simp [h]
theorem keysTo_len (fs : List (List SpanD)) (rs : List RowD) (k : Nat) : (keysTo fs rs k).length ≤ k := by
 unfold keysTo
 rw [List.length_map]
 exact Nat.le_trans (List.length_filter_le _ _) (by simp <;> omega)
theorem below_grown {w w' : World} (h : Below w.heap.size w w') (row : Option Nat) : w.grownBy w' row := ⟨h.os, h.tape, h.output, h.size, fun i hi _ => h.block i hi⟩
/-- An operation that runs, as a step of a drawn region. -/
theorem step_run {P : Program} {ops : Array Oper} {o : Oper} {a : Act} {w w' : World} {v : Value} {K : Act → World → Prop} {Q : Exit → Act → World → Prop} {E : Prop} (hgd : o.guard = none)
  (hy : (execOp a.eval o).run P w = .ok (.value v) w') (h : K (a.put o.dst v) w') : if Region.wanted o (yielded ops a.tmps) = true then Oper.wp P o a w K Q else E := by
 have hw : Region.wanted o (yielded ops a.tmps) = true := by simp [Region.wanted, hgd]
 rw [if_pos hw]
 unfold Oper.wp
 simp [hy, Result.andThen]
 exact h
/-- A step that leaves no value. -/
theorem step_skip {P : Program} {ops : Array Oper} {o : Oper} {a : Act} {w w' : World} {K : Act → World → Prop} {Q : Exit → Act → World → Prop} {E : Prop} (hgd : o.guard = none)
  (hy : (execOp a.eval o).run P w = .ok .skip w') (h : K (a.put o.dst undef) w') : if Region.wanted o (yielded ops a.tmps) = true then Oper.wp P o a w K Q else E := by
 have hw : Region.wanted o (yielded ops a.tmps) = true := by simp [Region.wanted, hgd]
 rw [if_pos hw]
 unfold Oper.wp
 simp [hy, Result.andThen]
 exact h
set_option maxHeartbeats 16000000 in
set_option maxRecDepth 100000 in
theorem implCountSets (m : Nat) (s0 s1 s2 : Value) (fs : List (List SpanD)) (rv : Value) (rs : List RowD) (w : World) (hc : CI w fs s0 s1 s2) (h : RowsR w rv rs) (hz : zL tSpanS fs ≤ 1048576) (hf : fs.length = 3) (hs : szL rs ≤ 1048576) :
  Calls Tryd.prog 91 #[ciV m s0 s1 s2, rv] w fun e w' => e = .returned (.map (some (w.heap.size + 1))) ∧ (∃ D : DataW Unit, World.ownsMap w' Tryd.prog 119 (plainElem (H := Unit) Tryd.prog 3) (w.heap.size + 1) rs.length D ∧ CountsD D (keysTo fs rs rs.length)) ∧ Below w.heap.size w w' := by
 have hmm := @run_makeMap Tryd.prog
 have hlen : rs.length ≤ 1048576 := by have := szTo_le (rs := rs) (Nat.zero_le _); rw [szTo_zero] at this; omega
 obtain ⟨ra, rc, rfl⟩ := rowsR_len h
 have H := Lib.hid h; have HC := Lib.hid hc; have HZ := Lib.hid hz; have HF := Lib.hid hf; have HS := Lib.hid hs
 have d := Lib.hid (((Below.refl w.heap.size w).alloc (Nat.le_refl _) (.cells #[.int .u32 (m : Int), s0, s1, s2] 109)).alloc (by simp) (.map #[] 0))
 have B0 : Hid (((w.alloc (.cells #[.int .u32 (m : Int), s0, s1, s2] 109)).alloc (.map #[] 0)).heap[w.heap.size]? = some (.cells #[.int .u32 (m : Int), s0, s1, s2] 109 (0, 0))) := Lib.hid (by rw [Below.heap_alloc _ _ _ (by simp)]; exact heap_alloc_new w _)
 have OM : Hid (∃ D : DataW Unit, World.ownsMap ((w.alloc (.cells #[.int .u32 (m : Int), s0, s1, s2] 109)).alloc (.map #[] 0)) Tryd.prog 119 (plainElem (H := Unit) Tryd.prog 3) (w.heap.size + 1) 0 D ∧ CountsD D (keysTo fs rs 0)) := Lib.hid ⟨.map [], by
  have := World.ownsMap_made (H := Unit) (w.alloc (.cells #[.int .u32 (m : Int), s0, s1, s2] 109)) Tryd.prog 119 (plainElem Tryd.prog 3)
  simpa only [World.size_alloc] using this, countsD_start⟩
 clear h hc hz hf hs
 go_enter Tryd.func91, Tryd.ntmps91
 go_wp2
 clear hmm
 generalize ((w.alloc (.cells #[.int .u32 (m : Int), s0, s1, s2] 109)).alloc (.map #[] 0)) = W at *
 go_loopw [11] (fun i wr => ∃ k : Nat, k ≤ rs.length ∧ i = .int .i64 k ∧ Hid (∃ D : DataW Unit, World.ownsMap wr Tryd.prog 119 (plainElem (H := Unit) Tryd.prog 3) (w.heap.size + 1) k D ∧ CountsD D (keysTo fs rs k)) ∧ Hid (wr.heap[w.heap.size]? = some (.cells #[.int .u32 (m : Int), s0, s1, s2] 109 (0, 0))) ∧ Hid (Below w.heap.size w wr)) (fun i _ => rs.length - (intOf i).toNat)
 case atStart => exact ⟨0, Nat.zero_le _, rfl, OM, B0, d⟩
 case round =>
  clear OM B0 d
  obtain ⟨k, hk, rfl, OM, B0, d⟩ := hrel
  by_cases hlt : k < rs.length
  ·
   obtain ⟨b, off, cap', vv, hv, hbl, hc1, hc2, hI⟩ := rowsR_at (rowsR_below H.out d.out) hlt
   simp only [Value.slice.injEq] at hv
   obtain ⟨rfl, _, rfl⟩ := hv
   obtain ⟨va, vc, rfl⟩ := ints_len hI
   have hxl := szL_row HS.out hlt
   have i1 : (0 : Int) ≤ (k : Int) := by omega
   have i2 : (k : Int) < (rs.length : Int) := by omega
   have HR := Lib.hid (fun w h => implIsRow (rs.getD k (0, [])).1 (.slice va (rs.getD k (0, [])).2.length vc) (rs.getD k (0, [])).2 w h hxl)
   have er : (((rs.getD k (0, [])).1, (rs.getD k (0, [])).2) : RowD) = rs.getD k (0, []) := rfl
   rw [er] at HR
   clear er
   cases hrb : rowB (rs.getD k (0, [])) with
   | false =>
    have HK := Lib.hid (keysTo_no (fs := fs) hlt hrb)
    rw [hrb] at HR
    clear hrb
    generalize (rs.getD k (0, [])).1 = id at *
    generalize (rs.getD k (0, [])).2 = xs at *
    go_wp2_with fail
    have hal : Below wr.heap.size wr (wr.alloc (.cells #[.int .i64 id, .slice va xs.length vc] 51)) := (Below.refl _ _).alloc (Nat.le_refl _) _
    have OM2 : Hid (∃ D : DataW Unit, World.ownsMap (wr.alloc (.cells #[.int .i64 id, .slice va xs.length vc] 51)) Tryd.prog 119 (plainElem (H := Unit) Tryd.prog 3) (w.heap.size + 1) k D ∧ CountsD D (keysTo fs rs k)) := Lib.hid (by obtain ⟨D, h1, h2⟩ := OM.out; exact ⟨D, h1.alloc _, h2⟩)
    have I2 := Lib.hid (ints_below hI hal)
    replace B0 := Lib.hid ((hal.block w.heap.size (Array.getElem?_eq_some_iff.1 B0.out).1).trans B0.out)
    replace d := Lib.hid (d.out.trans (hal.mono d.out.size))
    clear hal OM hI
    generalize wr.alloc (.cells #[.int .i64 id, .slice va xs.length vc] 51) = W2 at *
    refine (HR.out W2 I2.out).mono ?_
    rintro e w3 ⟨rfl, c3⟩
    have OM3 : Hid (∃ D : DataW Unit, World.ownsMap w3 Tryd.prog 119 (plainElem (H := Unit) Tryd.prog 3) (w.heap.size + 1) (k + 1) D ∧ CountsD D (keysTo fs rs (k + 1))) := Lib.hid (by obtain ⟨D, h1, h2⟩ := OM2.out; exact ⟨D, (h1.kept (below_grown c3 none) (by simp)).mono (Nat.le_succ _), by rw [HK.out]; exact h2⟩)
    replace B0 := Lib.hid ((c3.block w.heap.size (Array.getElem?_eq_some_iff.1 B0.out).1).trans B0.out)
    replace d := Lib.hid (d.out.trans (c3.mono d.out.size))
    have Z_w3 := Lib.hid (show W2.heap.size ≤ w3.heap.size from c3.size)
    clear c3 OM2 I2
    go_wp2
    go_roundw
    case rel => exact ⟨k + 1, by omega, by go_num, OM3, B0, d⟩
    case measure => simp [intOf]; omega
   | true =>
    have HK := Lib.hid (keysTo_yes (fs := fs) hlt hrb)
    have HV3 : Hid ((rs.getD k (0, [])).2.length = 3) := Lib.hid (row_len hrb)
    have HKL := Lib.hid (keysTo_len fs rs k)
    rw [hrb] at HR
    clear hrb
    obtain ⟨D, hown, hcd⟩ := OM.out
    have HO := Lib.hid hown; have HCD := Lib.hid hcd
    have HW0 := Lib.hid HO.out.lt
    clear hown hcd OM
    have ek : keyR fs (rs.getD k (0, [])) = keyL (setM fs (rs.getD k (0, [])).2 0) (setM fs (rs.getD k (0, [])).2 1) (setM fs (rs.getD k (0, [])).2 2) := rfl
    rw [ek] at HK
    clear ek
    generalize (rs.getD k (0, [])).1 = id at *
    generalize (rs.getD k (0, [])).2 = xs at *
    go_wp2_with fail
    have hal : Below wr.heap.size wr (wr.alloc (.cells #[.int .i64 id, .slice va xs.length vc] 51)) := (Below.refl _ _).alloc (Nat.le_refl _) _
    have B3 : Hid ((wr.alloc (.cells #[.int .i64 id, .slice va xs.length vc] 51)).heap[wr.heap.size]? = some (.cells #[.int .i64 id, .slice va xs.length vc] 51 (0, 0))) := Lib.hid (heap_alloc_new wr _)
    replace HO := Lib.hid (HO.out.alloc (.cells #[.int .i64 id, .slice va xs.length vc] 51))
    have I2 := Lib.hid (ints_below hI hal)
    replace B0 := Lib.hid ((hal.block w.heap.size (Array.getElem?_eq_some_iff.1 B0.out).1).trans B0.out)
    replace d := Lib.hid (d.out.trans (hal.mono d.out.size))
    have YB : Hid (wr.heap.size < (wr.alloc (.cells #[.int .i64 id, .slice va xs.length vc] 51)).heap.size) := Lib.hid (by simp)
    clear hal hI
    generalize wr.alloc (.cells #[.int .i64 id, .slice va xs.length vc] 51) = W2 at *
    refine (HR.out W2 I2.out).mono ?_
    rintro e w3 ⟨rfl, c3⟩
    replace HO := Lib.hid (HO.out.kept (below_grown c3 none) (by simp))
    replace I2 := Lib.hid (ints_below I2.out c3)
    replace B0 := Lib.hid ((c3.block w.heap.size (Array.getElem?_eq_some_iff.1 B0.out).1).trans B0.out)
    replace B3 := Lib.hid ((c3.block wr.heap.size (Array.getElem?_eq_some_iff.1 B3.out).1).trans B3.out)
    replace d := Lib.hid (d.out.trans (c3.mono d.out.size))
    have Z_w3 := Lib.hid (show W2.heap.size ≤ w3.heap.size from c3.size)
    clear c3
    try clear Z_w3
    have m1 := setM_lt fs xs 0; have m2 := setM_lt fs xs 1; have m3 := setM_lt fs xs 2
    have HSO := Lib.hid (fun w g1 g2 => implSetsOf m s0 s1 s2 fs id (.slice va xs.length vc) xs w g1 g2 HZ.out HF.out HV3.out)
    have HKO := Lib.hid (keyL_of m1 m2 m3)
    clear m1 m2 m3
    generalize setM fs xs 0 = a at *
    generalize setM fs xs 1 = b2 at *
    generalize setM fs xs 2 = c at *
    have YM := Lib.hid HO.out.lt
    have HWR : Hid (w.heap.size + 1 < wr.heap.size) := HW0
    have p_B3_0 := (cell_of_row w3 _ 0 _ _ _ B3.out).trans (show _ = some (Value.int .i64 id) from rfl)
    have p_B3_1 := (cell_of_row w3 _ 1 _ _ _ B3.out).trans (show _ = some (Value.slice va xs.length vc) from rfl)
    go_wp2
    clear p_B3_0 p_B3_1
    have p_B0_0 := (cell_of_row w3 _ 0 _ _ _ B0.out).trans (show _ = some (Value.int .u32 (m : Int)) from rfl)
    have p_B0_1 := (cell_of_row w3 _ 1 _ _ _ B0.out).trans (show _ = some (s0) from rfl)
    have p_B0_2 := (cell_of_row w3 _ 2 _ _ _ B0.out).trans (show _ = some (s1) from rfl)
    have p_B0_3 := (cell_of_row w3 _ 3 _ _ _ B0.out).trans (show _ = some (s2) from rfl)
    have p_B3_0 := (cell_of_row w3 _ 0 _ _ _ B3.out).trans (show _ = some (Value.int .i64 id) from rfl)
    have p_B3_1 := (cell_of_row w3 _ 1 _ _ _ B3.out).trans (show _ = some (Value.slice va xs.length vc) from rfl)
    refine wp_region_held_drew (S := fun w' => w'.cell? ⟨w.heap.size, 0, none⟩ = some (Value.int .u32 (m : Int)) ∧ w'.cell? ⟨w.heap.size, 1, none⟩ = some (s0) ∧ w'.cell? ⟨w.heap.size, 2, none⟩ = some (s1) ∧ w'.cell? ⟨w.heap.size, 3, none⟩ = some (s2) ∧ w'.cell? ⟨wr.heap.size, 0, none⟩ = some (Value.int .i64 id) ∧ w'.cell? ⟨wr.heap.size, 1, none⟩ = some (Value.slice va xs.length vc)) (by kernel_rfl) ⟨p_B0_0, p_B0_1, p_B0_2, p_B0_3, p_B3_0, p_B3_1⟩ (fun hHeld => ?_)
    clear p_B0_0 p_B0_1 p_B0_2 p_B0_3 p_B3_0 p_B3_1
    have cdr : Below w3.heap.size w3 w3.drew := below_drew (Below.refl _ _)
    replace B0 := Lib.hid ((cdr.block w.heap.size (Array.getElem?_eq_some_iff.1 B0.out).1).trans B0.out)
    replace B3 := Lib.hid ((cdr.block wr.heap.size (Array.getElem?_eq_some_iff.1 B3.out).1).trans B3.out)
    replace d := Lib.hid (d.out.trans (cdr.mono d.out.size))
    clear cdr
    refine tR (i := 0) (v := ?_) ?_ ?_; rotate_left
    ·
     intro w hSw; (try dsimp only at hSw); go_simp; try (with_reducible rfl)
    try simp only [Act.put, lA, lB, lC]
    refine tR (i := 1) (v := ?_) ?_ ?_; rotate_left
    ·
     intro w hSw; (try dsimp only at hSw); go_simp; try (with_reducible rfl)
    try simp only [Act.put, lA, lB, lC]
    refine tR (i := 2) (v := ?_) ?_ ?_; rotate_left
    ·
     intro w hSw; (try dsimp only at hSw); go_simp; try (with_reducible rfl)
    try simp only [Act.put, lA, lB, lC]
    refine wpAnyH_ready (rs := [3]) (by kernel_rfl) (by simp) ?_
    refine (AllReadyH.cons (o := _) (by simp only [hA, hB, hC]; rfl) (fun K hK => ?_) AllReadyH.nil)
    go_simp
    refine (HSO.out (w3.drew) (ci_below HC.out d.out) I2.out).mono ?_
    rintro e w4 ⟨rfl, c4⟩
    replace HO := Lib.hid (HO.out.drew.kept (below_grown c4 none) (by simp))
    replace B0 := Lib.hid ((c4.block w.heap.size (Array.getElem?_eq_some_iff.1 B0.out).1).trans B0.out)
    replace B3 := Lib.hid ((c4.block wr.heap.size (Array.getElem?_eq_some_iff.1 B3.out).1).trans B3.out)
    replace d := Lib.hid (d.out.trans (c4.mono d.out.size))
    have Z_w4 := Lib.hid (show w3.heap.size ≤ w4.heap.size from c4.size)
    clear c4 I2
    try clear Z_w4
    obtain ⟨n, st, w5, hat, hwn, hlook, hent, hlook1, hg5, hst⟩ := entry_any keyLawK Tryd.underlying126 Tryd.underlying3 zeroK HO.out (by unfold maxLen; omega) HKO.out
    have hn := countsD_at HCD.out keyL_lit hat
    have hcl := cntK_le (keysTo fs rs k) (keyL a b2 c)
    have hn0 : 0 ≤ n := by omega
    have hn1 : n ≤ 1048576 := by have := HKL.out; omega
    obtain ⟨w6, hest, ho6, hg6⟩ := hst (n + 1) (WalkArith.wf_i64 (by omega))
    have HD6 := Lib.hid (countsD_step HCD.out keyL_lit hat)
    have HO6 := Lib.hid ho6
    have YM4 := Lib.hid HO.out.lt
    have HLK := Lib.hid hlook; have HEN := Lib.hid hent; have HLK1 := Lib.hid hlook1; have HES : Hid ((Instr.entryStore 126 (.map (some (w.heap.size + 1))) (Value.int .i64 (st : Int)) (Value.int .i64 (IntKind.i64.wrap (n + 1)))).run Tryd.prog w5 = .ok () w6) := Lib.hid (by rw [IntWalk.i64_in (n + 1) (by omega)]; exact hest); have HG5 := Lib.hid hg5; have HG6 := Lib.hid hg6
    clear hat hwn hlook hent hlook1 hg5 hst hn hcl hest ho6 hg6 HO HCD
    have p_B0_0 := (cell_of_row w4 _ 0 _ _ _ B0.out).trans (show _ = some (Value.int .u32 (m : Int)) from rfl)
    have p_B0_1 := (cell_of_row w4 _ 1 _ _ _ B0.out).trans (show _ = some (s0) from rfl)
    have p_B0_2 := (cell_of_row w4 _ 2 _ _ _ B0.out).trans (show _ = some (s1) from rfl)
    have p_B0_3 := (cell_of_row w4 _ 3 _ _ _ B0.out).trans (show _ = some (s2) from rfl)
    have p_B3_0 := (cell_of_row w4 _ 0 _ _ _ B3.out).trans (show _ = some (Value.int .i64 id) from rfl)
    have p_B3_1 := (cell_of_row w4 _ 1 _ _ _ B3.out).trans (show _ = some (Value.slice va xs.length vc) from rfl)
    refine hK.out _ _ ⟨p_B0_0, p_B0_1, p_B0_2, p_B0_3, p_B3_0, p_B3_1⟩ (fun hHeld => ?_)
    clear p_B0_0 p_B0_1 p_B0_2 p_B0_3 p_B3_0 p_B3_1
    clear hK K
    try simp only [Act.put, lA, lB, lC]
    refine wpAnyH_ready (rs := [4, 6]) (by kernel_rfl) (by simp) ?_
    refine (AllReadyH.cons (o := _) (by simp only [hA, hB, hC]; rfl) (fun K hK => ?_) (AllReadyH.cons (o := _) (by simp only [hA, hB, hC]; rfl) (fun K hK => ?_) AllReadyH.nil))
    ·
     refine step_run rfl (by go_simp; rw [HLK.out]; rfl) ?_
     have p_B0_0 := (cell_of_row w4 _ 0 _ _ _ B0.out).trans (show _ = some (Value.int .u32 (m : Int)) from rfl)
     have p_B0_1 := (cell_of_row w4 _ 1 _ _ _ B0.out).trans (show _ = some (s0) from rfl)
     have p_B0_2 := (cell_of_row w4 _ 2 _ _ _ B0.out).trans (show _ = some (s1) from rfl)
     have p_B0_3 := (cell_of_row w4 _ 3 _ _ _ B0.out).trans (show _ = some (s2) from rfl)
     have p_B3_0 := (cell_of_row w4 _ 0 _ _ _ B3.out).trans (show _ = some (Value.int .i64 id) from rfl)
     have p_B3_1 := (cell_of_row w4 _ 1 _ _ _ B3.out).trans (show _ = some (Value.slice va xs.length vc) from rfl)
     refine hK.out _ _ ⟨p_B0_0, p_B0_1, p_B0_2, p_B0_3, p_B3_0, p_B3_1⟩ (fun hHeld => ?_)
     clear p_B0_0 p_B0_1 p_B0_2 p_B0_3 p_B3_0 p_B3_1
     clear hK K
     try simp only [Act.put, lA, lB, lC]
     refine tR (i := 5) (v := ?_) ?_ ?_; rotate_left
     ·
      intro w hSw; (try dsimp only at hSw); go_simp; try (with_reducible rfl)
     try simp only [Act.put, lA, lB, lC]
     refine wpAnyH_ready (rs := [6]) (by kernel_rfl) (by simp) ?_
     refine (AllReadyH.cons (o := _) (by simp only [hA, hB, hC]; rfl) (fun K hK => ?_) AllReadyH.nil)
     refine step_run rfl (by go_simp; rw [HEN.out]; rfl) ?_
     have tt : Turn (fun b => b = w.heap.size + 1) w4 w5 := turn_grown HG5.out (fun b hb => by cases hb; rfl)
     have hb0 := (Array.getElem?_eq_some_iff.1 B0.out).1; have hb3 := (Array.getElem?_eq_some_iff.1 B3.out).1; have yd := d.out.size; have yb := YB.out; have ym := YM.out
     replace B0 := Lib.hid ((tt.block w.heap.size hb0 (fun h => by omega)).trans B0.out)
     replace B3 := Lib.hid ((tt.block wr.heap.size hb3 (fun h => by have := HWR.out; omega)).trans B3.out)
     replace d := Lib.hid (below_turn d.out tt (fun b h => by omega) yd)
     clear tt hb0 hb3 yd yb ym
     have p_B0_0 := (cell_of_row w5 _ 0 _ _ _ B0.out).trans (show _ = some (Value.int .u32 (m : Int)) from rfl)
     have p_B0_1 := (cell_of_row w5 _ 1 _ _ _ B0.out).trans (show _ = some (s0) from rfl)
     have p_B0_2 := (cell_of_row w5 _ 2 _ _ _ B0.out).trans (show _ = some (s1) from rfl)
     have p_B0_3 := (cell_of_row w5 _ 3 _ _ _ B0.out).trans (show _ = some (s2) from rfl)
     have p_B3_0 := (cell_of_row w5 _ 0 _ _ _ B3.out).trans (show _ = some (Value.int .i64 id) from rfl)
     have p_B3_1 := (cell_of_row w5 _ 1 _ _ _ B3.out).trans (show _ = some (Value.slice va xs.length vc) from rfl)
     refine hK.out _ _ ⟨p_B0_0, p_B0_1, p_B0_2, p_B0_3, p_B3_0, p_B3_1⟩ (fun hHeld => ?_)
     clear p_B0_0 p_B0_1 p_B0_2 p_B0_3 p_B3_0 p_B3_1
     clear hK K
     try simp only [Act.put, lA, lB, lC]
     refine tR (i := 7) (v := ?_) ?_ ?_; rotate_left
     ·
      intro w hSw; (try dsimp only at hSw); go_simp; try (with_reducible rfl)
     try simp only [Act.put, lA, lB, lC]
     refine wpAnyH_ready (rs := [8]) (by kernel_rfl) (by simp) ?_
     refine (AllReadyH.cons (o := _) (by simp only [hA, hB, hC]; rfl) (fun K hK => ?_) AllReadyH.nil)
     refine step_skip rfl (by go_simp; rw [HES.out]; rfl) ?_
     have tt : Turn (fun b => b = w.heap.size + 1) w5 w6 := turn_grown HG6.out (fun b hb => by cases hb; rfl)
     have hb0 := (Array.getElem?_eq_some_iff.1 B0.out).1; have hb3 := (Array.getElem?_eq_some_iff.1 B3.out).1; have yd := d.out.size; have yb := YB.out; have ym := YM.out
     replace B0 := Lib.hid ((tt.block w.heap.size hb0 (fun h => by omega)).trans B0.out)
     replace B3 := Lib.hid ((tt.block wr.heap.size hb3 (fun h => by have := HWR.out; omega)).trans B3.out)
     replace d := Lib.hid (below_turn d.out tt (fun b h => by omega) yd)
     clear tt hb0 hb3 yd yb ym
     have p_B0_0 := (cell_of_row w6 _ 0 _ _ _ B0.out).trans (show _ = some (Value.int .u32 (m : Int)) from rfl)
     have p_B0_1 := (cell_of_row w6 _ 1 _ _ _ B0.out).trans (show _ = some (s0) from rfl)
     have p_B0_2 := (cell_of_row w6 _ 2 _ _ _ B0.out).trans (show _ = some (s1) from rfl)
     have p_B0_3 := (cell_of_row w6 _ 3 _ _ _ B0.out).trans (show _ = some (s2) from rfl)
     have p_B3_0 := (cell_of_row w6 _ 0 _ _ _ B3.out).trans (show _ = some (Value.int .i64 id) from rfl)
     have p_B3_1 := (cell_of_row w6 _ 1 _ _ _ B3.out).trans (show _ = some (Value.slice va xs.length vc) from rfl)
     refine hK.out _ _ ⟨p_B0_0, p_B0_1, p_B0_2, p_B0_3, p_B3_0, p_B3_1⟩ (fun hHeld => ?_)
     clear p_B0_0 p_B0_1 p_B0_2 p_B0_3 p_B3_0 p_B3_1
     clear hK K
     try simp only [Act.put, lA, lB, lC]
     refine wpAnyH_done (by kernel_rfl) ?_ _
     clear hHeld
     have OM9 : Hid (∃ D : DataW Unit, World.ownsMap w6 Tryd.prog 119 (plainElem (H := Unit) Tryd.prog 3) (w.heap.size + 1) (k + 1) D ∧ CountsD D (keysTo fs rs (k + 1))) := Lib.hid ⟨_, HO6.out, by rw [HK.out]; exact HD6.out⟩
     clear HO6 HD6 B3 HLK HEN HLK1 HES HG5 HG6
     go_wp2
     go_roundw
     case rel => exact ⟨k + 1, by omega, by go_num, OM9, B0, d⟩
     case measure => simp [intOf]; omega
    ·
     refine step_run rfl (by go_simp; rw [HEN.out]; rfl) ?_
     have tt : Turn (fun b => b = w.heap.size + 1) w4 w5 := turn_grown HG5.out (fun b hb => by cases hb; rfl)
     have hb0 := (Array.getElem?_eq_some_iff.1 B0.out).1; have hb3 := (Array.getElem?_eq_some_iff.1 B3.out).1; have yd := d.out.size; have yb := YB.out; have ym := YM.out
     replace B0 := Lib.hid ((tt.block w.heap.size hb0 (fun h => by omega)).trans B0.out)
     replace B3 := Lib.hid ((tt.block wr.heap.size hb3 (fun h => by have := HWR.out; omega)).trans B3.out)
     replace d := Lib.hid (below_turn d.out tt (fun b h => by omega) yd)
     clear tt hb0 hb3 yd yb ym
     have p_B0_0 := (cell_of_row w5 _ 0 _ _ _ B0.out).trans (show _ = some (Value.int .u32 (m : Int)) from rfl)
     have p_B0_1 := (cell_of_row w5 _ 1 _ _ _ B0.out).trans (show _ = some (s0) from rfl)
     have p_B0_2 := (cell_of_row w5 _ 2 _ _ _ B0.out).trans (show _ = some (s1) from rfl)
     have p_B0_3 := (cell_of_row w5 _ 3 _ _ _ B0.out).trans (show _ = some (s2) from rfl)
     have p_B3_0 := (cell_of_row w5 _ 0 _ _ _ B3.out).trans (show _ = some (Value.int .i64 id) from rfl)
     have p_B3_1 := (cell_of_row w5 _ 1 _ _ _ B3.out).trans (show _ = some (Value.slice va xs.length vc) from rfl)
     refine hK.out _ _ ⟨p_B0_0, p_B0_1, p_B0_2, p_B0_3, p_B3_0, p_B3_1⟩ (fun hHeld => ?_)
     clear p_B0_0 p_B0_1 p_B0_2 p_B0_3 p_B3_0 p_B3_1
     clear hK K
     try simp only [Act.put, lA, lB, lC]
     refine tR (i := 7) (v := ?_) ?_ ?_; rotate_left
     ·
      intro w hSw; (try dsimp only at hSw); go_simp; try (with_reducible rfl)
     try simp only [Act.put, lA, lB, lC]
     refine wpAnyH_ready (rs := [4]) (by kernel_rfl) (by simp) ?_
     refine (AllReadyH.cons (o := _) (by simp only [hA, hB, hC]; rfl) (fun K hK => ?_) AllReadyH.nil)
     refine step_run rfl (by go_simp; rw [HLK1.out]; rfl) ?_
     have p_B0_0 := (cell_of_row w5 _ 0 _ _ _ B0.out).trans (show _ = some (Value.int .u32 (m : Int)) from rfl)
     have p_B0_1 := (cell_of_row w5 _ 1 _ _ _ B0.out).trans (show _ = some (s0) from rfl)
     have p_B0_2 := (cell_of_row w5 _ 2 _ _ _ B0.out).trans (show _ = some (s1) from rfl)
     have p_B0_3 := (cell_of_row w5 _ 3 _ _ _ B0.out).trans (show _ = some (s2) from rfl)
     have p_B3_0 := (cell_of_row w5 _ 0 _ _ _ B3.out).trans (show _ = some (Value.int .i64 id) from rfl)
     have p_B3_1 := (cell_of_row w5 _ 1 _ _ _ B3.out).trans (show _ = some (Value.slice va xs.length vc) from rfl)
     refine hK.out _ _ ⟨p_B0_0, p_B0_1, p_B0_2, p_B0_3, p_B3_0, p_B3_1⟩ (fun hHeld => ?_)
     clear p_B0_0 p_B0_1 p_B0_2 p_B0_3 p_B3_0 p_B3_1
     clear hK K
     try simp only [Act.put, lA, lB, lC]
     refine tR (i := 5) (v := ?_) ?_ ?_; rotate_left
     ·
      intro w hSw; (try dsimp only at hSw); go_simp; try (with_reducible rfl)
     try simp only [Act.put, lA, lB, lC]
     refine wpAnyH_ready (rs := [8]) (by kernel_rfl) (by simp) ?_
     refine (AllReadyH.cons (o := _) (by simp only [hA, hB, hC]; rfl) (fun K hK => ?_) AllReadyH.nil)
     refine step_skip rfl (by go_simp; rw [HES.out]; rfl) ?_
     have tt : Turn (fun b => b = w.heap.size + 1) w5 w6 := turn_grown HG6.out (fun b hb => by cases hb; rfl)
     have hb0 := (Array.getElem?_eq_some_iff.1 B0.out).1; have hb3 := (Array.getElem?_eq_some_iff.1 B3.out).1; have yd := d.out.size; have yb := YB.out; have ym := YM.out
     replace B0 := Lib.hid ((tt.block w.heap.size hb0 (fun h => by omega)).trans B0.out)
     replace B3 := Lib.hid ((tt.block wr.heap.size hb3 (fun h => by have := HWR.out; omega)).trans B3.out)
     replace d := Lib.hid (below_turn d.out tt (fun b h => by omega) yd)
     clear tt hb0 hb3 yd yb ym
     have p_B0_0 := (cell_of_row w6 _ 0 _ _ _ B0.out).trans (show _ = some (Value.int .u32 (m : Int)) from rfl)
     have p_B0_1 := (cell_of_row w6 _ 1 _ _ _ B0.out).trans (show _ = some (s0) from rfl)
     have p_B0_2 := (cell_of_row w6 _ 2 _ _ _ B0.out).trans (show _ = some (s1) from rfl)
     have p_B0_3 := (cell_of_row w6 _ 3 _ _ _ B0.out).trans (show _ = some (s2) from rfl)
     have p_B3_0 := (cell_of_row w6 _ 0 _ _ _ B3.out).trans (show _ = some (Value.int .i64 id) from rfl)
     have p_B3_1 := (cell_of_row w6 _ 1 _ _ _ B3.out).trans (show _ = some (Value.slice va xs.length vc) from rfl)
     refine hK.out _ _ ⟨p_B0_0, p_B0_1, p_B0_2, p_B0_3, p_B3_0, p_B3_1⟩ (fun hHeld => ?_)
     clear p_B0_0 p_B0_1 p_B0_2 p_B0_3 p_B3_0 p_B3_1
     clear hK K
     try simp only [Act.put, lA, lB, lC]
     refine wpAnyH_done (by kernel_rfl) ?_ _
     clear hHeld
     have OM9 : Hid (∃ D : DataW Unit, World.ownsMap w6 Tryd.prog 119 (plainElem (H := Unit) Tryd.prog 3) (w.heap.size + 1) (k + 1) D ∧ CountsD D (keysTo fs rs (k + 1))) := Lib.hid ⟨_, HO6.out, by rw [HK.out]; exact HD6.out⟩
     clear HO6 HD6 B3 HLK HEN HLK1 HES HG5 HG6
     go_wp2
     go_roundw
     case rel => exact ⟨k + 1, by omega, by go_num, OM9, B0, d⟩
     case measure => simp [intOf]; omega
  ·
   obtain rfl : k = rs.length := by omega
   go_wp2
   go_ret
   exact ⟨rfl, OM.out, d.out⟩
end Go.Proofs.YtededfficggkaaaDoor
namespace Go.Proofs.YtededfficggkaaaDoor
open Go.RowKit Go.Maps
set_option linter.unusedVariables false
set_option linter.unusedSimpArgs false
def IsKeyM (kl : Lit) (p : Nat × Nat × Nat) : Prop := p.1 < 16777216 ∧ p.2.1 < 16777216 ∧ p.2.2 < 16777216 ∧ kl = keyL p.1 p.2.1 p.2.2
/-- The work at a key. -/
noncomputable def gK (m : Nat) (os : List Int) (kl : Lit) : Int :=
 let p := @Classical.epsilon (Nat × Nat × Nat) ⟨(0, 0, 0)⟩ (IsKeyM kl)
 workK m os p.1 p.2.1 p.2.2
theorem keyL_inj {a b c a' b' c' : Nat} (ha : a < 16777216) (hb : b < 16777216) (hc : c < 16777216) (ha' : a' < 16777216) (hb' : b' < 16777216) (hc' : c' < 16777216) (h : keyL a b c = keyL a' b' c') : a = a' ∧ b = b' ∧ c = c' := by
 have h1 := keyL_of ha hb hc
 rw [h] at h1
 have := keyLawK.inj h1 (keyL_of ha' hb' hc')
 simp at this
 omega
theorem gK_at {m : Nat} {os : List Int} {a b c : Nat} (ha : a < 16777216) (hb : b < 16777216) (hc : c < 16777216) : gK m os (keyL a b c) = workK m os a b c := by
 have hex : ∃ p, IsKeyM (keyL a b c) p := ⟨(a, b, c), ha, hb, hc, rfl⟩
 have hp := @Classical.epsilon_spec (Nat × Nat × Nat) (IsKeyM (keyL a b c)) hex
 unfold gK
 have e : (⟨(0, 0, 0)⟩ : Nonempty (Nat × Nat × Nat)) = ⟨hex.choose⟩ := rfl
 dsimp only
 generalize @Classical.epsilon (Nat × Nat × Nat) _ (IsKeyM (keyL a b c)) = p at *
 obtain ⟨h1, h2, h3, h4⟩ := hp
 obtain ⟨e1, e2, e3⟩ := keyL_inj ha hb hc h1 h2 h3 h4
 rw [← e1, ← e2, ← e3]
theorem gK_range {m : Nat} (h : m < 16777216) {os : List Int} (ho : os.length = 3) (kl : Lit) : 0 ≤ gK m os kl ∧ gK m os kl ≤ 75 := workK_range h ho _ _ _
theorem keys_are {fs : List (List SpanD)} {rs : List RowD} {k : Nat} {kl : Lit} (h : kl ∈ keysTo fs rs k) : ∃ a b c : Nat, a < 16777216 ∧ b < 16777216 ∧ c < 16777216 ∧ kl = keyL a b c := by
 obtain ⟨r, _, rfl⟩ := List.mem_map.1 h
 exact ⟨_, _, _, setM_lt .., setM_lt .., setM_lt .., rfl⟩
theorem mul_le_of {c g M N : Int} (h0 : 0 ≤ c) (h1 : c ≤ N) (g0 : 0 ≤ g) (g1 : g ≤ M) : 0 ≤ c * g ∧ c * g ≤ N * M :=
 ⟨Int.mul_nonneg h0 g0, Int.le_trans (Int.mul_le_mul_of_nonneg_right h1 g0) (Int.mul_le_mul_of_nonneg_left g1 (Int.le_trans h0 h1))⟩
set_option maxHeartbeats 16000000 in
set_option maxRecDepth 100000 in
theorem implWorkOfMap (m : Nat) (s0 s1 s2 : Value) (bm n : Nat) (D : DataW Unit) (L : List Lit) (x0 x1 x2 : Int) (w : World) (hown : w.ownsMap Tryd.prog 119 (plainElem (H := Unit) Tryd.prog 3) bm n D) (hcd : CountsD D L) (hL : L.length ≤ 1048576)
  (hkeys : ∀ k ∈ L, ∃ a b c : Nat, a < 16777216 ∧ b < 16777216 ∧ c < 16777216 ∧ k = keyL a b c) (hm : m < 16777216) (h0 : 0 ≤ x0 ∧ x0 ≤ 2) (h1 : 0 ≤ x1 ∧ x1 ≤ 2) (h2 : 0 ≤ x2 ∧ x2 ≤ 2) :
  Calls Tryd.prog 92 #[ciV m s0 s1 s2, .map (some bm), .agg #[.int .i64 x0, .int .i64 x1, .int .i64 x2]] w fun e w' => e = .returned (.int .i64 ((L.map (gK m [x0, x1, x2])).sum)) ∧ Below w.heap.size w w' := by
 have HG := Lib.hid (fun kl => gK_range hm (os := [x0, x1, x2]) rfl kl)
 have HP := Lib.hid (fun a b c ha hb hc w => implProbe m s0 s1 s2 a b c x0 x1 x2 w hm ha hb hc h0 h1 h2)
 have HGK := Lib.hid (fun a b c ha hb hc => @gK_at m [x0, x1, x2] a b c ha hb hc)
 have HCD := Lib.hid hcd; have HK := Lib.hid hkeys; have HLL := Lib.hid hL
 have d := Lib.hid (((Below.refl w.heap.size w).alloc (Nat.le_refl _) (.cells #[.int .u32 (m : Int), s0, s1, s2] 109)).alloc (by simp) (.cells #[.int .i64 x0, .int .i64 x1, .int .i64 x2] 113))
 have B0 : Hid (((w.alloc (.cells #[.int .u32 (m : Int), s0, s1, s2] 109)).alloc (.cells #[.int .i64 x0, .int .i64 x1, .int .i64 x2] 113)).heap[w.heap.size]? = some (.cells #[.int .u32 (m : Int), s0, s1, s2] 109 (0, 0))) := Lib.hid (by rw [Below.heap_alloc _ _ _ (by simp)]; exact heap_alloc_new w _)
 have B1 : Hid (((w.alloc (.cells #[.int .u32 (m : Int), s0, s1, s2] 109)).alloc (.cells #[.int .i64 x0, .int .i64 x1, .int .i64 x2] 113)).heap[(w.heap.size + 1)]? = some (.cells #[.int .i64 x0, .int .i64 x1, .int .i64 x2] 113 (0, 0))) := Lib.hid (by
  have := heap_alloc_new (w.alloc (.cells #[.int .u32 (m : Int), s0, s1, s2] 109)) (.cells #[.int .i64 x0, .int .i64 x1, .int .i64 x2] 113)
  simpa only [World.size_alloc] using this)
 have HO : Hid (((w.alloc (.cells #[.int .u32 (m : Int), s0, s1, s2] 109)).alloc (.cells #[.int .i64 x0, .int .i64 x1, .int .i64 x2] 113)).ownsMap Tryd.prog 119 (plainElem (H := Unit) Tryd.prog 3) bm n D) := Lib.hid ((hown.alloc _).alloc _)
 have HBM := Lib.hid hown.lt
 have HSZ : Hid (((w.alloc (.cells #[.int .u32 (m : Int), s0, s1, s2] 109)).alloc (.cells #[.int .i64 x0, .int .i64 x1, .int .i64 x2] 113)).heap.size = w.heap.size + 1 + 1) := Lib.hid (by simp)
 clear hown hcd hL hkeys hm h0 h1 h2
 go_enter Tryd.func92, Tryd.ntmps92
 go_wp2_with (first
  | (at_range; refine wpList_range_own _ rfl _ 126 rfl 119 3 keyedK Tryd.underlying126 (plainElem (H := Unit) Tryd.prog 3) bm n D rfl HO.out ?_; intro w0 hrg0 hg0 hs0)
  | go_in)
 go_frame
 generalize ((w.alloc (.cells #[.int .u32 (m : Int), s0, s1, s2] 109)).alloc (.cells #[.int .i64 x0, .int .i64 x1, .int .i64 x2] 113)) = W at *
 have hb0 : Below w.heap.size w w0 := d.out.grown (hg0) d.out.size (fun j hj => by cases hj)
 have k0 := (hg0.block w.heap.size (Array.getElem?_eq_some_iff.1 B0.out).1 (by simp)).trans B0.out
 have k1 := (hg0.block (w.heap.size + 1) (Array.getElem?_eq_some_iff.1 B1.out).1 (by simp)).trans B1.out
 have HS0 : Hid (doneS (gK m [x0, x1, x2]) (Maps.has D) L = 0) := Lib.hid (doneS_start (fun k hk => HCD.out.here k hk))
 have HRG := Lib.hid hrg0
 have K0 := Lib.hid k0; have K1 := Lib.hid k1; have HD0 := Lib.hid hb0
 clear hrg0 hg0 hs0 hb0 k0 k1 B0 B1 d HO
 go_loopw [7] (fun s wr => ∃ (left : Lit → Bool) (cnt : Nat) (sum : Int), s = .int .i64 sum ∧ Hid (wr.ranges Tryd.prog 119 (plainElem (H := Unit) Tryd.prog 3) bm W.heap.size n D left cnt) ∧ Hid (sum = doneS (gK m [x0, x1, x2]) left L) ∧ Hid (∀ kl, left kl = true → kl ∈ L) ∧ Hid (wr.heap[w.heap.size]? = some (.cells #[.int .u32 (m : Int), s0, s1, s2] 109 (0, 0))) ∧ Hid (wr.heap[(w.heap.size + 1)]? = some (.cells #[.int .i64 x0, .int .i64 x1, .int .i64 x2] 113 (0, 0))) ∧ Hid (Below w.heap.size w wr)) (fun _ wr => wr.rangeLeft bm W.heap.size)
 case atStart => exact ⟨_, _, 0, rfl, HRG, Lib.hid HS0.out.symm, Lib.hid (fun kl h => HCD.out.only kl h), K0, K1, HD0⟩
 case round =>
  clear HRG HS0 K0 K1 HD0
  obtain ⟨left, cnt, sum, rfl, HRG, HSUM, HLEFT, B0, B1, d⟩ := hrel
  have hrg := HRG.out
  go_wp2_with (first
   | (at_next; refine wpList_next_ranges _ rfl _ rfl 119 keyedK (plainElem (H := Unit) Tryd.prog 3) (fun v : Value => v) (fun c : Int => Value.int .i64 c) (fun key kl hkey => ⟨key, rfl⟩) (fun v y hv => by obtain ⟨c, rfl, _⟩ := plainElem_int_inv Tryd.underlying3 hv; exact ⟨c, rfl⟩) bm W.heap.size n _ _ _ rfl hrg ?_ ?_)
   | go_in)
  ·
   intro _ hl0
   have HE : Hid (sum = (L.map (gK m [x0, x1, x2])).sum) := Lib.hid (by rw [HSUM.out]; exact doneS_end hl0)
   clear hrg HSUM hl0
   go_wp2
   go_ret
   exact ⟨congrArg (fun z => Ending.returned (Value.int .i64 z)) HE.out, d.out⟩
  ·
   intro x c kl yd yp w1 cnt1 hkey hlk hv hat hrg1 hlt hg1 hs1 hen
   obtain ⟨a, b, c2, ha, hb, hc, rfl⟩ := HK.out kl (HLEFT.out kl hlk)
   obtain rfl := keyLawK.inj hkey (keyL_of ha hb hc)
   obtain ⟨c', hc', hy, hwc⟩ := plainElem_int_inv Tryd.underlying3 hv
   injection hc' with _ hc''
   subst hc''
   simp only [Prod.mk.injEq] at hy
   obtain ⟨rfl, rfl⟩ := hy
   have hcn := countsD_at HCD.out keyL_lit (hat (.lit (.int .i64 0)))
   have hcl := cntK_le L (keyL a b c2)
   have hc0 : 0 ≤ c := by omega
   have hc1 : c ≤ 1048576 := by have := HLL.out; omega
   have HSN := Lib.hid (doneS_step (g := gK m [x0, x1, x2]) hlk L)
   have hsr := doneS_range HG.out left L
   rw [← HSUM.out] at hsr
   have hsn := doneS_range HG.out (fun z => left z && !z.sameKey (keyL a b c2)) L
   rw [HSN.out, ← HSUM.out, ← hcn, HGK.out a b c2 ha hb hc] at hsn
   rw [← HSUM.out, ← hcn, HGK.out a b c2 ha hb hc] at HSN
   have hll := HLL.out
   have hs0 : 0 ≤ sum := hsr.1
   have hs2 : sum ≤ 78643200 := by omega
   have hgk := HG.out (keyL a b c2)
   rw [HGK.out a b c2 ha hb hc] at hgk
   have HPR := Lib.hid (HP.out a b c2 ha hb hc)
   change Hid (∀ w, Calls Tryd.prog _ _ w fun e w' => e = .returned (.tuple #[_, .int .i64 (workK m [x0, x1, x2] a b c2)]) ∧ _) at HPR
   generalize (probeM (pick3 a b c2) [x0, x1, x2] m 0).1 = rest at *
   generalize workK m [x0, x1, x2] a b c2 = g at *
   have hmul := mul_le_of hc0 hc1 hgk.1 hgk.2
   have HMUL := Lib.hid hmul
   have hm0 := hmul.1
   have hm1 : c * g ≤ 78643200 := by have := hmul.2; omega
   have HHS := Lib.hid hsn
   have HLEFT2 : Hid (∀ kl, (left kl && !kl.sameKey (keyL a b c2)) = true → kl ∈ L) := Lib.hid (fun kl h => HLEFT.out kl (by revert h; cases left kl <;> simp))
   have HR1 := Lib.hid hrg1
   have hne0 := hrg1.ne
   have B0' := Lib.hid ((hg1.block w.heap.size (Array.getElem?_eq_some_iff.1 B0.out).1 (by have := HSZ.out; simp; omega)).trans B0.out)
   have B1' := Lib.hid ((hg1.block (w.heap.size + 1) (Array.getElem?_eq_some_iff.1 B1.out).1 (by have := HSZ.out; simp; omega)).trans B1.out)
   have d1 := Lib.hid (d.out.grown hg1 d.out.size (fun j hj => by cases hj; have := HSZ.out; omega))
   have HLT := Lib.hid hlt
   have HOLD := Lib.hid hrg.left_eq
   clear hkey hv hat hrg1 hlt hg1 hs1 hcn hcl hsr hsn hll hgk hmul hne0 hrg HSUM HLEFT B0 B1 d HRG hlk HK HP HGK HG
   have hal : Below w1.heap.size w1 (w1.alloc (.cells #[.int .u32 (a : Int), .int .u32 (b : Int), .int .u32 (c2 : Int)] 119)) := (Below.refl _ _).alloc (Nat.le_refl _) _
   have K0 := (hal.block w.heap.size (Array.getElem?_eq_some_iff.1 B0'.out).1).trans B0'.out
   have K1 := (hal.block (w.heap.size + 1) (Array.getElem?_eq_some_iff.1 B1'.out).1).trans B1'.out
   have p0 := (cell_of_row (w1.alloc (.cells #[.int .u32 (a : Int), .int .u32 (b : Int), .int .u32 (c2 : Int)] 119)) _ 0 _ _ _ K0).trans (show _ = some (Value.int .u32 (m : Int)) from rfl)
   have p1 := (cell_of_row (w1.alloc (.cells #[.int .u32 (a : Int), .int .u32 (b : Int), .int .u32 (c2 : Int)] 119)) _ 1 _ _ _ K0).trans (show _ = some (s0) from rfl)
   have p2 := (cell_of_row (w1.alloc (.cells #[.int .u32 (a : Int), .int .u32 (b : Int), .int .u32 (c2 : Int)] 119)) _ 2 _ _ _ K0).trans (show _ = some (s1) from rfl)
   have p3 := (cell_of_row (w1.alloc (.cells #[.int .u32 (a : Int), .int .u32 (b : Int), .int .u32 (c2 : Int)] 119)) _ 3 _ _ _ K0).trans (show _ = some (s2) from rfl)
   have q0 := (cell_of_row (w1.alloc (.cells #[.int .u32 (a : Int), .int .u32 (b : Int), .int .u32 (c2 : Int)] 119)) _ 0 _ _ _ K1).trans (show _ = some (Value.int .i64 x0) from rfl)
   have q1 := (cell_of_row (w1.alloc (.cells #[.int .u32 (a : Int), .int .u32 (b : Int), .int .u32 (c2 : Int)] 119)) _ 1 _ _ _ K1).trans (show _ = some (Value.int .i64 x1) from rfl)
   have q2 := (cell_of_row (w1.alloc (.cells #[.int .u32 (a : Int), .int .u32 (b : Int), .int .u32 (c2 : Int)] 119)) _ 2 _ _ _ K1).trans (show _ = some (Value.int .i64 x2) from rfl)
   clear K0 K1
   go_wp2_with fail
   clear p0 p1 p2 p3 q0 q1 q2 hen
   generalize (w1.alloc (.cells #[.int .u32 (a : Int), .int .u32 (b : Int), .int .u32 (c2 : Int)] 119)) = W2 at *
   refine (HPR.out W2).mono ?_
   rintro e w3 ⟨rfl, c3⟩
   have hbb := hal.trans (c3.mono hal.size)
   have HR3 := Lib.hid (HR1.out.kept (below_grown hbb none) (by simp) (by simp))
   have B03 := Lib.hid ((hbb.block w.heap.size (Array.getElem?_eq_some_iff.1 B0'.out).1).trans B0'.out)
   have B13 := Lib.hid ((hbb.block (w.heap.size + 1) (Array.getElem?_eq_some_iff.1 B1'.out).1).trans B1'.out)
   have d3 := Lib.hid (d1.out.trans (hbb.mono d1.out.size))
   clear c3 hal hbb HPR HR1 B0' B1' d1
   go_wp2
   go_roundw
   case rel => exact ⟨_, cnt1, sum + c * g, by first | rfl | (congr 1; omega), HR3, Lib.hid HSN.out.symm, HLEFT2, B03, B13, d3⟩
   case measure => rw [HR3.out.left_eq, HOLD.out]; exact HLT.out
end Go.Proofs.YtededfficggkaaaDoor
