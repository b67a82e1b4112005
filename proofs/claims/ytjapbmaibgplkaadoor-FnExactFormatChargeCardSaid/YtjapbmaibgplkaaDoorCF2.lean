/-
  Texts of the proof, merged: AppStrs, TabZ, ChgFmtP, LawFormatCharge, OpenInts, OpnT, OCharge.
-/
import Derived.Test.YtjapbmaibgplkaaDoorCF1
import Derived.Test.YtjapbmaibgplkaaDoorRows
import Derived.Deep.Upon
import Derived.WalkKit
import Derived.Below
import Derived.Lib.Hide
import Derived.Lib.AppendIntMem
import Derived.Lib.TrailingZeros
import Derived.Shelf.Spec.TrailingZeros
import Derived.ProofKit
import Derived.OpenShut
import Derived.Carry
import Derived.Lib.SmallJoins
import Derived.Deep.Slices
namespace Go.Proofs.YtjapbmaibgplkaaDoor
open Go.RowKit
set_option linter.unusedVariables false
theorem ownsS_cap {w : World} {B : Nat} {v : Value} {xs : List ByteArray} (h : OwnsS w B v xs) : ∃ a cap, v = .slice a xs.length cap ∧ xs.length ≤ cap := by
  rcases h.2 with ⟨rfl, h0⟩ | ⟨g, cap, cur, rfl, hb, hg, hn, _⟩
  · exact ⟨none, 0, by rw [h0], by rw [h0]; exact Nat.le_refl _⟩
  · exact ⟨_, cap, rfl, hn⟩
theorem run_append_strs {w : World} {B : Nat} {v u : Value} {xs ys : List ByteArray} (ty : TypeId) (hown : OwnsS w B v xs) (hu : Strs w u ys) (hB : B ≤ w.heap.size) (h63 : xs.length + ys.length ≤ 8796093022208) :
    ∃ v' w', (Builtin.append_ #[35, 35] ty #[v, u]).run Tryd.prog w = .ok v' w' ∧ OwnsS w' B v' (xs ++ ys) ∧ Below B w w' ∧ w.grownBy w' v.ownBlock := by
  obtain ⟨i0, hi, hz0, hz1, hz2⟩ := info_parts Tryd.infoStr
  rcases hu with ⟨rfl, a', cap', rfl⟩ | ⟨b, off, cap', rfl, hcap, hbl, hc⟩
  · obtain ⟨a, cap, rfl, hle⟩ := ownsS_cap hown
    have hs : Src Tryd.prog i0.size 35 (.slice a' 0 cap') 0 [] w := by
      cases a' with
      | none => exact Src.ofNil w Tryd.underlying35 cap'
      | some ad => exact Src.ofSlice w Tryd.underlying35 ad 0 cap' [] (by simp) (by simp) (by simp)
    exact ⟨_, _, run_append_nothing w 35 35 ty 9 i0 Tryd.underlying35 hi a xs.length cap hle _ hs, by simpa using hown, Below.refl B w, ⟨rfl, rfl, rfl, Nat.le_refl _, fun _ _ _ => rfl⟩⟩
  · obtain ⟨v', w', hr, h2, h3, h4⟩ := run_append_own (P := Tryd.prog) w B 35 ty 9 i0 (.string ⟨#[]⟩) 1 16 Tryd.underlying35 hi hz0 hz1 hz2 rfl (by decide) v xs.length _ hown ⟨b, off, none⟩ ys.length cap' (ys.map Value.string) (by simp) (by
        intro j q hj
        rw [Go.WideShapes.add_plain]
        rw [List.getElem?_map] at hj
        by_cases hlt : j < ys.length
        · rw [hc j hlt]
          rw [List.getElem?_eq_getElem hlt] at hj
          simpa [List.getD, hlt] using hj
        · rw [List.getElem?_eq_none (by omega)] at hj
          simp at hj) (by intro q hq; simp at hq; obtain ⟨y, _, rfl⟩ := hq; rfl) (by unfold maxLen; omega) (by omega) hB
    refine ⟨v', w', hr, ?_, ?_, h3⟩
    · unfold OwnsS
      simpa using h2
    · exact (Below.refl B w).grown h3 hB (fun k hk => (hown.lt k hk).1)
/-- As a step of a region taken by hand. -/
theorem step_append_strs {w : World} {ops : Array Oper} {o : Oper} {a : Act} {K : Act → World → Prop} {Q : Exit → Act → World → Prop} {E : Prop} (hwa : Region.wanted o (yielded ops a.tmps) = true) (s x : Operand)
    (ho : o.op = .call { callee := .builtin .append, args := #[s, x], argTypes := #[35, 35] })
    (B : Nat) (v u : Value) (xs ys : List ByteArray) (hs : a.eval s = v) (hx : a.eval x = u) (hown : OwnsS w B v xs) (hu : Strs w u ys) (hB : B ≤ w.heap.size) (h63 : xs.length + ys.length ≤ 8796093022208)
    (h : ∀ v' w', OwnsS w' B v' (xs ++ ys) → Below B w w' → w.grownBy w' v.ownBlock → K (a.put o.dst v') w') : if Region.wanted o (yielded ops a.tmps) = true then Oper.wp Tryd.prog o a w K Q else E := by
  rw [if_pos hwa]
  obtain ⟨v', w', hr, h2, h3, h4⟩ := run_append_strs o.type hown hu hB h63
  unfold Oper.wp execOp
  simp only [ho, resolve, invoke, builtin, Sem.run_bind, Sem.run_pure, Result.andThen_ok, List.map_toArray, List.map_cons, List.map_nil, hs, hx, hr]
  exact h v' w' h2 h3 h4
end Go.Proofs.YtjapbmaibgplkaaDoor
namespace Go.Proofs.YtjapbmaibgplkaaDoor
open Go.RowKit
set_option linter.unusedVariables false
def tzL : List Int := Lib.deBruijn32tab.map fun n : Nat => (n : Int)
/-- The table of trailing zeros reads as its text lays it. -/
def TabZ (w : World) : Prop := Lib.TabIs Tryd.prog w "math/bits.deBruijn32tab" .u8 tzL
theorem TabZ.on {w w' : World} (h : TabZ w) (hb : Below w.heap.size w w') : TabZ w' := Lib.tabBelow_of_tabIs h w' hb
end Go.Proofs.YtjapbmaibgplkaaDoor
namespace Go.Proofs.YtjapbmaibgplkaaDoor
open Go.RowKit
set_option linter.unusedVariables false
set_option linter.unusedSimpArgs false
theorem ownsS_fullC {w : World} {B : Nat} {v : Value} {xs : List ByteArray} (h : OwnsS w B v xs) (hn : 0 < xs.length) : ∃ g cap, v = .slice (some ⟨g, 0, none⟩) xs.length cap ∧ xs.length ≤ cap ∧ g < w.heap.size := by
  rcases h.2 with ⟨rfl, h0⟩ | ⟨g, cap, cur, rfl, hb, hg, hle, _⟩
  · omega
  · exact ⟨g, cap, rfl, hle, (Array.getElem?_eq_some_iff.1 hg).1⟩
theorem join_wordsB (x : ChargeD) (k : Nat) : Lib.join (((wordsC x k).map strB).map (·.data.toList)) (⟨#[32]⟩ : ByteArray).data.toList = chgTo x k := by
  have e1 : ((wordsC x k).map strB).map (·.data.toList) = wordsC x k := by
    rw [List.map_map]
    conv => rhs; rw [← List.map_id (wordsC x k)]
    exact List.map_congr_left fun x _ => by simp [strB]
  rw [e1]
  exact join_wordsC x k
theorem wordsB_next (x : ChargeD) (k : Nat) : (wordsC x k).map strB ++ [strB (chgW (x.2.2.1.getD k 0) (x.2.2.2.2.getD k 0))] = (wordsC x (k + 1)).map strB := by
  rw [wordsC, List.map_append]; rfl
set_option maxHeartbeats 8000000 in
set_option maxRecDepth 100000 in
theorem implFormatCharge (sg ba : Int) (v2 v3 v4 : Value) (x2 x3 x4 : List Int) (w : World) (h2 : SlR tInt w v2 x2) (h3 : SlR tInt w v3 x3) (h4 : SlR tInt w v4 x4) (s2 : zL tInt x2 ≤ 1048576) (s3 : zL tInt x3 ≤ 1048576) (s4 : zL tInt x4 ≤ 1048576) (hT : Tab w) :
    Calls Tryd.prog 7 #[.agg #[.int .i64 sg, .int .i64 ba, v2, v3, v4]] w (fun e w' => e = .returned (.string (strB (fmtC (sg, ba, x2, x3, x4)))) ∧ Below w.heap.size w w') := by
  obtain ⟨p2, c2, rfl⟩ := slR_len h2
  have H2 := Lib.hid h2
  obtain ⟨p3, c3, rfl⟩ := slR_len h3
  have H3 := Lib.hid h3
  obtain ⟨p4, c4, rfl⟩ := slR_len h4
  have H4 := Lib.hid h4
  clear h2 h3 h4
  have S2 := Lib.hid s2; have S3 := Lib.hid s3; have S4 := Lib.hid s4
  have n2 := zL_len s2; have n3 := zL_len s3; have n4 := zL_len s4
  clear s2 s3 s4
  have HT := Lib.hid hT
  clear hT
  have d := Lib.hid (show Below w.heap.size w (w.alloc (.cells #[.int .i64 sg, .int .i64 ba, .slice p2 x2.length c2, .slice p3 x3.length c3, .slice p4 x4.length c4] 27)) from ((Below.refl _ w).alloc (Nat.le_refl _) _))
  have B0 : Hid ((w.alloc (.cells #[.int .i64 sg, .int .i64 ba, .slice p2 x2.length c2, .slice p3 x3.length c3, .slice p4 x4.length c4] 27)).heap[w.heap.size]? = some (.cells #[.int .i64 sg, .int .i64 ba, .slice p2 x2.length c2, .slice p3 x3.length c3, .slice p4 x4.length c4] 27 (0, 0))) := Lib.hid (by
    exact heap_alloc_new w _)
  have YW : Hid (w.heap.size + 1 ≤ (w.alloc (.cells #[.int .i64 sg, .int .i64 ba, .slice p2 x2.length c2, .slice p3 x3.length c3, .slice p4 x4.length c4] 27)).heap.size) := Lib.hid (by simp [World.size_alloc])
  go_enter Tryd.func7, Tryd.ntmps7
  go_wp2_with fail
  generalize (w.alloc (.cells #[.int .i64 sg, .int .i64 ba, .slice p2 x2.length c2, .slice p3 x3.length c3, .slice p4 x4.length c4] 27)) = W at *
  refine (implIsCharge sg ba (.slice p2 x2.length c2) (.slice p3 x3.length c3) (.slice p4 x4.length c4) x2 x3 x4 W (slR_below tInt_law H2.out d.out) (slR_below tInt_law H3.out d.out) (slR_below tInt_law H4.out d.out) S2.out S3.out S4.out).mono ?_
  rintro e W1 ⟨rfl, c⟩
  replace B0 := Lib.hid ((c.block w.heap.size (Array.getElem?_eq_some_iff.1 B0.out).1).trans B0.out)
  replace d := Lib.hid (d.out.trans (c.mono d.out.size))
  have Z_W1 := Lib.hid (show W.heap.size ≤ W1.heap.size from c.size)
  clear c
  rcases Bool.eq_false_or_eq_true (chargeB (sg, ba, x2, x3, x4)) with hch | hch
  rotate_left
  · rw [hch]
    have HF := Lib.hid (fmtC_no hch)
    clear hch
    have p_B0_0 := (cell_of_row W1 _ 0 _ _ _ B0.out).trans (show _ = some (Value.int .i64 sg) from rfl)
    have p_B0_1 := (cell_of_row W1 _ 1 _ _ _ B0.out).trans (show _ = some (Value.int .i64 ba) from rfl)
    have p_B0_2 := (cell_of_row W1 _ 2 _ _ _ B0.out).trans (show _ = some (Value.slice p2 x2.length c2) from rfl)
    have p_B0_3 := (cell_of_row W1 _ 3 _ _ _ B0.out).trans (show _ = some (Value.slice p3 x3.length c3) from rfl)
    have p_B0_4 := (cell_of_row W1 _ 4 _ _ _ B0.out).trans (show _ = some (Value.slice p4 x4.length c4) from rfl)
    go_wp2
    clear p_B0_0 p_B0_1 p_B0_2 p_B0_3 p_B0_4
    go_ret
    exact ⟨ret_s HF.out.symm, d.out⟩
  rw [hch]
  have HCH := Lib.hid hch
  have HP := Lib.hid (charge_iff hch).2.1
  have HF := Lib.hid (fmtC_yes hch)
  have HLN := Lib.hid (chgTo_len hch)
  have HL4 : Hid (x4.length = x2.length) := Lib.hid HP.out.2.1.2
  have hl8 : x2.length ≤ 8 := HP.out.1.2
  have hsg := HP.out.2.2.1
  have hba := HP.out.2.2.2
  have HID := Lib.hid (fun i hi => chg_id (x := (sg, ba, x2, x3, x4)) hch (i := i) hi)
  have HRW := Lib.hid (fun i hi => chg_row (x := (sg, ba, x2, x3, x4)) hch (i := i) hi)
  dsimp only at hsg hba HID HRW HLN HF
  clear hch
  have HR1 := Lib.hid (fun W h => implFmt sg W (by omega) (by omega) h)
  have HR2 := Lib.hid (fun W h => implFmt ba W (by omega) (by omega) h)
  have HW0 : Hid ((wordsC (sg, ba, x2, x3, x4) 0).map strB = [strB (Lib.itoa sg), ⟨#[98, 97, 115, 101]⟩, strB (Lib.itoa ba)]) := Lib.hid rfl
  change Hid (∀ W, Tab W → Calls _ _ _ W (fun e w' => e = .returned (.string (strB (Lib.itoa sg))) ∧ Below W.heap.size W w')) at HR1
  change Hid (∀ W, Tab W → Calls _ _ _ W (fun e w' => e = .returned (.string (strB (Lib.itoa ba))) ∧ Below W.heap.size W w')) at HR2
  obtain ⟨t1, ht1⟩ : ∃ t1, Lib.itoa sg = t1 := ⟨_, rfl⟩
  obtain ⟨t2, ht2⟩ : ∃ t2, Lib.itoa ba = t2 := ⟨_, rfl⟩
  rw [ht1] at HR1 HW0
  rw [ht2] at HR2 HW0
  clear ht1 ht2
  have p_B0_0 := (cell_of_row W1 _ 0 _ _ _ B0.out).trans (show _ = some (Value.int .i64 sg) from rfl)
  have p_B0_1 := (cell_of_row W1 _ 1 _ _ _ B0.out).trans (show _ = some (Value.int .i64 ba) from rfl)
  have p_B0_2 := (cell_of_row W1 _ 2 _ _ _ B0.out).trans (show _ = some (Value.slice p2 x2.length c2) from rfl)
  have p_B0_3 := (cell_of_row W1 _ 3 _ _ _ B0.out).trans (show _ = some (Value.slice p3 x3.length c3) from rfl)
  have p_B0_4 := (cell_of_row W1 _ 4 _ _ _ B0.out).trans (show _ = some (Value.slice p4 x4.length c4) from rfl)
  go_wp2
  clear p_B0_0 p_B0_1 p_B0_2 p_B0_3 p_B0_4
  have p_B0_0 := (cell_of_row W1 _ 0 _ _ _ B0.out).trans (show _ = some (Value.int .i64 sg) from rfl)
  have p_B0_1 := (cell_of_row W1 _ 1 _ _ _ B0.out).trans (show _ = some (Value.int .i64 ba) from rfl)
  have p_B0_2 := (cell_of_row W1 _ 2 _ _ _ B0.out).trans (show _ = some (Value.slice p2 x2.length c2) from rfl)
  have p_B0_3 := (cell_of_row W1 _ 3 _ _ _ B0.out).trans (show _ = some (Value.slice p3 x3.length c3) from rfl)
  have p_B0_4 := (cell_of_row W1 _ 4 _ _ _ B0.out).trans (show _ = some (Value.slice p4 x4.length c4) from rfl)
  refine wp_region_held_drew (S := fun w' => w'.cell? ⟨w.heap.size, 0, none⟩ = some (Value.int .i64 sg) ∧ w'.cell? ⟨w.heap.size, 1, none⟩ = some (Value.int .i64 ba) ∧ w'.cell? ⟨w.heap.size, 2, none⟩ = some (Value.slice p2 x2.length c2) ∧ w'.cell? ⟨w.heap.size, 3, none⟩ = some (Value.slice p3 x3.length c3) ∧ w'.cell? ⟨w.heap.size, 4, none⟩ = some (Value.slice p4 x4.length c4)) (by kernel_rfl) ⟨p_B0_0, p_B0_1, p_B0_2, p_B0_3, p_B0_4⟩ (fun hHeld => ?_)
  clear p_B0_0 p_B0_1 p_B0_2 p_B0_3 p_B0_4
  have cdr : Below W1.heap.size W1 W1.drew := below_drew (Below.refl _ _)
  replace B0 := Lib.hid ((cdr.block w.heap.size (Array.getElem?_eq_some_iff.1 B0.out).1).trans B0.out)
  replace d := Lib.hid (d.out.trans (cdr.mono d.out.size))
  clear cdr
  have Z_dr := Lib.hid (show W1.heap.size ≤ W1.drew.heap.size from Nat.le_refl _)
  generalize W1.drew = Wd at *
  refine take_runs (i := 0) (v := ?_) (by simp only [List.getElem?_toArray, List.getElem?_cons_succ, List.getElem?_cons_zero]; rfl) (by kernel_rfl) (by kernel_rfl) (by kernel_rfl) rfl (by exact fun _ _ _ h => h) (by rfl) ?_ (by assumption) ?_
  rotate_left
  · intro w hSw; (try dsimp only at hSw); go_simp; try (with_reducible rfl)
  try simp only [Act.put, List.setIfInBounds_toArray, List.set_cons_zero, List.set_cons_succ]
  refine take_runs (i := 1) (v := ?_) (by simp only [List.getElem?_toArray, List.getElem?_cons_succ, List.getElem?_cons_zero]; rfl) (by kernel_rfl) (by kernel_rfl) (by kernel_rfl) rfl (by exact fun _ _ _ h => h) (by rfl) ?_ (by assumption) ?_
  rotate_left
  · intro w hSw; (try dsimp only at hSw); go_simp; try (with_reducible rfl)
  try simp only [Act.put, List.setIfInBounds_toArray, List.set_cons_zero, List.set_cons_succ]
  refine take_runs (i := 3) (v := ?_) (by simp only [List.getElem?_toArray, List.getElem?_cons_succ, List.getElem?_cons_zero]; rfl) (by kernel_rfl) (by kernel_rfl) (by kernel_rfl) rfl (by exact fun _ _ _ h => h) (by rfl) ?_ (by assumption) ?_
  rotate_left
  · intro w hSw; (try dsimp only at hSw); go_simp; try (with_reducible rfl)
  try simp only [Act.put, List.setIfInBounds_toArray, List.set_cons_zero, List.set_cons_succ]
  refine take_runs (i := 4) (v := ?_) (by simp only [List.getElem?_toArray, List.getElem?_cons_succ, List.getElem?_cons_zero]; rfl) (by kernel_rfl) (by kernel_rfl) (by kernel_rfl) rfl (by exact fun _ _ _ h => h) (by rfl) ?_ (by assumption) ?_
  rotate_left
  · intro w hSw; (try dsimp only at hSw); go_simp; try (with_reducible rfl)
  try simp only [Act.put, List.setIfInBounds_toArray, List.set_cons_zero, List.set_cons_succ]
  refine wpAnyH_ready (rs := [2]) (by kernel_rfl) (by simp) ?_
  refine (AllReadyH.cons (o := _) (by simp only [List.getElem?_toArray, List.getElem?_cons_succ, List.getElem?_cons_zero]; rfl) (fun K hK => ?_) AllReadyH.nil)
  go_simp
  refine (HR1.out Wd (HT.out.on d.out)).mono ?_
  rintro e v1 ⟨rfl, cv1⟩
  replace B0 := Lib.hid ((cv1.block w.heap.size (Array.getElem?_eq_some_iff.1 B0.out).1).trans B0.out)
  replace d := Lib.hid (d.out.trans (cv1.mono d.out.size))
  have Z_v1 := Lib.hid (show Wd.heap.size ≤ v1.heap.size from cv1.size)
  clear cv1
  have p_B0_0 := (cell_of_row v1 _ 0 _ _ _ B0.out).trans (show _ = some (Value.int .i64 sg) from rfl)
  have p_B0_1 := (cell_of_row v1 _ 1 _ _ _ B0.out).trans (show _ = some (Value.int .i64 ba) from rfl)
  have p_B0_2 := (cell_of_row v1 _ 2 _ _ _ B0.out).trans (show _ = some (Value.slice p2 x2.length c2) from rfl)
  have p_B0_3 := (cell_of_row v1 _ 3 _ _ _ B0.out).trans (show _ = some (Value.slice p3 x3.length c3) from rfl)
  have p_B0_4 := (cell_of_row v1 _ 4 _ _ _ B0.out).trans (show _ = some (Value.slice p4 x4.length c4) from rfl)
  refine hK.out _ _ ⟨p_B0_0, p_B0_1, p_B0_2, p_B0_3, p_B0_4⟩ (fun hHeld => ?_)
  clear p_B0_0 p_B0_1 p_B0_2 p_B0_3 p_B0_4
  clear hK K
  try simp only [Act.put, List.setIfInBounds_toArray, List.set_cons_zero, List.set_cons_succ]
  refine wpAnyH_ready (rs := [5]) (by kernel_rfl) (by simp) ?_
  refine (AllReadyH.cons (o := _) (by simp only [List.getElem?_toArray, List.getElem?_cons_succ, List.getElem?_cons_zero]; rfl) (fun K hK => ?_) AllReadyH.nil)
  go_simp
  refine (HR2.out v1 (HT.out.on d.out)).mono ?_
  rintro e v2 ⟨rfl, cv2⟩
  replace B0 := Lib.hid ((cv2.block w.heap.size (Array.getElem?_eq_some_iff.1 B0.out).1).trans B0.out)
  replace d := Lib.hid (d.out.trans (cv2.mono d.out.size))
  have Z_v2 := Lib.hid (show v1.heap.size ≤ v2.heap.size from cv2.size)
  clear cv2
  have p_B0_0 := (cell_of_row v2 _ 0 _ _ _ B0.out).trans (show _ = some (Value.int .i64 sg) from rfl)
  have p_B0_1 := (cell_of_row v2 _ 1 _ _ _ B0.out).trans (show _ = some (Value.int .i64 ba) from rfl)
  have p_B0_2 := (cell_of_row v2 _ 2 _ _ _ B0.out).trans (show _ = some (Value.slice p2 x2.length c2) from rfl)
  have p_B0_3 := (cell_of_row v2 _ 3 _ _ _ B0.out).trans (show _ = some (Value.slice p3 x3.length c3) from rfl)
  have p_B0_4 := (cell_of_row v2 _ 4 _ _ _ B0.out).trans (show _ = some (Value.slice p4 x4.length c4) from rfl)
  refine hK.out _ _ ⟨p_B0_0, p_B0_1, p_B0_2, p_B0_3, p_B0_4⟩ (fun hHeld => ?_)
  clear p_B0_0 p_B0_1 p_B0_2 p_B0_3 p_B0_4
  clear hK K
  try simp only [Act.put, List.setIfInBounds_toArray, List.set_cons_zero, List.set_cons_succ]
  refine wpAnyH_ready (rs := [6]) (by kernel_rfl) (by simp) ?_
  refine (AllReadyH.cons (o := _) (by simp only [List.getElem?_toArray, List.getElem?_cons_succ, List.getElem?_cons_zero]; rfl) (fun K hK => ?_) AllReadyH.nil)
  go_simp
  have hal : Below v2.heap.size v2 (v2.alloc (.cells #[.string (strB t1), .string ⟨#[98, 97, 115, 101]⟩, .string (strB t2)] 9)) := (Below.refl _ _).alloc (Nat.le_refl _) _
  have HO : Hid (OwnsS (v2.alloc (.cells #[.string (strB t1), .string ⟨#[98, 97, 115, 101]⟩, .string (strB t2)] 9)) (w.heap.size + 1) (.slice (some ⟨v2.heap.size, 0, none⟩) 3 3) [strB t1, ⟨#[98, 97, 115, 101]⟩, strB t2]) := Lib.hid (ownsS_lit v2 (w.heap.size + 1) (by have := YW.out; have := Z_W1.out; have := Z_dr.out; have := Z_v1.out; have := Z_v2.out; omega) _ 3 _ rfl rfl (by decide))
  replace B0 := Lib.hid ((hal.block w.heap.size (Array.getElem?_eq_some_iff.1 B0.out).1).trans B0.out)
  replace d := Lib.hid (d.out.trans (hal.mono d.out.size))
  clear hal
  have Z_v3 := Lib.hid (show v2.heap.size ≤ (v2.alloc (.cells #[.string (strB t1), .string ⟨#[98, 97, 115, 101]⟩, .string (strB t2)] 9)).heap.size by simp [World.size_alloc])
  obtain ⟨g0, hg0⟩ : ∃ g0, v2.heap.size = g0 := ⟨_, rfl⟩
  generalize (v2.alloc (.cells #[.string (strB t1), .string ⟨#[98, 97, 115, 101]⟩, .string (strB t2)] 9)) = v3 at *
  rw [hg0] at HO
  try rw [hg0]
  clear hg0
  have p_B0_0 := (cell_of_row v3 _ 0 _ _ _ B0.out).trans (show _ = some (Value.int .i64 sg) from rfl)
  have p_B0_1 := (cell_of_row v3 _ 1 _ _ _ B0.out).trans (show _ = some (Value.int .i64 ba) from rfl)
  have p_B0_2 := (cell_of_row v3 _ 2 _ _ _ B0.out).trans (show _ = some (Value.slice p2 x2.length c2) from rfl)
  have p_B0_3 := (cell_of_row v3 _ 3 _ _ _ B0.out).trans (show _ = some (Value.slice p3 x3.length c3) from rfl)
  have p_B0_4 := (cell_of_row v3 _ 4 _ _ _ B0.out).trans (show _ = some (Value.slice p4 x4.length c4) from rfl)
  refine hK.out _ _ ⟨p_B0_0, p_B0_1, p_B0_2, p_B0_3, p_B0_4⟩ (fun hHeld => ?_)
  clear p_B0_0 p_B0_1 p_B0_2 p_B0_3 p_B0_4
  clear hK K
  try simp only [Act.put, List.setIfInBounds_toArray, List.set_cons_zero, List.set_cons_succ]
  refine take_runs (i := 7) (v := ?_) (by simp only [List.getElem?_toArray, List.getElem?_cons_succ, List.getElem?_cons_zero]; rfl) (by kernel_rfl) (by kernel_rfl) (by kernel_rfl) rfl (by exact fun _ _ _ h => h) (by rfl) ?_ (by assumption) ?_
  rotate_left
  · intro w hSw; (try dsimp only at hSw); go_simp; try (with_reducible rfl)
  try simp only [Act.put, List.setIfInBounds_toArray, List.set_cons_zero, List.set_cons_succ]
  refine wpAnyH_done (by kernel_rfl) ?_ _
  clear hHeld
  rw [← HW0.out] at HO
  have HB0 : Hid (w.heap.size + 1 ≤ v3.heap.size) := Lib.hid (by have := YW.out; have := Z_W1.out; have := Z_dr.out; have := Z_v1.out; have := Z_v2.out; have := Z_v3.out; omega)
  have p_B0_0 := (cell_of_row v3 _ 0 _ _ _ B0.out).trans (show _ = some (Value.int .i64 sg) from rfl)
  have p_B0_1 := (cell_of_row v3 _ 1 _ _ _ B0.out).trans (show _ = some (Value.int .i64 ba) from rfl)
  have p_B0_2 := (cell_of_row v3 _ 2 _ _ _ B0.out).trans (show _ = some (Value.slice p2 x2.length c2) from rfl)
  have p_B0_3 := (cell_of_row v3 _ 3 _ _ _ B0.out).trans (show _ = some (Value.slice p3 x3.length c3) from rfl)
  have p_B0_4 := (cell_of_row v3 _ 4 _ _ _ B0.out).trans (show _ = some (Value.slice p4 x4.length c4) from rfl)
  go_wp2
  clear p_B0_0 p_B0_1 p_B0_2 p_B0_3 p_B0_4
  go_loopw [3, 19] (fun u i wr => ∃ k : Nat, k ≤ x2.length ∧ i = .int .i64 k ∧ Hid (OwnsS wr (w.heap.size + 1) u ((wordsC (sg, ba, x2, x3, x4) k).map strB)) ∧ Hid (wr.heap[w.heap.size]? = some (.cells #[.int .i64 sg, .int .i64 ba, .slice p2 x2.length c2, .slice p3 x3.length c3, .slice p4 x4.length c4] 27 (0, 0))) ∧ Hid (w.heap.size + 1 ≤ wr.heap.size) ∧ Below w.heap.size w wr) (fun _ i _ => x2.length - (intOf i).toNat)
  case atStart => exact ⟨0, Nat.zero_le _, rfl, HO, B0, HB0, d.out⟩
  case round =>
    clear B0 d HO HB0
    obtain ⟨k, hk, rfl, HO, B0, HB0, c⟩ := hrel
    have d := Lib.hid c
    clear c
    by_cases hlt : k < x2.length
    · have i1 : (0 : Int) ≤ (k : Int) := by omega
      have i2 : (k : Int) < (x2.length : Int) := by omega
      have i3 : k < x4.length := by have := HL4.out; omega
      have i4 : (k : Int) < (x4.length : Int) := by omega
      have hid := HID.out k hlt
      have hrw := HRW.out k i3
      obtain ⟨bu, offu, capu, hv, hbl, hc⟩ := ints_cell (slR_ints H2.out) (by omega)
      simp only [Value.slice.injEq] at hv
      obtain ⟨rfl, _, rfl⟩ := hv
      have F2 := Lib.hid (hc k (by omega))
      have LF2 := Lib.hid hbl
      clear hc hbl
      obtain ⟨br, offr, capr, hv, hbl, hc⟩ := ints_cell (slR_ints H4.out) (by omega)
      simp only [Value.slice.injEq] at hv
      obtain ⟨rfl, _, rfl⟩ := hv
      have F4 := Lib.hid (hc k (by omega))
      have LF4 := Lib.hid hbl
      clear hc hbl
      have HN : Hid ((wordsC (sg, ba, x2, x3, x4) k).map strB ++ [strB ([113] ++ Lib.itoa (x2.getD k 0) ++ [43] ++ Lib.itoa (x4.getD k 0))] = (wordsC (sg, ba, x2, x3, x4) (k + 1)).map strB) := Lib.hid (wordsB_next (sg, ba, x2, x3, x4) k)
      have HWL : Hid (((wordsC (sg, ba, x2, x3, x4) k).map strB).length ≤ 20) := Lib.hid (by rw [List.length_map, wordsC_len]; omega)
      generalize (wordsC (sg, ba, x2, x3, x4) k).map strB = ws at *
      generalize x2.getD k 0 = y at *
      generalize x4.getD k 0 = rv at *
      have HR3 := Lib.hid (fun W h => implFmt y W (by omega) (by omega) h)
      have HR4 := Lib.hid (fun W h => implFmt rv W (by omega) (by omega) h)
      change Hid (∀ W, Tab W → Calls _ _ _ W (fun e w' => e = .returned (.string (strB (Lib.itoa y))) ∧ Below W.heap.size W w')) at HR3
      change Hid (∀ W, Tab W → Calls _ _ _ W (fun e w' => e = .returned (.string (strB (Lib.itoa rv))) ∧ Below W.heap.size W w')) at HR4
      have l1 := Lib.itoa_length_le y (by omega) (by omega)
      have l2 := Lib.itoa_length_le rv (by omega) (by omega)
      obtain ⟨t3, ht3⟩ : ∃ t3, Lib.itoa y = t3 := ⟨_, rfl⟩
      obtain ⟨t4, ht4⟩ : ∃ t4, Lib.itoa rv = t4 := ⟨_, rfl⟩
      rw [ht3] at HR3 HN l1
      rw [ht4] at HR4 HN l2
      clear ht3 ht4
      have e0 : (⟨#[113]⟩ : ByteArray) = strB [113] := rfl
      have e1 : (⟨#[43]⟩ : ByteArray) = strB [43] := rfl
      have d1 := strB_add [113] t3 (by simp; omega)
      have d2 := strB_add ([113] ++ t3) [43] (by simp; omega)
      have d3 := strB_add ([113] ++ t3 ++ [43]) t4 (by simp; omega)
      generalize [113] ++ t3 = z2 at *
      generalize z2 ++ [43] = z3 at *
      generalize z3 ++ t4 = z4 at *
      clear l1 l2 hid hrw
      have f2 := (d.out.cell (p := ⟨bu, offu + k, none⟩) LF2.out).trans F2.out
      have p_B0_0 := (cell_of_row wr _ 0 _ _ _ B0.out).trans (show _ = some (Value.int .i64 sg) from rfl)
      have p_B0_1 := (cell_of_row wr _ 1 _ _ _ B0.out).trans (show _ = some (Value.int .i64 ba) from rfl)
      have p_B0_2 := (cell_of_row wr _ 2 _ _ _ B0.out).trans (show _ = some (Value.slice (some ⟨bu, offu, none⟩) x2.length c2) from rfl)
      have p_B0_3 := (cell_of_row wr _ 3 _ _ _ B0.out).trans (show _ = some (Value.slice p3 x3.length c3) from rfl)
      have p_B0_4 := (cell_of_row wr _ 4 _ _ _ B0.out).trans (show _ = some (Value.slice (some ⟨br, offr, none⟩) x4.length c4) from rfl)
      go_wp2
      clear f2 p_B0_0 p_B0_1 p_B0_2 p_B0_3 p_B0_4
      have HO0 := HO
      clear HO
      have HO := Lib.hid (ownsS_below HO0.out (show Below wr.heap.size wr wr.drew from below_drew (Below.refl _ _)))
      clear HO0
      have p_B0_0 := (cell_of_row wr _ 0 _ _ _ B0.out).trans (show _ = some (Value.int .i64 sg) from rfl)
      have p_B0_1 := (cell_of_row wr _ 1 _ _ _ B0.out).trans (show _ = some (Value.int .i64 ba) from rfl)
      have p_B0_2 := (cell_of_row wr _ 2 _ _ _ B0.out).trans (show _ = some (Value.slice (some ⟨bu, offu, none⟩) x2.length c2) from rfl)
      have p_B0_3 := (cell_of_row wr _ 3 _ _ _ B0.out).trans (show _ = some (Value.slice p3 x3.length c3) from rfl)
      have p_B0_4 := (cell_of_row wr _ 4 _ _ _ B0.out).trans (show _ = some (Value.slice (some ⟨br, offr, none⟩) x4.length c4) from rfl)
      have p_F4 := (d.out.cell (p := ⟨br, offr + k, none⟩) LF4.out).trans F4.out
      refine wp_region_held_drew (S := fun w' => w'.cell? ⟨w.heap.size, 0, none⟩ = some (Value.int .i64 sg) ∧ w'.cell? ⟨w.heap.size, 1, none⟩ = some (Value.int .i64 ba) ∧ w'.cell? ⟨w.heap.size, 2, none⟩ = some (Value.slice (some ⟨bu, offu, none⟩) x2.length c2) ∧ w'.cell? ⟨w.heap.size, 3, none⟩ = some (Value.slice p3 x3.length c3) ∧ w'.cell? ⟨w.heap.size, 4, none⟩ = some (Value.slice (some ⟨br, offr, none⟩) x4.length c4) ∧ w'.cell? ⟨br, offr + k, none⟩ = some (Value.int .i64 rv)) (by kernel_rfl) ⟨p_B0_0, p_B0_1, p_B0_2, p_B0_3, p_B0_4, p_F4⟩ (fun hHeld => ?_)
      clear p_B0_0 p_B0_1 p_B0_2 p_B0_3 p_B0_4 p_F4
      have cdr : Below wr.heap.size wr wr.drew := below_drew (Below.refl _ _)
      replace B0 := Lib.hid ((cdr.block w.heap.size (Array.getElem?_eq_some_iff.1 B0.out).1).trans B0.out)
      replace d := Lib.hid (d.out.trans (cdr.mono d.out.size))
      clear cdr
      have Z_dr := Lib.hid (show wr.heap.size ≤ wr.drew.heap.size from Nat.le_refl _)
      generalize wr.drew = Wd at *
      refine take_runs (i := 0) (v := ?_) (by simp only [List.getElem?_toArray, List.getElem?_cons_succ, List.getElem?_cons_zero]; rfl) (by kernel_rfl) (by kernel_rfl) (by kernel_rfl) rfl (by exact fun _ _ _ h => h) (by rfl) ?_ (by assumption) ?_
      rotate_left
      · intro w hSw; (try dsimp only at hSw); go_simp; try (with_reducible rfl)
      try simp only [Act.put, List.setIfInBounds_toArray, List.set_cons_zero, List.set_cons_succ]
      refine take_runs (i := 1) (v := ?_) (by simp only [List.getElem?_toArray, List.getElem?_cons_succ, List.getElem?_cons_zero]; rfl) (by kernel_rfl) (by kernel_rfl) (by kernel_rfl) rfl (by exact fun _ _ _ h => h) (by rfl) ?_ (by assumption) ?_
      rotate_left
      · intro w hSw; (try dsimp only at hSw); go_simp; try (with_reducible rfl)
      try simp only [Act.put, List.setIfInBounds_toArray, List.set_cons_zero, List.set_cons_succ]
      refine take_runs (i := 5) (v := ?_) (by simp only [List.getElem?_toArray, List.getElem?_cons_succ, List.getElem?_cons_zero]; rfl) (by kernel_rfl) (by kernel_rfl) (by kernel_rfl) rfl (by exact fun _ _ _ h => h) (by rfl) ?_ (by assumption) ?_
      rotate_left
      · intro w hSw; (try dsimp only at hSw); go_simp; try (with_reducible rfl)
      try simp only [Act.put, List.setIfInBounds_toArray, List.set_cons_zero, List.set_cons_succ]
      refine take_runs (i := 6) (v := ?_) (by simp only [List.getElem?_toArray, List.getElem?_cons_succ, List.getElem?_cons_zero]; rfl) (by kernel_rfl) (by kernel_rfl) (by kernel_rfl) rfl (by exact fun _ _ _ h => h) (by rfl) ?_ (by assumption) ?_
      rotate_left
      · intro w hSw; (try dsimp only at hSw); go_simp; try (with_reducible rfl)
      try simp only [Act.put, List.setIfInBounds_toArray, List.set_cons_zero, List.set_cons_succ]
      refine take_runs (i := 7) (v := ?_) (by simp only [List.getElem?_toArray, List.getElem?_cons_succ, List.getElem?_cons_zero]; rfl) (by kernel_rfl) (by kernel_rfl) (by kernel_rfl) rfl (by exact fun _ _ _ h => h) (by rfl) ?_ (by assumption) ?_
      rotate_left
      · intro w hSw; (try dsimp only at hSw); go_simp; try (with_reducible rfl)
      try simp only [Act.put, List.setIfInBounds_toArray, List.set_cons_zero, List.set_cons_succ]
      refine take_runs (i := 8) (v := ?_) (by simp only [List.getElem?_toArray, List.getElem?_cons_succ, List.getElem?_cons_zero]; rfl) (by kernel_rfl) (by kernel_rfl) (by kernel_rfl) rfl (by exact fun _ _ _ h => h) (by rfl) ?_ (by assumption) ?_
      rotate_left
      · intro w hSw; (try dsimp only at hSw); go_simp; try (with_reducible rfl)
      try simp only [Act.put, List.setIfInBounds_toArray, List.set_cons_zero, List.set_cons_succ]
      refine take_runs (i := 9) (v := ?_) (by simp only [List.getElem?_toArray, List.getElem?_cons_succ, List.getElem?_cons_zero]; rfl) (by kernel_rfl) (by kernel_rfl) (by kernel_rfl) rfl (by exact fun _ _ _ h => h) (by rfl) ?_ (by assumption) ?_
      rotate_left
      · intro w hSw; (try dsimp only at hSw); go_simp; try (with_reducible rfl)
      try simp only [Act.put, List.setIfInBounds_toArray, List.set_cons_zero, List.set_cons_succ]
      refine wpAnyH_ready (rs := [2]) (by kernel_rfl) (by simp) ?_
      refine (AllReadyH.cons (o := _) (by simp only [List.getElem?_toArray, List.getElem?_cons_succ, List.getElem?_cons_zero]; rfl) (fun K hK => ?_) AllReadyH.nil)
      go_simp
      refine (HR3.out Wd (HT.out.on d.out)).mono ?_
      rintro e v4 ⟨rfl, cv4⟩
      replace HO := Lib.hid (ownsS_below HO.out cv4)
      replace B0 := Lib.hid ((cv4.block w.heap.size (Array.getElem?_eq_some_iff.1 B0.out).1).trans B0.out)
      replace d := Lib.hid (d.out.trans (cv4.mono d.out.size))
      have Z_v4 := Lib.hid (show Wd.heap.size ≤ v4.heap.size from cv4.size)
      clear cv4
      have p_B0_0 := (cell_of_row v4 _ 0 _ _ _ B0.out).trans (show _ = some (Value.int .i64 sg) from rfl)
      have p_B0_1 := (cell_of_row v4 _ 1 _ _ _ B0.out).trans (show _ = some (Value.int .i64 ba) from rfl)
      have p_B0_2 := (cell_of_row v4 _ 2 _ _ _ B0.out).trans (show _ = some (Value.slice (some ⟨bu, offu, none⟩) x2.length c2) from rfl)
      have p_B0_3 := (cell_of_row v4 _ 3 _ _ _ B0.out).trans (show _ = some (Value.slice p3 x3.length c3) from rfl)
      have p_B0_4 := (cell_of_row v4 _ 4 _ _ _ B0.out).trans (show _ = some (Value.slice (some ⟨br, offr, none⟩) x4.length c4) from rfl)
      have p_F4 := (d.out.cell (p := ⟨br, offr + k, none⟩) LF4.out).trans F4.out
      refine hK.out _ _ ⟨p_B0_0, p_B0_1, p_B0_2, p_B0_3, p_B0_4, p_F4⟩ (fun hHeld => ?_)
      clear p_B0_0 p_B0_1 p_B0_2 p_B0_3 p_B0_4 p_F4
      clear hK K
      try simp only [Act.put, List.setIfInBounds_toArray, List.set_cons_zero, List.set_cons_succ]
      refine take_runs (i := 3) (v := ?_) (by simp only [List.getElem?_toArray, List.getElem?_cons_succ, List.getElem?_cons_zero]; rfl) (by kernel_rfl) (by kernel_rfl) (by kernel_rfl) rfl (by exact fun _ _ _ h => h) (by rfl) ?_ (by assumption) ?_
      rotate_left
      · intro w hSw; (try dsimp only at hSw); go_simp; try (with_reducible rfl)
      try simp only [Act.put, List.setIfInBounds_toArray, List.set_cons_zero, List.set_cons_succ]
      refine take_runs (i := 4) (v := ?_) (by simp only [List.getElem?_toArray, List.getElem?_cons_succ, List.getElem?_cons_zero]; rfl) (by kernel_rfl) (by kernel_rfl) (by kernel_rfl) rfl (by exact fun _ _ _ h => h) (by rfl) ?_ (by assumption) ?_
      rotate_left
      · intro w hSw; (try dsimp only at hSw); go_simp; try (with_reducible rfl)
      try simp only [Act.put, List.setIfInBounds_toArray, List.set_cons_zero, List.set_cons_succ]
      refine wpAnyH_ready (rs := [10]) (by kernel_rfl) (by simp) ?_
      refine (AllReadyH.cons (o := _) (by simp only [List.getElem?_toArray, List.getElem?_cons_succ, List.getElem?_cons_zero]; rfl) (fun K hK => ?_) AllReadyH.nil)
      go_simp
      refine (HR4.out v4 (HT.out.on d.out)).mono ?_
      rintro e v5 ⟨rfl, cv5⟩
      replace HO := Lib.hid (ownsS_below HO.out cv5)
      replace B0 := Lib.hid ((cv5.block w.heap.size (Array.getElem?_eq_some_iff.1 B0.out).1).trans B0.out)
      replace d := Lib.hid (d.out.trans (cv5.mono d.out.size))
      have Z_v5 := Lib.hid (show v4.heap.size ≤ v5.heap.size from cv5.size)
      clear cv5
      have p_B0_0 := (cell_of_row v5 _ 0 _ _ _ B0.out).trans (show _ = some (Value.int .i64 sg) from rfl)
      have p_B0_1 := (cell_of_row v5 _ 1 _ _ _ B0.out).trans (show _ = some (Value.int .i64 ba) from rfl)
      have p_B0_2 := (cell_of_row v5 _ 2 _ _ _ B0.out).trans (show _ = some (Value.slice (some ⟨bu, offu, none⟩) x2.length c2) from rfl)
      have p_B0_3 := (cell_of_row v5 _ 3 _ _ _ B0.out).trans (show _ = some (Value.slice p3 x3.length c3) from rfl)
      have p_B0_4 := (cell_of_row v5 _ 4 _ _ _ B0.out).trans (show _ = some (Value.slice (some ⟨br, offr, none⟩) x4.length c4) from rfl)
      have p_F4 := (d.out.cell (p := ⟨br, offr + k, none⟩) LF4.out).trans F4.out
      refine hK.out _ _ ⟨p_B0_0, p_B0_1, p_B0_2, p_B0_3, p_B0_4, p_F4⟩ (fun hHeld => ?_)
      clear p_B0_0 p_B0_1 p_B0_2 p_B0_3 p_B0_4 p_F4
      clear hK K
      try simp only [Act.put, List.setIfInBounds_toArray, List.set_cons_zero, List.set_cons_succ]
      refine take_runs (i := 11) (v := ?_) (by simp only [List.getElem?_toArray, List.getElem?_cons_succ, List.getElem?_cons_zero]; rfl) (by kernel_rfl) (by kernel_rfl) (by kernel_rfl) rfl (by exact fun _ _ _ h => h) (by rfl) ?_ (by assumption) ?_
      rotate_left
      · intro w hSw; (try dsimp only at hSw); go_simp; try (with_reducible rfl)
      try simp only [Act.put, List.setIfInBounds_toArray, List.set_cons_zero, List.set_cons_succ]
      refine wpAnyH_ready (rs := [12]) (by kernel_rfl) (by simp) ?_
      refine (AllReadyH.cons (o := _) (by simp only [List.getElem?_toArray, List.getElem?_cons_succ, List.getElem?_cons_zero]; rfl) (fun K hK => ?_) AllReadyH.nil)
      go_simp
      have hal : Below v5.heap.size v5 (v5.alloc (.cells #[.string (strB z4)] 9)) := (Below.refl _ _).alloc (Nat.le_refl _) _
      have HS1 : Hid (Strs (v5.alloc (.cells #[.string (strB z4)] 9)) (.slice (some ⟨v5.heap.size, 0, none⟩) 1 1) [strB z4]) := Lib.hid (ownsS_strs (ownsS_lit v5 0 (Nat.zero_le _) _ 1 _ rfl rfl (by decide)))
      replace HO := Lib.hid (ownsS_below HO.out hal)
      replace B0 := Lib.hid ((hal.block w.heap.size (Array.getElem?_eq_some_iff.1 B0.out).1).trans B0.out)
      replace d := Lib.hid (d.out.trans (hal.mono d.out.size))
      clear hal
      have Z_v6 := Lib.hid (show v5.heap.size ≤ (v5.alloc (.cells #[.string (strB z4)] 9)).heap.size by simp [World.size_alloc])
      obtain ⟨g1, hg1⟩ : ∃ g1, v5.heap.size = g1 := ⟨_, rfl⟩
      generalize (v5.alloc (.cells #[.string (strB z4)] 9)) = v6 at *
      rw [hg1] at HS1
      try rw [hg1]
      clear hg1
      have p_B0_0 := (cell_of_row v6 _ 0 _ _ _ B0.out).trans (show _ = some (Value.int .i64 sg) from rfl)
      have p_B0_1 := (cell_of_row v6 _ 1 _ _ _ B0.out).trans (show _ = some (Value.int .i64 ba) from rfl)
      have p_B0_2 := (cell_of_row v6 _ 2 _ _ _ B0.out).trans (show _ = some (Value.slice (some ⟨bu, offu, none⟩) x2.length c2) from rfl)
      have p_B0_3 := (cell_of_row v6 _ 3 _ _ _ B0.out).trans (show _ = some (Value.slice p3 x3.length c3) from rfl)
      have p_B0_4 := (cell_of_row v6 _ 4 _ _ _ B0.out).trans (show _ = some (Value.slice (some ⟨br, offr, none⟩) x4.length c4) from rfl)
      have p_F4 := (d.out.cell (p := ⟨br, offr + k, none⟩) LF4.out).trans F4.out
      refine hK.out _ _ ⟨p_B0_0, p_B0_1, p_B0_2, p_B0_3, p_B0_4, p_F4⟩ (fun hHeld => ?_)
      clear p_B0_0 p_B0_1 p_B0_2 p_B0_3 p_B0_4 p_F4
      clear hK K
      try simp only [Act.put, List.setIfInBounds_toArray, List.set_cons_zero, List.set_cons_succ]
      refine wpAnyH_ready (rs := [13]) (by kernel_rfl) (by simp) ?_
      refine (AllReadyH.cons (o := _) (by simp only [List.getElem?_toArray, List.getElem?_cons_succ, List.getElem?_cons_zero]; rfl) (fun K hK => ?_) AllReadyH.nil)
      refine step_append_strs rfl (.tmp 24) (.tmp 36) rfl (w.heap.size + 1) _ _ ws [strB z4] rfl rfl HO.out HS1.out (by have := HB0.out; have := Z_dr.out; have := Z_v4.out; have := Z_v5.out; have := Z_v6.out; omega) (by have := HWL.out; simp; omega) ?_
      intro u' v7 oN bN _
      have HON := Lib.hid oN
      clear oN HO HS1
      have hsz := bN.size
      replace B0 := Lib.hid ((bN.block w.heap.size (Nat.lt_succ_self _)).trans B0.out)
      replace d := Lib.hid (d.out.trans (bN.mono (Nat.le_succ _)))
      have ZN := Lib.hid (show w.heap.size + 1 ≤ v7.heap.size by have := HB0.out; have := Z_dr.out; have := Z_v4.out; have := Z_v5.out; have := Z_v6.out; omega)
      clear bN hsz
      have p_B0_0 := (cell_of_row v7 _ 0 _ _ _ B0.out).trans (show _ = some (Value.int .i64 sg) from rfl)
      have p_B0_1 := (cell_of_row v7 _ 1 _ _ _ B0.out).trans (show _ = some (Value.int .i64 ba) from rfl)
      have p_B0_2 := (cell_of_row v7 _ 2 _ _ _ B0.out).trans (show _ = some (Value.slice (some ⟨bu, offu, none⟩) x2.length c2) from rfl)
      have p_B0_3 := (cell_of_row v7 _ 3 _ _ _ B0.out).trans (show _ = some (Value.slice p3 x3.length c3) from rfl)
      have p_B0_4 := (cell_of_row v7 _ 4 _ _ _ B0.out).trans (show _ = some (Value.slice (some ⟨br, offr, none⟩) x4.length c4) from rfl)
      have p_F4 := (d.out.cell (p := ⟨br, offr + k, none⟩) LF4.out).trans F4.out
      refine hK.out _ _ ⟨p_B0_0, p_B0_1, p_B0_2, p_B0_3, p_B0_4, p_F4⟩ (fun hHeld => ?_)
      clear p_B0_0 p_B0_1 p_B0_2 p_B0_3 p_B0_4 p_F4
      clear hK K
      try simp only [Act.put, List.setIfInBounds_toArray, List.set_cons_zero, List.set_cons_succ]
      refine take_runs (i := 14) (v := ?_) (by simp only [List.getElem?_toArray, List.getElem?_cons_succ, List.getElem?_cons_zero]; rfl) (by kernel_rfl) (by kernel_rfl) (by kernel_rfl) rfl (by exact fun _ _ _ h => h) (by rfl) ?_ (by assumption) ?_
      rotate_left
      · intro w hSw; (try dsimp only at hSw); go_simp; try (with_reducible rfl)
      try simp only [Act.put, List.setIfInBounds_toArray, List.set_cons_zero, List.set_cons_succ]
      refine wpAnyH_done (by kernel_rfl) ?_ _
      clear hHeld
      rw [HN.out] at HON
      clear e0 e1 d1 d2 d3
      go_wp2
      go_roundw
      case rel => exact ⟨k + 1, by omega, by go_num, HON, B0, ZN, d.out⟩
      case measure => simp [intOf]; omega
    · obtain rfl : k = x2.length := by omega
      have HJ0 := Lib.hid (join_wordsB (sg, ba, x2, x3, x4) x2.length)
      have HGL := Lib.hid (HLN.out x2.length (Nat.le_refl _))
      have HWL : Hid (((wordsC (sg, ba, x2, x3, x4) x2.length).map strB).length ≤ 20 ∧ 0 < ((wordsC (sg, ba, x2, x3, x4) x2.length).map strB).length) := Lib.hid (by rw [List.length_map, wordsC_len]; omega)
      generalize (wordsC (sg, ba, x2, x3, x4) x2.length).map strB = ws at *
      obtain ⟨gg, gcap, rfl, hgc, hgl⟩ := ownsS_fullC HO.out HWL.out.2
      have o9 := HO.out
      have HJ := Lib.hid (Tryd.strings_Join gg 0 gcap ws ⟨#[32]⟩ wr (fun j x hx => by have := ownsS_cell o9 hx; rw [Nat.zero_add]; exact this) hgl (by have := HWL.out; omega) hgc (by rw [HJ0.out]; have := HGL.out; omega))
      rw [HJ0.out, ← HF.out] at HJ
      clear o9 hgc hgl HO
      obtain ⟨fc, hfc⟩ : ∃ fc, fc = fmtC (sg, ba, x2, x3, x4) := ⟨_, rfl⟩
      rw [← hfc] at HJ
      have HFC := Lib.hid hfc
      clear hfc
      have p_B0_0 := (cell_of_row wr _ 0 _ _ _ B0.out).trans (show _ = some (Value.int .i64 sg) from rfl)
      have p_B0_1 := (cell_of_row wr _ 1 _ _ _ B0.out).trans (show _ = some (Value.int .i64 ba) from rfl)
      have p_B0_2 := (cell_of_row wr _ 2 _ _ _ B0.out).trans (show _ = some (Value.slice p2 x2.length c2) from rfl)
      have p_B0_3 := (cell_of_row wr _ 3 _ _ _ B0.out).trans (show _ = some (Value.slice p3 x3.length c3) from rfl)
      have p_B0_4 := (cell_of_row wr _ 4 _ _ _ B0.out).trans (show _ = some (Value.slice p4 x4.length c4) from rfl)
      go_wp2_with fail
      clear p_B0_0 p_B0_1 p_B0_2 p_B0_3 p_B0_4
      refine HJ.out.mono ?_
      rintro e w10 ⟨rfl, b10⟩
      have c10 := Lib.hid (d.out.trans (b10.mono d.out.size))
      clear b10
      go_wp2
      go_ret
      exact ⟨ret_s HFC.out, c10.out⟩
end Go.Proofs.YtjapbmaibgplkaaDoor
namespace Go.Proofs.YtjapbmaibgplkaaDoor
open Go.RowKit
set_option linter.unusedVariables false
set_option linter.unusedSimpArgs false
set_option maxHeartbeats 32000000 in
set_option maxRecDepth 100000 in
theorem law_fnExactFormatCharge (a0_0 a0_1 : Int) (v0_2 v0_3 v0_4 : Value) (x0_2 : List Int) (x0_3 : List Int) (x0_4 : List Int) (r0 : List UInt8) (w : World) (h0_2 : SlR tInt w v0_2 x0_2) (h0_3 : SlR tInt w v0_3 x0_3) (h0_4 : SlR tInt w v0_4 x0_4) (o0_2 : tIntS.ok x0_2) (o0_3 : tIntS.ok x0_3) (o0_4 : tIntS.ok x0_4) 
    (hspec : ∀ (v0_2 v0_3 v0_4 : Value) (w : World), SlR tInt w v0_2 x0_2 → SlR tInt w v0_3 x0_3 → SlR tInt w v0_4 x0_4 → zL tInt x0_2 + zL tInt x0_3 + zL tInt x0_4 ≤ 1048576 → Calls Tryd.prog 5 #[.agg #[.int .i64 a0_0, .int .i64 a0_1, v0_2, v0_3, v0_4]] w (fun e w' => e = .returned (.string ⟨r0.toArray⟩) ∧ Below w.heap.size w w'))
    (himpl : ∀ (v0_2 v0_3 v0_4 : Value) (u : World), Below w.heap.size w u → SlR tInt u v0_2 x0_2 → SlR tInt u v0_3 x0_3 → SlR tInt u v0_4 x0_4 → zL tInt x0_2 + zL tInt x0_3 + zL tInt x0_4 ≤ 1048576 → Calls Tryd.prog 7 #[.agg #[.int .i64 a0_0, .int .i64 a0_1, v0_2, v0_3, v0_4]] u (fun e w' => e = .returned (.string ⟨r0.toArray⟩) ∧ Below u.heap.size u w')) :
    Calls Tryd.prog 3 #[.agg #[.int .i64 a0_0, .int .i64 a0_1, v0_2, v0_3, v0_4]] w fun e w' => e = .returned (.bool true) ∧ Below w.heap.size w w' := by
  obtain ⟨c0_2, k0_2, rfl⟩ := slR_len h0_2
  obtain ⟨c0_3, k0_3, rfl⟩ := slR_len h0_3
  obtain ⟨c0_4, k0_4, rfl⟩ := slR_len h0_4
  have HB0 : Hid (Below w.heap.size w (w.alloc (.cells #[.int .i64 a0_0, .int .i64 a0_1, .slice c0_2 x0_2.length k0_2, .slice c0_3 x0_3.length k0_3, .slice c0_4 x0_4.length k0_4] 24))) := Lib.hid ((Below.refl _ w).alloc (Nat.le_refl _) _)
  have B0 : Hid ((w.alloc (.cells #[.int .i64 a0_0, .int .i64 a0_1, .slice c0_2 x0_2.length k0_2, .slice c0_3 x0_3.length k0_3, .slice c0_4 x0_4.length k0_4] 24)).heap[w.heap.size]? = some (.cells #[.int .i64 a0_0, .int .i64 a0_1, .slice c0_2 x0_2.length k0_2, .slice c0_3 x0_3.length k0_3, .slice c0_4 x0_4.length k0_4] 24 (0, 0))) := Lib.hid (by have := heap_alloc_new w (.cells #[.int .i64 a0_0, .int .i64 a0_1, .slice c0_2 x0_2.length k0_2, .slice c0_3 x0_3.length k0_3, .slice c0_4 x0_4.length k0_4] 24); simpa only [World.size_alloc] using this)
  have A0_2 : Hid (SlR tInt (w.alloc (.cells #[.int .i64 a0_0, .int .i64 a0_1, .slice c0_2 x0_2.length k0_2, .slice c0_3 x0_3.length k0_3, .slice c0_4 x0_4.length k0_4] 24)) (.slice c0_2 x0_2.length k0_2) x0_2) := Lib.hid (slR_below tInt_law h0_2 HB0.out)
  have A0_3 : Hid (SlR tInt (w.alloc (.cells #[.int .i64 a0_0, .int .i64 a0_1, .slice c0_2 x0_2.length k0_2, .slice c0_3 x0_3.length k0_3, .slice c0_4 x0_4.length k0_4] 24)) (.slice c0_3 x0_3.length k0_3) x0_3) := Lib.hid (slR_below tInt_law h0_3 HB0.out)
  have A0_4 : Hid (SlR tInt (w.alloc (.cells #[.int .i64 a0_0, .int .i64 a0_1, .slice c0_2 x0_2.length k0_2, .slice c0_3 x0_3.length k0_3, .slice c0_4 x0_4.length k0_4] 24)) (.slice c0_4 x0_4.length k0_4) x0_4) := Lib.hid (slR_below tInt_law h0_4 HB0.out)
  have O0_2 := Lib.hid o0_2
  have O0_3 := Lib.hid o0_3
  have O0_4 := Lib.hid o0_4
  clear h0_2 o0_2 h0_3 o0_3 h0_4 o0_4
  have HSP := Lib.hid hspec
  have HIM := Lib.hid himpl
  clear hspec himpl
  by_cases c0 : ((zL tInt x0_2 + zL tInt x0_3 + zL tInt x0_4 : Nat) : Int) ≤ (1048576 : Int)
  ·
    have HZ0 : Hid (((zL tInt x0_2 + zL tInt x0_3 + zL tInt x0_4 : Nat) : Int) ≤ (1048576 : Int)) := Lib.hid c0
    have HK0 : Hid ((1048576 : Int) ≤ 1048576) := Lib.hid (by omega)
    have hn0 : ¬ (1048576 : Int) - ((zL tInt x0_2 + zL tInt x0_3 + zL tInt x0_4 : Nat) : Int) < 0 := by omega
    have HT : Hid (zL tInt x0_2 + zL tInt x0_3 + zL tInt x0_4 ≤ 1048576) := Lib.hid (by omega)
    have S0_2 : Hid (zL tInt x0_2 ≤ 1048576) := Lib.hid (by omega)
    have S0_3 : Hid (zL tInt x0_3 ≤ 1048576) := Lib.hid (by omega)
    have S0_4 : Hid (zL tInt x0_4 ≤ 1048576) := Lib.hid (by omega)
    have N0_2 := ndL_le tInt_law (by decide) x0_2
    have N0_3 := ndL_le tInt_law (by decide) x0_3
    have N0_4 := ndL_le tInt_law (by decide) x0_4
    clear N0_2 N0_3 N0_4
    have e0 : (!((⟨r0.toArray⟩ : ByteArray).toList == (⟨r0.toArray⟩ : ByteArray).toList)) = false := by simp
    clear c0
    go_enter Tryd.func3, Tryd.ntmps3
    go_wp2_with fail
    have Y_W : Hid (w.heap.size + 1 ≤ (w.alloc (.cells #[.int .i64 a0_0, .int .i64 a0_1, .slice c0_2 x0_2.length k0_2, .slice c0_3 x0_3.length k0_3, .slice c0_4 x0_4.length k0_4] 24)).heap.size) := Lib.hid (by simp [World.size_alloc])
    generalize (w.alloc (.cells #[.int .i64 a0_0, .int .i64 a0_1, .slice c0_2 x0_2.length k0_2, .slice c0_3 x0_3.length k0_3, .slice c0_4 x0_4.length k0_4] 24)) = W at *
    have d := Lib.hid (Below.refl W.heap.size W)
    refine (szCharge_Y a0_0 a0_1 (.slice c0_2 x0_2.length k0_2) (.slice c0_3 x0_3.length k0_3) (.slice c0_4 x0_4.length k0_4) x0_2 x0_3 x0_4 ((1048576 : Int)) W (slR_below tInt_law A0_2.out d.out) (slR_below tInt_law A0_3.out d.out) (slR_below tInt_law A0_4.out d.out) HZ0.out HK0.out).mono ?_
    rintro e v1 ⟨rfl, c1⟩
    replace B0 := Lib.hid ((c1.block w.heap.size (Array.getElem?_eq_some_iff.1 B0.out).1).trans B0.out)
    replace d := Lib.hid (d.out.trans (c1.mono d.out.size))
    have Z_v1 := Lib.hid (show W.heap.size ≤ v1.heap.size from c1.size)
    clear c1
    have p_B0_0 := (cell_of_row v1 _ 0 _ _ _ B0.out).trans (show _ = some (Value.int .i64 a0_0) from rfl)
    have p_B0_1 := (cell_of_row v1 _ 1 _ _ _ B0.out).trans (show _ = some (Value.int .i64 a0_1) from rfl)
    have p_B0_2 := (cell_of_row v1 _ 2 _ _ _ B0.out).trans (show _ = some (Value.slice c0_2 x0_2.length k0_2) from rfl)
    have p_B0_3 := (cell_of_row v1 _ 3 _ _ _ B0.out).trans (show _ = some (Value.slice c0_3 x0_3.length k0_3) from rfl)
    have p_B0_4 := (cell_of_row v1 _ 4 _ _ _ B0.out).trans (show _ = some (Value.slice c0_4 x0_4.length k0_4) from rfl)
    go_wp2_with fail
    clear p_B0_0 p_B0_1 p_B0_2 p_B0_3 p_B0_4
    refine (toCharge_T a0_0 a0_1 (.slice c0_2 x0_2.length k0_2) (.slice c0_3 x0_3.length k0_3) (.slice c0_4 x0_4.length k0_4) x0_2 x0_3 x0_4 v1 (slR_below tInt_law A0_2.out d.out) (slR_below tInt_law A0_3.out d.out) (slR_below tInt_law A0_4.out d.out) S0_2.out S0_3.out S0_4.out).mono ?_
    rintro e v2 ⟨cs, rfl, ow, c2⟩
    replace B0 := Lib.hid ((c2.block w.heap.size (Array.getElem?_eq_some_iff.1 B0.out).1).trans B0.out)
    replace d := Lib.hid (d.out.trans (c2.mono d.out.size))
    have Z_v2 := Lib.hid (show v1.heap.size ≤ v2.heap.size from c2.size)
    clear c2
    replace ow := tCharge_law.lt ow
    obtain ⟨y2_2, y2_3, y2_4, K2_2, K2_3, K2_4, rfl, p2_2, p2_3, p2_4, w2_2, w2_3, w2_4, d2_2_3, d2_2_4, d2_3_4⟩ := tCharge_O ow
    obtain ⟨ya2_2, yc2_2, rfl⟩ := slO_len p2_2
    have P2_2 := Lib.hid p2_2
    have Q2_2 := Lib.hid (fun b h => (show v1.heap.size ≤ b ∧ b < v2.heap.size from w2_2 b h))
    obtain ⟨ya2_3, yc2_3, rfl⟩ := slO_len p2_3
    have P2_3 := Lib.hid p2_3
    have Q2_3 := Lib.hid (fun b h => (show v1.heap.size ≤ b ∧ b < v2.heap.size from w2_3 b h))
    obtain ⟨ya2_4, yc2_4, rfl⟩ := slO_len p2_4
    have P2_4 := Lib.hid p2_4
    have Q2_4 := Lib.hid (fun b h => (show v1.heap.size ≤ b ∧ b < v2.heap.size from w2_4 b h))
    have D2_2_3 := Lib.hid d2_2_3
    clear d2_2_3
    have D2_2_4 := Lib.hid d2_2_4
    clear d2_2_4
    have D2_3_4 := Lib.hid d2_3_4
    clear d2_3_4
    clear p2_2 w2_2 p2_3 w2_3 p2_4 w2_4 ow
    go_wp2_with fail
    refine (HSP.out (.slice ya2_2 x0_2.length yc2_2) (.slice ya2_3 x0_3.length yc2_3) (.slice ya2_4 x0_4.length yc2_4) v2 (slO_reads tInt_law P2_2.out) (slO_reads tInt_law P2_3.out) (slO_reads tInt_law P2_4.out) HT.out ).mono ?_
    rintro e v3 ⟨rfl, c3⟩
    replace B0 := Lib.hid ((c3.block w.heap.size (Array.getElem?_eq_some_iff.1 B0.out).1).trans B0.out)
    replace P2_2 := Lib.hid (slO_fresh tInt_law P2_2.out c3)
    replace P2_3 := Lib.hid (slO_fresh tInt_law P2_3.out c3)
    replace P2_4 := Lib.hid (slO_fresh tInt_law P2_4.out c3)
    replace d := Lib.hid (d.out.trans (c3.mono d.out.size))
    have Z_v3 := Lib.hid (show v2.heap.size ≤ v3.heap.size from c3.size)
    clear c3
    have p_B0_0 := (cell_of_row v3 _ 0 _ _ _ B0.out).trans (show _ = some (Value.int .i64 a0_0) from rfl)
    have p_B0_1 := (cell_of_row v3 _ 1 _ _ _ B0.out).trans (show _ = some (Value.int .i64 a0_1) from rfl)
    have p_B0_2 := (cell_of_row v3 _ 2 _ _ _ B0.out).trans (show _ = some (Value.slice c0_2 x0_2.length k0_2) from rfl)
    have p_B0_3 := (cell_of_row v3 _ 3 _ _ _ B0.out).trans (show _ = some (Value.slice c0_3 x0_3.length k0_3) from rfl)
    have p_B0_4 := (cell_of_row v3 _ 4 _ _ _ B0.out).trans (show _ = some (Value.slice c0_4 x0_4.length k0_4) from rfl)
    go_wp2_with fail
    clear p_B0_0 p_B0_1 p_B0_2 p_B0_3 p_B0_4
    refine (toCharge_T a0_0 a0_1 (.slice c0_2 x0_2.length k0_2) (.slice c0_3 x0_3.length k0_3) (.slice c0_4 x0_4.length k0_4) x0_2 x0_3 x0_4 v3 (slR_below tInt_law A0_2.out d.out) (slR_below tInt_law A0_3.out d.out) (slR_below tInt_law A0_4.out d.out) S0_2.out S0_3.out S0_4.out).mono ?_
    rintro e v4 ⟨cs, rfl, ow, c4⟩
    replace B0 := Lib.hid ((c4.block w.heap.size (Array.getElem?_eq_some_iff.1 B0.out).1).trans B0.out)
    replace P2_2 := Lib.hid (slO_fresh tInt_law P2_2.out c4)
    replace P2_3 := Lib.hid (slO_fresh tInt_law P2_3.out c4)
    replace P2_4 := Lib.hid (slO_fresh tInt_law P2_4.out c4)
    replace d := Lib.hid (d.out.trans (c4.mono d.out.size))
    have Z_v4 := Lib.hid (show v3.heap.size ≤ v4.heap.size from c4.size)
    clear c4
    replace ow := tCharge_law.lt ow
    obtain ⟨y4_2, y4_3, y4_4, K4_2, K4_3, K4_4, rfl, p4_2, p4_3, p4_4, w4_2, w4_3, w4_4, d4_2_3, d4_2_4, d4_3_4⟩ := tCharge_O ow
    obtain ⟨ya4_2, yc4_2, rfl⟩ := slO_len p4_2
    have P4_2 := Lib.hid p4_2
    have Q4_2 := Lib.hid (fun b h => (show v3.heap.size ≤ b ∧ b < v4.heap.size from w4_2 b h))
    obtain ⟨ya4_3, yc4_3, rfl⟩ := slO_len p4_3
    have P4_3 := Lib.hid p4_3
    have Q4_3 := Lib.hid (fun b h => (show v3.heap.size ≤ b ∧ b < v4.heap.size from w4_3 b h))
    obtain ⟨ya4_4, yc4_4, rfl⟩ := slO_len p4_4
    have P4_4 := Lib.hid p4_4
    have Q4_4 := Lib.hid (fun b h => (show v3.heap.size ≤ b ∧ b < v4.heap.size from w4_4 b h))
    have D4_2_3 := Lib.hid d4_2_3
    clear d4_2_3
    have D4_2_4 := Lib.hid d4_2_4
    clear d4_2_4
    have D4_3_4 := Lib.hid d4_3_4
    clear d4_3_4
    clear p4_2 w4_2 p4_3 w4_3 p4_4 w4_4 ow
    have hal : Below v4.heap.size v4 (v4.alloc (.cells #[.int .i64 a0_0, .int .i64 a0_1, .slice ya4_2 x0_2.length yc4_2, .slice ya4_3 x0_3.length yc4_3, .slice ya4_4 x0_4.length yc4_4] 27)) := (Below.refl _ _).alloc (Nat.le_refl _) _
    have X1 := Lib.hid (heap_alloc_new v4 (.cells #[.int .i64 a0_0, .int .i64 a0_1, .slice ya4_2 x0_2.length yc4_2, .slice ya4_3 x0_3.length yc4_3, .slice ya4_4 x0_4.length yc4_4] 27))
    have Y_X1 := Lib.hid (show v4.heap.size < (v4.alloc (.cells #[.int .i64 a0_0, .int .i64 a0_1, .slice ya4_2 x0_2.length yc4_2, .slice ya4_3 x0_3.length yc4_3, .slice ya4_4 x0_4.length yc4_4] 27)).heap.size by simp [World.size_alloc])
    replace B0 := Lib.hid ((hal.block w.heap.size (Array.getElem?_eq_some_iff.1 B0.out).1).trans B0.out)
    replace P2_2 := Lib.hid (slO_fresh tInt_law P2_2.out hal)
    replace P2_3 := Lib.hid (slO_fresh tInt_law P2_3.out hal)
    replace P2_4 := Lib.hid (slO_fresh tInt_law P2_4.out hal)
    replace P4_2 := Lib.hid (slO_fresh tInt_law P4_2.out hal)
    replace P4_3 := Lib.hid (slO_fresh tInt_law P4_3.out hal)
    replace P4_4 := Lib.hid (slO_fresh tInt_law P4_4.out hal)
    replace d := Lib.hid (d.out.trans (hal.mono d.out.size))
    clear hal
    have p_X1_0 := (cell_of_row (v4.alloc (.cells #[.int .i64 a0_0, .int .i64 a0_1, .slice ya4_2 x0_2.length yc4_2, .slice ya4_3 x0_3.length yc4_3, .slice ya4_4 x0_4.length yc4_4] 27)) _ 0 _ _ _ X1.out).trans (show _ = some (Value.int .i64 a0_0) from rfl)
    have p_X1_1 := (cell_of_row (v4.alloc (.cells #[.int .i64 a0_0, .int .i64 a0_1, .slice ya4_2 x0_2.length yc4_2, .slice ya4_3 x0_3.length yc4_3, .slice ya4_4 x0_4.length yc4_4] 27)) _ 1 _ _ _ X1.out).trans (show _ = some (Value.int .i64 a0_1) from rfl)
    have p_X1_2 := (cell_of_row (v4.alloc (.cells #[.int .i64 a0_0, .int .i64 a0_1, .slice ya4_2 x0_2.length yc4_2, .slice ya4_3 x0_3.length yc4_3, .slice ya4_4 x0_4.length yc4_4] 27)) _ 2 _ _ _ X1.out).trans (show _ = some (Value.slice ya4_2 x0_2.length yc4_2) from rfl)
    have p_X1_3 := (cell_of_row (v4.alloc (.cells #[.int .i64 a0_0, .int .i64 a0_1, .slice ya4_2 x0_2.length yc4_2, .slice ya4_3 x0_3.length yc4_3, .slice ya4_4 x0_4.length yc4_4] 27)) _ 3 _ _ _ X1.out).trans (show _ = some (Value.slice ya4_3 x0_3.length yc4_3) from rfl)
    have p_X1_4 := (cell_of_row (v4.alloc (.cells #[.int .i64 a0_0, .int .i64 a0_1, .slice ya4_2 x0_2.length yc4_2, .slice ya4_3 x0_3.length yc4_3, .slice ya4_4 x0_4.length yc4_4] 27)) _ 4 _ _ _ X1.out).trans (show _ = some (Value.slice ya4_4 x0_4.length yc4_4) from rfl)
    go_wp2_with fail
    clear p_X1_0 p_X1_1 p_X1_2 p_X1_3 p_X1_4
    generalize (v4.alloc (.cells #[.int .i64 a0_0, .int .i64 a0_1, .slice ya4_2 x0_2.length yc4_2, .slice ya4_3 x0_3.length yc4_3, .slice ya4_4 x0_4.length yc4_4] 27)) = u5 at *
    refine (HIM.out (.slice ya4_2 x0_2.length yc4_2) (.slice ya4_3 x0_3.length yc4_3) (.slice ya4_4 x0_4.length yc4_4) u5 (HB0.out.trans (d.out.mono HB0.out.size)) (slO_reads tInt_law P4_2.out) (slO_reads tInt_law P4_3.out) (slO_reads tInt_law P4_4.out) HT.out ).mono ?_
    rintro e v6 ⟨rfl, c6⟩
    replace B0 := Lib.hid ((c6.block w.heap.size (Array.getElem?_eq_some_iff.1 B0.out).1).trans B0.out)
    replace X1 := Lib.hid ((c6.block v4.heap.size (Array.getElem?_eq_some_iff.1 X1.out).1).trans X1.out)
    replace P2_2 := Lib.hid (slO_fresh tInt_law P2_2.out c6)
    replace P2_3 := Lib.hid (slO_fresh tInt_law P2_3.out c6)
    replace P2_4 := Lib.hid (slO_fresh tInt_law P2_4.out c6)
    replace P4_2 := Lib.hid (slO_fresh tInt_law P4_2.out c6)
    replace P4_3 := Lib.hid (slO_fresh tInt_law P4_3.out c6)
    replace P4_4 := Lib.hid (slO_fresh tInt_law P4_4.out c6)
    replace d := Lib.hid (d.out.trans (c6.mono d.out.size))
    have Z_v6 := Lib.hid (show u5.heap.size ≤ v6.heap.size from c6.size)
    clear c6
    go_wp2
    have p_B0_0 := (cell_of_row v6 _ 0 _ _ _ B0.out).trans (show _ = some (Value.int .i64 a0_0) from rfl)
    have p_B0_1 := (cell_of_row v6 _ 1 _ _ _ B0.out).trans (show _ = some (Value.int .i64 a0_1) from rfl)
    have p_B0_2 := (cell_of_row v6 _ 2 _ _ _ B0.out).trans (show _ = some (Value.slice c0_2 x0_2.length k0_2) from rfl)
    have p_B0_3 := (cell_of_row v6 _ 3 _ _ _ B0.out).trans (show _ = some (Value.slice c0_3 x0_3.length k0_3) from rfl)
    have p_B0_4 := (cell_of_row v6 _ 4 _ _ _ B0.out).trans (show _ = some (Value.slice c0_4 x0_4.length k0_4) from rfl)
    have p_X1_0 := (cell_of_row v6 _ 0 _ _ _ X1.out).trans (show _ = some (Value.int .i64 a0_0) from rfl)
    have p_X1_1 := (cell_of_row v6 _ 1 _ _ _ X1.out).trans (show _ = some (Value.int .i64 a0_1) from rfl)
    have p_X1_2 := (cell_of_row v6 _ 2 _ _ _ X1.out).trans (show _ = some (Value.slice ya4_2 x0_2.length yc4_2) from rfl)
    have p_X1_3 := (cell_of_row v6 _ 3 _ _ _ X1.out).trans (show _ = some (Value.slice ya4_3 x0_3.length yc4_3) from rfl)
    have p_X1_4 := (cell_of_row v6 _ 4 _ _ _ X1.out).trans (show _ = some (Value.slice ya4_4 x0_4.length yc4_4) from rfl)
    refine wp_region_held_drew (S := fun w' => w'.cell? ⟨w.heap.size, 0, none⟩ = some (Value.int .i64 a0_0) ∧ w'.cell? ⟨w.heap.size, 1, none⟩ = some (Value.int .i64 a0_1) ∧ w'.cell? ⟨w.heap.size, 2, none⟩ = some (Value.slice c0_2 x0_2.length k0_2) ∧ w'.cell? ⟨w.heap.size, 3, none⟩ = some (Value.slice c0_3 x0_3.length k0_3) ∧ w'.cell? ⟨w.heap.size, 4, none⟩ = some (Value.slice c0_4 x0_4.length k0_4) ∧ w'.cell? ⟨v4.heap.size, 0, none⟩ = some (Value.int .i64 a0_0) ∧ w'.cell? ⟨v4.heap.size, 1, none⟩ = some (Value.int .i64 a0_1) ∧ w'.cell? ⟨v4.heap.size, 2, none⟩ = some (Value.slice ya4_2 x0_2.length yc4_2) ∧ w'.cell? ⟨v4.heap.size, 3, none⟩ = some (Value.slice ya4_3 x0_3.length yc4_3) ∧ w'.cell? ⟨v4.heap.size, 4, none⟩ = some (Value.slice ya4_4 x0_4.length yc4_4)) (by kernel_rfl) ⟨p_B0_0, p_B0_1, p_B0_2, p_B0_3, p_B0_4, p_X1_0, p_X1_1, p_X1_2, p_X1_3, p_X1_4⟩ (fun hHeld => ?_)
    clear p_B0_0 p_B0_1 p_B0_2 p_B0_3 p_B0_4 p_X1_0 p_X1_1 p_X1_2 p_X1_3 p_X1_4
    have cd7 : Below v6.heap.size v6 v6.drew := below_drew (Below.refl _ _)
    replace B0 := Lib.hid ((cd7.block w.heap.size (Array.getElem?_eq_some_iff.1 B0.out).1).trans B0.out)
    replace X1 := Lib.hid ((cd7.block v4.heap.size (Array.getElem?_eq_some_iff.1 X1.out).1).trans X1.out)
    replace P2_2 := Lib.hid (slO_fresh tInt_law P2_2.out cd7)
    replace P2_3 := Lib.hid (slO_fresh tInt_law P2_3.out cd7)
    replace P2_4 := Lib.hid (slO_fresh tInt_law P2_4.out cd7)
    replace P4_2 := Lib.hid (slO_fresh tInt_law P4_2.out cd7)
    replace P4_3 := Lib.hid (slO_fresh tInt_law P4_3.out cd7)
    replace P4_4 := Lib.hid (slO_fresh tInt_law P4_4.out cd7)
    replace d := Lib.hid (d.out.trans (cd7.mono d.out.size))
    clear cd7
    refine take_runs (i := 0) (v := ?_) (by simp only [List.getElem?_toArray, List.getElem?_cons_succ, List.getElem?_cons_zero]; rfl) (by kernel_rfl) (by kernel_rfl) (by kernel_rfl) rfl (by exact fun _ _ _ h => h) (by rfl) ?_ (by assumption) ?_
    rotate_left
    · intro w hSw; (try dsimp only at hSw); go_simp; try (with_reducible rfl)
    try simp only [Act.put, List.setIfInBounds_toArray, List.set_cons_zero, List.set_cons_succ]
    refine take_runs (i := 1) (v := ?_) (by simp only [List.getElem?_toArray, List.getElem?_cons_succ, List.getElem?_cons_zero]; rfl) (by kernel_rfl) (by kernel_rfl) (by kernel_rfl) rfl (by exact fun _ _ _ h => h) (by rfl) ?_ (by assumption) ?_
    rotate_left
    · intro w hSw; (try dsimp only at hSw); go_simp; try (with_reducible rfl)
    try simp only [Act.put, List.setIfInBounds_toArray, List.set_cons_zero, List.set_cons_succ]
    refine wpAnyH_ready (rs := [2]) (by kernel_rfl) (by simp) ?_
    refine AllReadyH.cons (o := _) (by simp only [List.getElem?_toArray, List.getElem?_cons_succ, List.getElem?_cons_zero]; rfl) (fun K hK => ?_) AllReadyH.nil
    go_simp
    refine (toCharge_T a0_0 a0_1 (.slice c0_2 x0_2.length k0_2) (.slice c0_3 x0_3.length k0_3) (.slice c0_4 x0_4.length k0_4) x0_2 x0_3 x0_4 (v6.drew) (slR_below tInt_law A0_2.out d.out) (slR_below tInt_law A0_3.out d.out) (slR_below tInt_law A0_4.out d.out) S0_2.out S0_3.out S0_4.out).mono ?_
    rintro e v8 ⟨cs, rfl, ow, c8⟩
    replace B0 := Lib.hid ((c8.block w.heap.size (Array.getElem?_eq_some_iff.1 B0.out).1).trans B0.out)
    replace X1 := Lib.hid ((c8.block v4.heap.size (Array.getElem?_eq_some_iff.1 X1.out).1).trans X1.out)
    replace P2_2 := Lib.hid (slO_fresh tInt_law P2_2.out c8)
    replace P2_3 := Lib.hid (slO_fresh tInt_law P2_3.out c8)
    replace P2_4 := Lib.hid (slO_fresh tInt_law P2_4.out c8)
    replace P4_2 := Lib.hid (slO_fresh tInt_law P4_2.out c8)
    replace P4_3 := Lib.hid (slO_fresh tInt_law P4_3.out c8)
    replace P4_4 := Lib.hid (slO_fresh tInt_law P4_4.out c8)
    replace d := Lib.hid (d.out.trans (c8.mono d.out.size))
    have Z_v8 := Lib.hid (show v6.heap.size ≤ v8.heap.size from c8.size)
    clear c8
    replace ow := tCharge_law.lt ow
    obtain ⟨y8_2, y8_3, y8_4, K8_2, K8_3, K8_4, rfl, p8_2, p8_3, p8_4, w8_2, w8_3, w8_4, d8_2_3, d8_2_4, d8_3_4⟩ := tCharge_O ow
    obtain ⟨ya8_2, yc8_2, rfl⟩ := slO_len p8_2
    have P8_2 := Lib.hid p8_2
    have Q8_2 := Lib.hid (fun b h => (show (v6.drew).heap.size ≤ b ∧ b < v8.heap.size from w8_2 b h))
    obtain ⟨ya8_3, yc8_3, rfl⟩ := slO_len p8_3
    have P8_3 := Lib.hid p8_3
    have Q8_3 := Lib.hid (fun b h => (show (v6.drew).heap.size ≤ b ∧ b < v8.heap.size from w8_3 b h))
    obtain ⟨ya8_4, yc8_4, rfl⟩ := slO_len p8_4
    have P8_4 := Lib.hid p8_4
    have Q8_4 := Lib.hid (fun b h => (show (v6.drew).heap.size ≤ b ∧ b < v8.heap.size from w8_4 b h))
    have D8_2_3 := Lib.hid d8_2_3
    clear d8_2_3
    have D8_2_4 := Lib.hid d8_2_4
    clear d8_2_4
    have D8_3_4 := Lib.hid d8_3_4
    clear d8_3_4
    clear p8_2 w8_2 p8_3 w8_3 p8_4 w8_4 ow
    have p_B0_0 := (cell_of_row v8 _ 0 _ _ _ B0.out).trans (show _ = some (Value.int .i64 a0_0) from rfl)
    have p_B0_1 := (cell_of_row v8 _ 1 _ _ _ B0.out).trans (show _ = some (Value.int .i64 a0_1) from rfl)
    have p_B0_2 := (cell_of_row v8 _ 2 _ _ _ B0.out).trans (show _ = some (Value.slice c0_2 x0_2.length k0_2) from rfl)
    have p_B0_3 := (cell_of_row v8 _ 3 _ _ _ B0.out).trans (show _ = some (Value.slice c0_3 x0_3.length k0_3) from rfl)
    have p_B0_4 := (cell_of_row v8 _ 4 _ _ _ B0.out).trans (show _ = some (Value.slice c0_4 x0_4.length k0_4) from rfl)
    have p_X1_0 := (cell_of_row v8 _ 0 _ _ _ X1.out).trans (show _ = some (Value.int .i64 a0_0) from rfl)
    have p_X1_1 := (cell_of_row v8 _ 1 _ _ _ X1.out).trans (show _ = some (Value.int .i64 a0_1) from rfl)
    have p_X1_2 := (cell_of_row v8 _ 2 _ _ _ X1.out).trans (show _ = some (Value.slice ya4_2 x0_2.length yc4_2) from rfl)
    have p_X1_3 := (cell_of_row v8 _ 3 _ _ _ X1.out).trans (show _ = some (Value.slice ya4_3 x0_3.length yc4_3) from rfl)
    have p_X1_4 := (cell_of_row v8 _ 4 _ _ _ X1.out).trans (show _ = some (Value.slice ya4_4 x0_4.length yc4_4) from rfl)
    refine hK.out _ _ ⟨p_B0_0, p_B0_1, p_B0_2, p_B0_3, p_B0_4, p_X1_0, p_X1_1, p_X1_2, p_X1_3, p_X1_4⟩ (fun hHeld => ?_)
    clear p_B0_0 p_B0_1 p_B0_2 p_B0_3 p_B0_4 p_X1_0 p_X1_1 p_X1_2 p_X1_3 p_X1_4
    clear hK K
    try simp only [Act.put, List.setIfInBounds_toArray, List.set_cons_zero, List.set_cons_succ]
    refine wpAnyH_ready (rs := [3]) (by kernel_rfl) (by simp) ?_
    refine AllReadyH.cons (o := _) (by simp only [List.getElem?_toArray, List.getElem?_cons_succ, List.getElem?_cons_zero]; rfl) (fun K hK => ?_) AllReadyH.nil
    go_simp
    refine (eqCharge_T a0_0 a0_1 (.slice ya4_2 x0_2.length yc4_2) (.slice ya4_3 x0_3.length yc4_3) (.slice ya4_4 x0_4.length yc4_4) x0_2 x0_3 x0_4 (.slice ya8_2 x0_2.length yc8_2) (.slice ya8_3 x0_3.length yc8_3) (.slice ya8_4 x0_4.length yc8_4) v8 (slO_reads tInt_law P4_2.out) (slO_reads tInt_law P4_3.out) (slO_reads tInt_law P4_4.out) (slO_reads tInt_law P8_2.out) (slO_reads tInt_law P8_3.out) (slO_reads tInt_law P8_4.out) S0_2.out S0_3.out S0_4.out).mono ?_
    rintro e v9 ⟨rfl, c9⟩
    replace B0 := Lib.hid ((c9.block w.heap.size (Array.getElem?_eq_some_iff.1 B0.out).1).trans B0.out)
    replace X1 := Lib.hid ((c9.block v4.heap.size (Array.getElem?_eq_some_iff.1 X1.out).1).trans X1.out)
    replace P2_2 := Lib.hid (slO_fresh tInt_law P2_2.out c9)
    replace P2_3 := Lib.hid (slO_fresh tInt_law P2_3.out c9)
    replace P2_4 := Lib.hid (slO_fresh tInt_law P2_4.out c9)
    replace P4_2 := Lib.hid (slO_fresh tInt_law P4_2.out c9)
    replace P4_3 := Lib.hid (slO_fresh tInt_law P4_3.out c9)
    replace P4_4 := Lib.hid (slO_fresh tInt_law P4_4.out c9)
    replace P8_2 := Lib.hid (slO_fresh tInt_law P8_2.out c9)
    replace P8_3 := Lib.hid (slO_fresh tInt_law P8_3.out c9)
    replace P8_4 := Lib.hid (slO_fresh tInt_law P8_4.out c9)
    replace d := Lib.hid (d.out.trans (c9.mono d.out.size))
    have Z_v9 := Lib.hid (show v8.heap.size ≤ v9.heap.size from c9.size)
    clear c9
    clear P8_2 P8_3 P8_4
    have p_B0_0 := (cell_of_row v9 _ 0 _ _ _ B0.out).trans (show _ = some (Value.int .i64 a0_0) from rfl)
    have p_B0_1 := (cell_of_row v9 _ 1 _ _ _ B0.out).trans (show _ = some (Value.int .i64 a0_1) from rfl)
    have p_B0_2 := (cell_of_row v9 _ 2 _ _ _ B0.out).trans (show _ = some (Value.slice c0_2 x0_2.length k0_2) from rfl)
    have p_B0_3 := (cell_of_row v9 _ 3 _ _ _ B0.out).trans (show _ = some (Value.slice c0_3 x0_3.length k0_3) from rfl)
    have p_B0_4 := (cell_of_row v9 _ 4 _ _ _ B0.out).trans (show _ = some (Value.slice c0_4 x0_4.length k0_4) from rfl)
    have p_X1_0 := (cell_of_row v9 _ 0 _ _ _ X1.out).trans (show _ = some (Value.int .i64 a0_0) from rfl)
    have p_X1_1 := (cell_of_row v9 _ 1 _ _ _ X1.out).trans (show _ = some (Value.int .i64 a0_1) from rfl)
    have p_X1_2 := (cell_of_row v9 _ 2 _ _ _ X1.out).trans (show _ = some (Value.slice ya4_2 x0_2.length yc4_2) from rfl)
    have p_X1_3 := (cell_of_row v9 _ 3 _ _ _ X1.out).trans (show _ = some (Value.slice ya4_3 x0_3.length yc4_3) from rfl)
    have p_X1_4 := (cell_of_row v9 _ 4 _ _ _ X1.out).trans (show _ = some (Value.slice ya4_4 x0_4.length yc4_4) from rfl)
    refine hK.out _ _ ⟨p_B0_0, p_B0_1, p_B0_2, p_B0_3, p_B0_4, p_X1_0, p_X1_1, p_X1_2, p_X1_3, p_X1_4⟩ (fun hHeld => ?_)
    clear p_B0_0 p_B0_1 p_B0_2 p_B0_3 p_B0_4 p_X1_0 p_X1_1 p_X1_2 p_X1_3 p_X1_4
    clear hK K
    try simp only [Act.put, List.setIfInBounds_toArray, List.set_cons_zero, List.set_cons_succ]
    refine take_runs (i := 4) (v := ?_) (by simp only [List.getElem?_toArray, List.getElem?_cons_succ, List.getElem?_cons_zero]; rfl) (by kernel_rfl) (by kernel_rfl) (by kernel_rfl) rfl (by exact fun _ _ _ h => h) (by rfl) ?_ (by assumption) ?_
    rotate_left
    · intro w hSw; (try dsimp only at hSw); go_simp; try (with_reducible rfl)
    try simp only [Act.put, List.setIfInBounds_toArray, List.set_cons_zero, List.set_cons_succ]
    refine wpAnyH_done (by kernel_rfl) ?_ _
    clear hHeld
    go_wp2
    go_ret
    exact ⟨rfl, HB0.out.trans (d.out.mono HB0.out.size)⟩
  ·
    have HZ0 : Hid ((1048576 : Int) < ((zL tInt x0_2 + zL tInt x0_3 + zL tInt x0_4 : Nat) : Int)) := Lib.hid (by omega)
    have HP0 : Hid (0 ≤ (1048576 : Int)) := Lib.hid (by omega)
    have HK0 : Hid ((1048576 : Int) ≤ 1048576) := Lib.hid (by omega)
    clear c0
    go_enter Tryd.func3, Tryd.ntmps3
    go_wp2_with fail
    have Y_W : Hid (w.heap.size + 1 ≤ (w.alloc (.cells #[.int .i64 a0_0, .int .i64 a0_1, .slice c0_2 x0_2.length k0_2, .slice c0_3 x0_3.length k0_3, .slice c0_4 x0_4.length k0_4] 24)).heap.size) := Lib.hid (by simp [World.size_alloc])
    generalize (w.alloc (.cells #[.int .i64 a0_0, .int .i64 a0_1, .slice c0_2 x0_2.length k0_2, .slice c0_3 x0_3.length k0_3, .slice c0_4 x0_4.length k0_4] 24)) = W at *
    have d := Lib.hid (Below.refl W.heap.size W)
    refine (szCharge_N a0_0 a0_1 (.slice c0_2 x0_2.length k0_2) (.slice c0_3 x0_3.length k0_3) (.slice c0_4 x0_4.length k0_4) x0_2 x0_3 x0_4 ((1048576 : Int)) W (slR_below tInt_law A0_2.out d.out) (slR_below tInt_law A0_3.out d.out) (slR_below tInt_law A0_4.out d.out) HZ0.out HK0.out HP0.out O0_2.out O0_3.out O0_4.out).mono ?_
    rintro e v1 ⟨rfl, c1⟩
    replace B0 := Lib.hid ((c1.block w.heap.size (Array.getElem?_eq_some_iff.1 B0.out).1).trans B0.out)
    replace d := Lib.hid (d.out.trans (c1.mono d.out.size))
    have Z_v1 := Lib.hid (show W.heap.size ≤ v1.heap.size from c1.size)
    clear c1
    go_wp2
    go_ret
    exact ⟨rfl, HB0.out.trans (d.out.mono HB0.out.size)⟩
end Go.Proofs.YtjapbmaibgplkaaDoor
namespace Go.Proofs.YtjapbmaibgplkaaDoor
open Go.ChangeShapes Go.WideShapes Go.ChangeAt Go.WideMaps Go.WideElems Go.RowKit
set_option linter.unusedVariables false
theorem laidOutP : laidOutB Tryd.prog = true := by kernel_rfl
end Go.Proofs.YtjapbmaibgplkaaDoor
namespace Go.Proofs.YtjapbmaibgplkaaDoor
open Go.ChangeShapes Go.WideShapes Go.ChangeAt Go.WideMaps Go.WideElems Go.RowKit
set_option linter.unusedVariables false
/-- Cells that the statement reads as a value of the type t are a datum of the kind T. -/
def Opn {α : Type} (T : Ty α) (t : TypeId) : Prop := ∀ {H : Type} {enc : TypeId × Value → H} {W : World} {held : Bool} {fuel : Nat} {cs : List Value} {x : DataW H × List MemPlace}, DataW.trod enc Tryd.prog W 0 (fun _ => true) held fuel t cs = some x → ∃ d, T.R W cs d ∧ T.ok d
theorem opn_int : Opn tInt 3 := by
  intro H enc W held fuel cs x h
  obtain ⟨a, e, _, _⟩ := DataW.trod_int Tryd.underlying3 h
  exact ⟨a, e, trivial⟩
theorem opn_cast {α : Type} {T : Ty α} {t : TypeId} (O : Opn T t) {H : Type} {enc : TypeId × Value → H} {W : World} {held : Bool} {fuel : Nat} {cs : List Value} {o k : Nat} {x : Option (DataW H × List MemPlace)} (hx : x.isSome) (h : DataW.trod enc Tryd.prog W 0 (fun _ => true) held fuel t ((cs.drop o).take k) = x) :
    ∃ d, T.R W ((cs.drop o).take k) d ∧ T.ok d := by
  cases x with
  | none => cases hx
  | some y => exact O h
set_option maxRecDepth 100000 in
theorem opn_slice {α : Type} {T : Ty α} (A : T.Law) {e t : TypeId} (e' : TypeId) (O : Opn T e) (hu : Tryd.prog.underlying t = some (.slice e)) (hC : Tryd.prog.cellsOf e = T.n) : Opn (tSl e' T) t := by
  intro H enc W held fuel cs x hf
  rcases Go.Deep.open_slice hu hf with ⟨rfl, _⟩ | ⟨a', len', cap', m, n, D, Pl, rfl, _, hl, hm, hmm, _, hx⟩
  · exact ⟨[], ⟨_, rfl, Or.inl ⟨rfl, none, 0, rfl⟩⟩, by simp, fun j hj => by simp at hj⟩
  · rw [if_pos rfl] at hmm
    subst hmm
    unfold maxLen at hm
    rw [hC] at hx
    have hpos := A.pos
    haveI : Inhabited α := ⟨T.d⟩
    obtain ⟨f, hf'⟩ := Go.Deep.choose_lt (α := α × List Value) (n := len') (p := fun i q => (∀ j, j < T.n → W.cell? ((a'.add (i * T.n)).add j) = q.2[j]?) ∧ T.R W q.2 q.1 ∧ T.ok q.1) (fun i hi => by
      obtain ⟨cs', h1, h2⟩ := hx i (by omega)
      obtain ⟨_, hlen, hc⟩ := World.cells?_some h1
      obtain ⟨d, hd, ho⟩ := O h2
      exact ⟨(d, cs'), hc, hd, ho⟩)
    have hat : ∀ j, j < len' → ((List.range len').map fun i => (f i).1).getD j T.d = (f j).1 := fun j hj => by simp [List.getD, hj]
    have hlen : ((List.range len').map fun i => (f i).1).length = len' := by simp
    refine ⟨(List.range len').map fun i => (f i).1, ⟨_, rfl, ?_⟩, by rw [hlen]; omega, fun j hj => by rw [hlen] at hj; rw [hat j hj]; exact (hf' j hj).2.2⟩
    by_cases h0 : len' = 0
    · subst h0
      exact Or.inl ⟨rfl, some a', _, rfl⟩
    · have h1 := (hf' 0 (by omega)).1 0 hpos
      have hcl : 0 < (f 0).2.length := by rw [A.len (hf' 0 (by omega)).2.1]; exact hpos
      rw [List.getElem?_eq_getElem hcl] at h1
      obtain ⟨b, off, spot⟩ := a'
      have hspot : spot = none := by simpa [Addr.add] using World.cell?_spot h1
      subst hspot
      refine Or.inr ⟨b, off, _, fun i => (f i).2, by rw [hlen], by rw [hlen]; exact hl, ?_, ?_⟩
      · have := World.block_lt_of_cell? W _ h1
        simpa [Addr.add] using this
      · intro j hj
        rw [hlen] at hj
        obtain ⟨g1, g2, _⟩ := hf' j hj
        rw [hat j hj]
        refine ⟨fun i hi => ?_, g2⟩
        have := g1 i hi
        rw [Go.WideShapes.add_plain, Go.WideShapes.add_plain] at this
        exact this
theorem opn_ints (e' : TypeId) : Opn (tSl e' tInt) 22 := opn_slice tInt_law e' opn_int Tryd.underlying22 (by kernel_rfl)
set_option maxRecDepth 100000 in
/-- A struct as an argument. -/
theorem stA_open {α : Type} {T : Ty α} {t : TypeId} {fs : Array Field} (O : Opn T t) (hu : Tryd.prog.underlying t = some (.struct fs)) {H : Type} {enc : TypeId × Value → H} {W : World} {r : Reach} {b0 : Nat} {v : Value} {d : DataW H} {p : List MemPlace}
    (hval : Value.okWide Tryd.prog W r b0 t v) (h : DataW.Trod enc Tryd.prog W 0 (fun _ => true) true t v d p) : ∃ cs x, v = .agg cs.toArray ∧ T.R W cs x ∧ T.ok x := by
  obtain ⟨⟨cs⟩, rfl, hsz⟩ := okWide_struct hu hval
  obtain ⟨fuel, hf⟩ := h
  obtain ⟨x, h, ho⟩ := O hf
  exact ⟨cs, x, rfl, h, ho⟩
end Go.Proofs.YtjapbmaibgplkaaDoor
namespace Go.Proofs.YtjapbmaibgplkaaDoor
open Go.ChangeShapes Go.WideShapes Go.ChangeAt Go.WideMaps Go.WideElems Go.RowKit
set_option linter.unusedVariables false
theorem recT_Charge : Tryd.prog.readableRec 24 = true := by kernel_rfl
theorem rowT_Charge : 24 < Tryd.prog.types.size := of_decide_eq_true (by kernel_rfl)
set_option maxRecDepth 100000 in
theorem opn_Charge : Opn tCharge 24 := by
  intro H enc W held fuel cs x h
  obtain ⟨xs, n, _, _, hl, hlen, hf⟩ := DataW.trod_struct Tryd.underlying24 h
  have hl2 : cs.length = 5 := hl.trans (by kernel_rfl)
  have hn : xs.length = 5 := hlen
  have f0 : DataW.trod enc Tryd.prog W 0 (fun _ => true) held n 3 ((cs.drop 0).take (Tryd.prog.cellsOf 3)) = xs[0]? := hf 0 _ rfl
  rw [show Tryd.prog.cellsOf 3 = 1 from by kernel_rfl] at f0
  obtain ⟨d0, r0, o0⟩ := opn_cast (opn_int) (by rw [List.getElem?_eq_getElem (by omega)]; rfl) f0
  have f1 : DataW.trod enc Tryd.prog W 0 (fun _ => true) held n 3 ((cs.drop 1).take (Tryd.prog.cellsOf 3)) = xs[1]? := hf 1 _ rfl
  rw [show Tryd.prog.cellsOf 3 = 1 from by kernel_rfl] at f1
  obtain ⟨d1, r1, o1⟩ := opn_cast (opn_int) (by rw [List.getElem?_eq_getElem (by omega)]; rfl) f1
  have f2 : DataW.trod enc Tryd.prog W 0 (fun _ => true) held n 22 ((cs.drop 2).take (Tryd.prog.cellsOf 22)) = xs[2]? := hf 2 _ rfl
  rw [show Tryd.prog.cellsOf 22 = 1 from by kernel_rfl] at f2
  obtain ⟨d2, r2, o2⟩ := opn_cast (opn_ints 3) (by rw [List.getElem?_eq_getElem (by omega)]; rfl) f2
  have f3 : DataW.trod enc Tryd.prog W 0 (fun _ => true) held n 22 ((cs.drop 3).take (Tryd.prog.cellsOf 22)) = xs[3]? := hf 3 _ rfl
  rw [show Tryd.prog.cellsOf 22 = 1 from by kernel_rfl] at f3
  obtain ⟨d3, r3, o3⟩ := opn_cast (opn_ints 3) (by rw [List.getElem?_eq_getElem (by omega)]; rfl) f3
  have f4 : DataW.trod enc Tryd.prog W 0 (fun _ => true) held n 22 ((cs.drop 4).take (Tryd.prog.cellsOf 22)) = xs[4]? := hf 4 _ rfl
  rw [show Tryd.prog.cellsOf 22 = 1 from by kernel_rfl] at f4
  obtain ⟨d4, r4, o4⟩ := opn_cast (opn_ints 3) (by rw [List.getElem?_eq_getElem (by omega)]; rfl) f4
  exact ⟨(d0, d1, d2, d3, d4), ⟨(cs.drop 0).take 1, cs.drop 1, (List.take_append_drop 1 cs).symm, r0, ⟨(cs.drop 1).take 1, cs.drop 2, (List.take_append_drop 1 (cs.drop 1)).symm.trans (by simp), r1, ⟨(cs.drop 2).take 1, cs.drop 3, (List.take_append_drop 1 (cs.drop 2)).symm.trans (by simp), r2, ⟨(cs.drop 3).take 1, cs.drop 4, (List.take_append_drop 1 (cs.drop 3)).symm.trans (by simp), r3, (by have e := List.take_of_length_le (l := cs.drop 4) (i := 1) (by rw [List.length_drop]; omega); rw [e] at r4; exact r4)⟩⟩⟩⟩, ⟨o0, ⟨o1, ⟨o2, ⟨o3, o4⟩⟩⟩⟩⟩
set_option maxRecDepth 100000 in
theorem shut_Charge {H : Type} {enc : TypeId × Value → H} {W W' : World} {v : Value} {d : DataW H} {ps : List MemPlace} (h : DataW.Trod enc Tryd.prog W 0 (fun _ => true) true 24 v d ps) (hb : Below W.heap.size W W') (hlt : ∀ x ∈ ps, x.block < W.heap.size) :
    DataW.Trod enc Tryd.prog W' 0 (fun b => decide (b < W.heap.size)) true 24 v d ps := Below.trod laidOutP recT_Charge rowT_Charge h hb hlt
end Go.Proofs.YtjapbmaibgplkaaDoor
