/-
  The program's FormatQuery: it returns the text 'fmtQ'.
-/
import Derived.Test.YteelgogfpidcdaaDoorQueryProgM
import Derived.Test.YteelgogfpidcdaaDoorQueryChk
import Derived.Test.YteelgogfpidcdaaDoorAppStrs
import Derived.Test.YteelgogfpidcdaaDoorRangeP
namespace Go.Proofs.YteelgogfpidcdaaDoor
open Go.RowKit
set_option linter.unusedVariables false
set_option linter.unusedSimpArgs false
/-- The text of one number. -/
def txt (n : Int) : ByteArray := strB (Lib.itoa n)
theorem texts_step (xs : List Int) (k : Nat) (h : k < xs.length) : ((xs.take k).map txt ++ List.replicate (xs.length - k) (⟨#[]⟩ : ByteArray)).set k (txt (xs.getD k 0)) = (xs.take (k + 1)).map txt ++ List.replicate (xs.length - (k + 1)) (⟨#[]⟩ : ByteArray) := by
  have hk : ((xs.take k).map txt).length = k := by rw [List.length_map, List.length_take]; omega
  rw [List.set_append_right _ _ (by omega), hk, Nat.sub_self, show xs.length - k = (xs.length - (k + 1)) + 1 by omega, List.replicate_succ, List.set_cons_zero, List.take_succ_eq_append_getElem h, List.map_append, List.append_assoc]
  simp [List.getD, h]
theorem join_few {xs : List Int} (h1 : 1 ≤ xs.length) (h3 : xs.length ≤ 3) : Lib.join ((xs.map txt).map (·.data.toList)) (⟨#[44]⟩ : ByteArray).data.toList = listTo xs xs.length := by
  match xs, h1, h3 with
  | [a], _, _ => simp [txt, strB, listTo, Lib.join, List.intercalate]
  | [a, b], _, _ => simp [txt, strB, listTo, Lib.join, List.intercalate]
  | [a, b, c], _, _ => simp [txt, strB, listTo, Lib.join, List.intercalate]
theorem join_glue (b : UInt8) : ∀ ps : List (List UInt8), Lib.join ps [b] = glueL b ps
  | [] => rfl
  | [p] => by simp [Lib.join, List.intercalate, glueL]
  | p :: q :: r => by
    rw [glueL_cons b p (by simp), ← join_glue b (q :: r), Lib.join_cons, Lib.join_cons]
    simp [Lib.joinTail]
theorem fmtP (n : Int) (w : World) (h0 : 0 ≤ n) (h1 : n ≤ 999) (hT : Tab w) : Calls Tryd.prog 56 #[.int .i64 n] w fun e w' => e = .returned (.string (txt n)) ∧ Below w.heap.size w w' := implFmt n w (by omega) (by omega) hT
theorem fmtR (n : Int) (w : World) (h0 : 0 ≤ n) (h1 : n ≤ 999) (hT : Tab w) : Calls Tryd.prog 56 #[.int .i64 n] w fun e w' => e = .returned (.string (strB (Lib.itoa n))) ∧ Below w.heap.size w w' := implFmt n w (by omega) (by omega) hT
set_option maxHeartbeats 8000000 in
set_option maxRecDepth 100000 in
theorem joinInts_few (v : Value) (xs : List Int) (w : World) (h : Ints w v xs) (hl1 : 1 ≤ xs.length) (hl : xs.length ≤ 3) (hr : ∀ j, j < xs.length → 0 ≤ xs.getD j 0 ∧ xs.getD j 0 ≤ 999) (hT : Tab w) (ht : (listTo xs xs.length).length ≤ 1000) :
    Calls Tryd.prog 58 #[v] w fun e w' => e = .returned (.string (strB (listTo xs xs.length))) ∧ Below w.heap.size w w' := by
  obtain ⟨i0, hi, hz0, hz1, hz2⟩ := info_parts Tryd.infoStr
  have HI := Lib.hid hi; have HZ0 := Lib.hid hz0; have HZ1 := Lib.hid hz1; have HZ2 := Lib.hid hz2
  clear hi hz0 hz1 hz2
  have H := Lib.hid h
  have HR := Lib.hid hr
  have HT := Lib.hid hT
  have HL := Lib.hid hl
  have HJ0 := Lib.hid (join_few hl1 hl)
  have HTL := Lib.hid ht
  obtain ⟨t, htx⟩ : ∃ t, listTo xs xs.length = t := ⟨_, rfl⟩
  rw [htx] at HJ0 HTL ⊢
  clear htx
  obtain ⟨a, cap, rfl⟩ := ints_len h
  clear h hr hT hl hl1 ht
  go_enter Tryd.func58, Tryd.ntmps58
  go_wp2_with (at_make; refine wpList_make_full _ rfl (.tmp 7) (.tmp 7) 65 rfl w.heap.size 9 i0 (.string ⟨#[]⟩) 1 Tryd.underlying65 HI.out HZ0.out HZ1.out _ _ _ _ xs.length rfl rfl rfl rfl (by rw [HZ2.out]; have := HL.out; omega) (by have := HL.out; unfold maxLen; omega) (Nat.le_refl _) ?_)
  intro w1 hown0 hg0
  have hown1 := ownsS_made (by simpa using hown0)
  have hbel1 := (Below.refl w.heap.size w).grown hg0 (Nat.le_refl _) (fun k hk => by cases hk)
  clear hown0 hg0
  go_wp2
  go_loopw [11] (fun i wr => ∃ k : Nat, k ≤ xs.length ∧ i = .int .i64 k ∧ OwnsS wr w.heap.size (.slice (some ⟨w.heap.size, 0, none⟩) xs.length xs.length) ((xs.take k).map txt ++ List.replicate (xs.length - k) (⟨#[]⟩ : ByteArray)) ∧ Below w.heap.size w wr) (fun i _ => xs.length - (intOf i).toNat)
  case atStart => exact ⟨0, Nat.zero_le _, rfl, by simpa using hown1, hbel1⟩
  case round =>
    obtain ⟨k, hk, rfl, hown, hbel⟩ := hrel
    clear hown1 hbel1
    by_cases hlt : k < xs.length
    · obtain ⟨b, off, cap', hv, hbl, hc⟩ := ints_cell H.out (by omega)
      simp only [Value.slice.injEq] at hv
      obtain ⟨rfl, _, rfl⟩ := hv
      have hcell := (hbel.cell (p := ⟨b, off + k, none⟩) hbl).trans (hc k hlt)
      have i1 : (0 : Int) ≤ (k : Int) := by omega
      have i2 : (k : Int) < (xs.length : Int) := by omega
      have i3 : k < 4 := by have := HL.out; omega
      have hx := HR.out k hlt
      have HSET := Lib.hid (texts_step xs k hlt)
      have HF := Lib.hid (fun w h => fmtP (xs.getD k 0) w hx.1 hx.2 h)
      have HLL : Hid (((xs.take k).map txt ++ List.replicate (xs.length - k) (⟨#[]⟩ : ByteArray)).length = xs.length) := Lib.hid (by simp; omega)
      clear hc hx
      generalize xs.getD k 0 = x at *
      generalize txt x = tx at *
      generalize (xs.take k).map txt ++ List.replicate (xs.length - k) (⟨#[]⟩ : ByteArray) = us at *
      go_wp2_with fail
      refine (HF.out _ (HT.out.on hbel)).mono ?_
      rintro e w2 ⟨rfl, b2⟩
      have ho := ownsS_below hown b2
      have hst := Lib.hid (ownsS_store ho k tx)
      rw [HSET.out] at hst
      have b3 := hbel.trans (b2.mono hbel.size)
      have B3 := b3.setCell (p := ⟨w.heap.size, k, none⟩) (Nat.le_refl _) (.string tx)
      obtain ⟨q0, q1⟩ : (∃ x, w2.cell? ⟨w.heap.size, k, none⟩ = some x) ∧ w2.frozen? ⟨w.heap.size, k, none⟩ = false :=
        ⟨⟨_, ownsS_cell ho (List.getElem?_eq_getElem (by have := HLL.out; omega))⟩, ownsS_frozen ho k⟩
      obtain ⟨x0, q0⟩ := q0
      clear hown hbel b2 ho hcell
      go_wp2
      go_roundw
      case rel => exact ⟨k + 1, by omega, by go_num, hst.out, B3⟩
      case measure => simp [intOf]; omega
    · obtain rfl : k = xs.length := by omega
      have HE : Hid ((xs.take xs.length).map txt ++ List.replicate (xs.length - xs.length) (⟨#[]⟩ : ByteArray) = xs.map txt) := Lib.hid (by simp)
      rw [HE.out] at hown
      have hB := hbel.size
      have hl3 : (xs.map txt).length = xs.length := List.length_map txt
      have HJ := Lib.hid (Tryd.strings_Join w.heap.size 0 xs.length (xs.map txt) ⟨#[44]⟩ wr (fun j x hx => by
        have := ownsS_cell hown hx
        rw [Nat.zero_add]; exact this) (ownsS_ge hown).2 (by have := HL.out; omega) (by omega) (by rw [HJ0.out]; have := HTL.out; omega))
      rw [HJ0.out, hl3] at HJ
      clear hown HE hl3
      go_wp2_with fail
      refine HJ.out.mono ?_
      rintro e w5 ⟨rfl, b5⟩
      have b6 := hbel.trans (b5.mono hB)
      clear b5 hbel
      go_wp2
      go_ret
      exact ⟨rfl, b6⟩
theorem condsW_app : ∀ a b : List CondD, condsW (a ++ b) = condsW a ++ condsW b
  | [], b => rfl
  | c :: r, b => by simp [condsW, condsW_app r b]
theorem condsW_next {cs : List CondD} {k : Nat} (h : k < cs.length) : (condsW (cs.take k)).map strB ++ [strB (102 :: Lib.itoa (cs.getD k c0D).1), strB (Lib.itoa (cs.getD k c0D).2.1 ++ [46, 46] ++ Lib.itoa (cs.getD k c0D).2.2)] = (condsW (cs.take (k + 1))).map strB := by
  rw [List.take_succ_eq_append_getElem h, condsW_app, List.map_append]
  simp [condsW, List.getD, h]
set_option maxHeartbeats 8000000 in
set_option maxRecDepth 100000 in
theorem words_any (v : Value) (cs : List CondD) (w : World) (h : CondsR w v cs) (hn : cs.length ≤ 3) (hc : ∀ k, k < cs.length → cIn (cs.getD k c0D)) (hT : Tab w) :
    Calls Tryd.prog 57 #[v] w fun e w' => ∃ u, e = .returned u ∧ OwnsS w' w.heap.size u ((condsW cs).map strB) ∧ Below w.heap.size w w' := by
  obtain ⟨i0, hi, hz0, hz1, hz2⟩ := info_parts Tryd.infoStr
  have HI := Lib.hid hi; have HZ0 := Lib.hid hz0; have HZ1 := Lib.hid hz1; have HZ2 := Lib.hid hz2
  clear hi hz0 hz1 hz2
  have H := Lib.hid h
  have HC0 := Lib.hid hc
  have HT := Lib.hid hT
  have HN := Lib.hid hn
  obtain ⟨a, cap, rfl⟩ := condsR_len h
  clear h hc hT
  have w0 : IntKind.i64.wrap (2 * (cs.length : Int)) = 2 * (cs.length : Int) := IntWalk.i64_in _ (by omega)
  clear hn
  go_enter Tryd.func57, Tryd.ntmps57
  go_wp2_with (at_make; refine wpList_make_own _ rfl _ _ 65 rfl w.heap.size 9 i0 (.string ⟨#[]⟩) 1 Tryd.underlying65 HI.out HZ0.out HZ1.out _ _ _ (2 * cs.length) rfl rfl (by omega) (by rw [HZ2.out]; have := HN.out; omega) (by have := HN.out; unfold maxLen; omega) (Nat.le_refl _) ?_)
  intro w1 hown0 hg0
  have hown1 : OwnsS w1 w.heap.size (.slice (some ⟨w.heap.size, 0, none⟩) 0 (2 * cs.length)) [] := hown0
  have hbel1 := (Below.refl w.heap.size w).grown hg0 (Nat.le_refl _) (fun k hk => by cases hk)
  clear hown0 hg0 w0
  go_wp2
  go_loopw [3, 12] (fun u i wr => ∃ k : Nat, k ≤ cs.length ∧ i = .int .i64 k ∧ OwnsS wr w.heap.size u ((condsW (cs.take k)).map strB) ∧ Below w.heap.size w wr) (fun _ i _ => cs.length - (intOf i).toNat)
  case atStart => exact ⟨0, Nat.zero_le _, rfl, hown1, hbel1⟩
  case round =>
    obtain ⟨k, hk, rfl, hown, hbel⟩ := hrel
    clear hown1 hbel1
    by_cases hlt : k < cs.length
    · obtain ⟨b, off, cap', hv, hbl, d1, d2, d3⟩ := condsR_at (condsR_below H.out hbel) hlt
      simp only [Value.slice.injEq] at hv
      obtain ⟨rfl, _, rfl⟩ := hv
      have i1 : (0 : Int) ≤ (k : Int) := by omega
      have i2 : (k : Int) < (cs.length : Int) := by omega
      have i3 : k < 4 := by have := HN.out; omega
      have hin := HC0.out k hlt
      have HNX := Lib.hid (condsW_next hlt)
      have HUL : Hid (((condsW (cs.take k)).map strB).length ≤ 6) := Lib.hid (by rw [List.length_map, condsW_len, List.length_take]; have := HN.out; omega)
      generalize cs.getD k c0D = c at *
      obtain ⟨fa, lo, hi⟩ := c
      simp only at d1 d2 d3
      obtain ⟨⟨f0, f1⟩, ⟨l0, l1⟩, h0, h1⟩ := hin
      simp only at f0 f1 l0 l1 h0 h1
      have HA := Lib.hid (fun w h => fmtR fa w f0 f1 h)
      have HB := Lib.hid (fun w h => formatRange_any lo hi w l0 l1 h0 h1 h)
      have fl := Lib.itoa_length_le fa (by omega) (by omega)
      simp only at HNX
      obtain ⟨t1, ht1⟩ : ∃ t1, Lib.itoa fa = t1 := ⟨_, rfl⟩
      obtain ⟨tb, htb⟩ : ∃ tb, Lib.itoa lo ++ [46, 46] ++ Lib.itoa hi = tb := ⟨_, rfl⟩
      rw [ht1] at HA HNX fl
      rw [htb] at HB HNX
      clear ht1 htb f0 f1 l0 l1 h0 h1
      obtain ⟨ta, hta⟩ : ∃ ta, 102 :: t1 = ta := ⟨_, rfl⟩
      have dA : ∀ w, (Op.stringOp .add ⟨#[102]⟩ (strB t1)).run Tryd.prog w = .ok (.string (strB ta)) w := by rw [← hta]; exact strB_add [102] t1 (by simp; omega)
      rw [hta] at HNX
      clear hta fl
      generalize (condsW (cs.take k)).map strB = us at *
      go_wp2
      have hW : Below wr.heap.size wr (wr.alloc (.cells #[.int .i64 fa, .int .i64 lo, .int .i64 hi] 79)) := (Below.refl _ wr).alloc (Nat.le_refl _) _
      have g0 := heap_alloc_new wr (.cells #[.int .i64 fa, .int .i64 lo, .int .i64 hi] 79)
      have hl2 : wr.heap.size < (wr.alloc (.cells #[.int .i64 fa, .int .i64 lo, .int .i64 hi] 79)).heap.size := by simp
      generalize wr.alloc (.cells #[.int .i64 fa, .int .i64 lo, .int .i64 hi] 79) = W at *
      have q0 := (cell_of_row W _ 0 _ _ _ g0).trans (show _ = some (Value.int .i64 fa) from rfl)
      have q1 := (cell_of_row W _ 1 _ _ _ g0).trans (show _ = some (Value.int .i64 lo) from rfl)
      have q2 := (cell_of_row W _ 2 _ _ _ g0).trans (show _ = some (Value.int .i64 hi) from rfl)
      have bW := hbel.trans (hW.mono hbel.size)
      clear d1 d2 d3 g0
      refine wp_region_held_drew (S := fun w' => w'.cell? ⟨wr.heap.size, 0, none⟩ = some (.int .i64 fa) ∧ w'.cell? ⟨wr.heap.size, 1, none⟩ = some (.int .i64 lo) ∧ w'.cell? ⟨wr.heap.size, 2, none⟩ = some (.int .i64 hi)) (by kernel_rfl) ⟨q0, q1, q2⟩ (fun hHeld => ?_)
      have e0 := below_drew (Below.refl W.heap.size W)
      refine take_runs (i := 0) (v := ?_) (by simp only [List.getElem?_toArray, List.getElem?_cons_succ, List.getElem?_cons_zero]; rfl) (by kernel_rfl) (by kernel_rfl) (by kernel_rfl) rfl (by exact fun _ _ _ h => h) (by rfl) ?_ (by assumption) ?_
      rotate_left
      · intro w hSw; (try dsimp only at hSw); go_simp; try (with_reducible rfl)
      try simp only [Act.put, List.setIfInBounds_toArray, List.set_cons_zero, List.set_cons_succ]
      refine take_runs (i := 1) (v := ?_) (by simp only [List.getElem?_toArray, List.getElem?_cons_succ, List.getElem?_cons_zero]; rfl) (by kernel_rfl) (by kernel_rfl) (by kernel_rfl) rfl (by exact fun _ _ _ h => h) (by rfl) ?_ (by assumption) ?_
      rotate_left
      · intro w hSw; (try dsimp only at hSw); go_simp; try (with_reducible rfl)
      try simp only [Act.put, List.setIfInBounds_toArray, List.set_cons_zero, List.set_cons_succ]
      refine take_runs (i := 2) (v := ?_) (by simp only [List.getElem?_toArray, List.getElem?_cons_succ, List.getElem?_cons_zero]; rfl) (by kernel_rfl) (by kernel_rfl) (by kernel_rfl) rfl (by exact fun _ _ _ h => h) (by rfl) ?_ (by assumption) ?_
      rotate_left
      · intro w hSw; (try dsimp only at hSw); go_simp; try (with_reducible rfl)
      try simp only [Act.put, List.setIfInBounds_toArray, List.set_cons_zero, List.set_cons_succ]
      refine take_runs (i := 5) (v := ?_) (by simp only [List.getElem?_toArray, List.getElem?_cons_succ, List.getElem?_cons_zero]; rfl) (by kernel_rfl) (by kernel_rfl) (by kernel_rfl) rfl (by exact fun _ _ _ h => h) (by rfl) ?_ (by assumption) ?_
      rotate_left
      · intro w hSw; (try dsimp only at hSw); go_simp; try (with_reducible rfl)
      try simp only [Act.put, List.setIfInBounds_toArray, List.set_cons_zero, List.set_cons_succ]
      refine take_runs (i := 6) (v := ?_) (by simp only [List.getElem?_toArray, List.getElem?_cons_succ, List.getElem?_cons_zero]; rfl) (by kernel_rfl) (by kernel_rfl) (by kernel_rfl) rfl (by exact fun _ _ _ h => h) (by rfl) ?_ (by assumption) ?_
      rotate_left
      · intro w hSw; (try dsimp only at hSw); go_simp; try (with_reducible rfl)
      try simp only [Act.put, List.setIfInBounds_toArray, List.set_cons_zero, List.set_cons_succ]
      refine take_runs (i := 7) (v := ?_) (by simp only [List.getElem?_toArray, List.getElem?_cons_succ, List.getElem?_cons_zero]; rfl) (by kernel_rfl) (by kernel_rfl) (by kernel_rfl) rfl (by exact fun _ _ _ h => h) (by rfl) ?_ (by assumption) ?_
      rotate_left
      · intro w hSw; (try dsimp only at hSw); go_simp; try (with_reducible rfl)
      try simp only [Act.put, List.setIfInBounds_toArray, List.set_cons_zero, List.set_cons_succ]
      refine take_runs (i := 8) (v := ?_) (by simp only [List.getElem?_toArray, List.getElem?_cons_succ, List.getElem?_cons_zero]; rfl) (by kernel_rfl) (by kernel_rfl) (by kernel_rfl) rfl (by exact fun _ _ _ h => h) (by rfl) ?_ (by assumption) ?_
      rotate_left
      · intro w hSw; (try dsimp only at hSw); go_simp; try (with_reducible rfl)
      try simp only [Act.put, List.setIfInBounds_toArray, List.set_cons_zero, List.set_cons_succ]
      refine wpAnyH_ready (rs := [3]) (by kernel_rfl) (by simp) ?_
      refine (AllReadyH.cons (o := _) (by simp only [List.getElem?_toArray, List.getElem?_cons_succ, List.getElem?_cons_zero]; rfl) (fun K hK => ?_) AllReadyH.nil)
      go_simp
      refine (HA.out _ (HT.out.on (bW.trans (e0.mono bW.size)))).mono ?_
      rintro e x1 ⟨rfl, k1⟩
      have e1 : Below W.heap.size W x1 := e0.trans (k1.mono e0.size)
      refine hK.out _ _ ⟨(e1.cell (p := ⟨wr.heap.size, 0, none⟩) hl2).trans q0, (e1.cell (p := ⟨wr.heap.size, 1, none⟩) hl2).trans q1, (e1.cell (p := ⟨wr.heap.size, 2, none⟩) hl2).trans q2⟩ (fun hHeld => ?_)
      clear hK K
      try simp only [Act.put, List.setIfInBounds_toArray, List.set_cons_zero, List.set_cons_succ]
      refine take_runs (i := 4) (v := ?_) (by simp only [List.getElem?_toArray, List.getElem?_cons_succ, List.getElem?_cons_zero]; rfl) (by kernel_rfl) (by kernel_rfl) (by kernel_rfl) rfl (by exact fun _ _ _ h => h) (by rfl) ?_ (by assumption) ?_
      rotate_left
      · intro w hSw; (try dsimp only at hSw); go_simp; try (with_reducible rfl)
      try simp only [Act.put, List.setIfInBounds_toArray, List.set_cons_zero, List.set_cons_succ]
      refine wpAnyH_ready (rs := [9]) (by kernel_rfl) (by simp) ?_
      refine (AllReadyH.cons (o := _) (by simp only [List.getElem?_toArray, List.getElem?_cons_succ, List.getElem?_cons_zero]; rfl) (fun K hK => ?_) AllReadyH.nil)
      go_simp
      refine (HB.out _ (HT.out.on (bW.trans (e1.mono bW.size)))).mono ?_
      rintro e x2 ⟨rfl, k2⟩
      have e2 : Below W.heap.size W x2 := e1.trans (k2.mono e1.size)
      refine hK.out _ _ ⟨(e2.cell (p := ⟨wr.heap.size, 0, none⟩) hl2).trans q0, (e2.cell (p := ⟨wr.heap.size, 1, none⟩) hl2).trans q1, (e2.cell (p := ⟨wr.heap.size, 2, none⟩) hl2).trans q2⟩ (fun hHeld => ?_)
      clear hK K
      try simp only [Act.put, List.setIfInBounds_toArray, List.set_cons_zero, List.set_cons_succ]
      refine wpAnyH_ready (rs := [10]) (by kernel_rfl) (by simp) ?_
      refine (AllReadyH.cons (o := _) (by simp only [List.getElem?_toArray, List.getElem?_cons_succ, List.getElem?_cons_zero]; rfl) (fun K hK => ?_) AllReadyH.nil)
      go_simp
      have hA := (Below.refl x2.heap.size x2).alloc (Nat.le_refl _) (.cells #[.string (strB ta), .string (strB tb)] 9)
      have a0 : (x2.alloc (.cells #[.string (strB ta), .string (strB tb)] 9)).cell? ⟨x2.heap.size, 0, none⟩ = some (.string (strB ta)) := (cell_lit x2 #[.string (strB ta), .string (strB tb)] 9 0).trans rfl
      have a1 : (x2.alloc (.cells #[.string (strB ta), .string (strB tb)] 9)).cell? ⟨x2.heap.size, 1, none⟩ = some (.string (strB tb)) := (cell_lit x2 #[.string (strB ta), .string (strB tb)] 9 1).trans rfl
      have al : x2.heap.size < (x2.alloc (.cells #[.string (strB ta), .string (strB tb)] 9)).heap.size := by simp
      obtain ⟨W4, hW4⟩ : ∃ W4, x2.alloc (.cells #[.string (strB ta), .string (strB tb)] 9) = W4 := ⟨_, rfl⟩
      rw [hW4] at hA a0 a1 al ⊢
      clear hW4
      have e4 : Below W.heap.size W W4 := e2.trans (hA.mono e2.size)
      refine hK.out _ _ ⟨(e4.cell (p := ⟨wr.heap.size, 0, none⟩) hl2).trans q0, (e4.cell (p := ⟨wr.heap.size, 1, none⟩) hl2).trans q1, (e4.cell (p := ⟨wr.heap.size, 2, none⟩) hl2).trans q2⟩ (fun hHeld => ?_)
      clear hK K
      try simp only [Act.put, List.setIfInBounds_toArray, List.set_cons_zero, List.set_cons_succ]
      have o4 := ownsS_below (ownsS_below hown hW) e4
      have b4 := bW.trans (e4.mono bW.size)
      refine wpAnyH_ready (rs := [11]) (by kernel_rfl) (by simp) ?_
      refine (AllReadyH.cons (o := _) (by simp only [List.getElem?_toArray, List.getElem?_cons_succ, List.getElem?_cons_zero]; rfl) (fun K hK => ?_) AllReadyH.nil)
      refine step_append_strs rfl (.tmp 16) (.tmp 26) rfl w.heap.size _ _ us [strB ta, strB tb] rfl rfl o4 (strs_two a0 a1 al) b4.size (by have := HUL.out; simp; omega) ?_
      intro u W8 oB bB gB
      have z : ∀ j, W8.cell? ⟨wr.heap.size, j, none⟩ = W4.cell? ⟨wr.heap.size, j, none⟩ := fun j => World.cell?_of_block (gB.block _ (Nat.lt_of_lt_of_le hl2 e4.size) (fun q => Nat.lt_irrefl _ (hown.lt _ q.symm).2))
      refine hK.out _ _ ⟨(z 0).trans ((e4.cell (p := ⟨wr.heap.size, 0, none⟩) hl2).trans q0), (z 1).trans ((e4.cell (p := ⟨wr.heap.size, 1, none⟩) hl2).trans q1), (z 2).trans ((e4.cell (p := ⟨wr.heap.size, 2, none⟩) hl2).trans q2)⟩ (fun hHeld => ?_)
      clear hK K
      try simp only [Act.put, List.setIfInBounds_toArray, List.set_cons_zero, List.set_cons_succ]
      refine take_runs (i := 12) (v := ?_) (by simp only [List.getElem?_toArray, List.getElem?_cons_succ, List.getElem?_cons_zero]; rfl) (by kernel_rfl) (by kernel_rfl) (by kernel_rfl) rfl (by exact fun _ _ _ h => h) (by rfl) ?_ (by assumption) ?_
      rotate_left
      · intro w hSw; (try dsimp only at hSw); go_simp; try (with_reducible rfl)
      try simp only [Act.put, List.setIfInBounds_toArray, List.set_cons_zero, List.set_cons_succ]
      refine wpAnyH_done (by kernel_rfl) ?_ _
      rw [HNX.out] at oB
      have b8 := b4.trans bB
      clear hHeld z gB
      go_wp2
      go_roundw
      case rel => exact ⟨k + 1, by omega, by go_num, oB, b8⟩
      case measure => simp [intOf]; omega
    · obtain rfl : k = cs.length := by omega
      rw [List.take_length] at hown
      go_wp2
      go_ret
      exact ⟨_, rfl, hown, hbel⟩
theorem ownsS_full {w : World} {B : Nat} {v : Value} {xs : List ByteArray} (h : OwnsS w B v xs) (hn : 0 < xs.length) : ∃ g cap, v = .slice (some ⟨g, 0, none⟩) xs.length cap ∧ xs.length ≤ cap ∧ g < w.heap.size := by
  rcases h.2 with ⟨rfl, h0⟩ | ⟨g, cap, cur, rfl, hb, hg, hle, _⟩
  · omega
  · exact ⟨g, cap, rfl, hle, (Array.getElem?_eq_some_iff.1 hg).1⟩
theorem listTo_len {xs : List Int} (hr : ∀ j, j < xs.length → 0 ≤ xs.getD j 0 ∧ xs.getD j 0 ≤ 999) : ∀ k, k ≤ xs.length → (listTo xs k).length ≤ 45 * k
  | 0, _ => by simp [listTo]
  | k + 1, h => by
    have ih := listTo_len hr k (by omega)
    have hx := hr k (by omega)
    have hl := Lib.itoa_length_le (xs.getD k 0) (by omega) (by omega)
    unfold listTo
    split
    · rw [List.nil_append]; omega
    · simp only [List.length_append, List.length_cons, List.length_nil]; omega
theorem condsT_len {cs : List CondD} (hc : ∀ k, k < cs.length → cIn (cs.getD k c0D)) (t : List UInt8) : ∀ k, k ≤ cs.length → (condsT t cs k).length ≤ t.length + 80 * k
  | 0, _ => by simp [condsT]
  | k + 1, h => by
    have ih := condsT_len hc t k (by omega)
    obtain ⟨⟨f0, f1⟩, ⟨a0, a1⟩, b0, b1⟩ := hc k (by omega)
    have l1 := Lib.itoa_length_le (cs.getD k c0D).1 (by omega) (by omega)
    have l2 := Lib.itoa_length_le (cs.getD k c0D).2.1 (by omega) (by omega)
    have l3 := Lib.itoa_length_le (cs.getD k c0D).2.2 (by omega) (by omega)
    show (condT (condsT t cs k) (cs.getD k c0D)).length ≤ _
    unfold condT
    simp only [List.length_append, List.length_cons, List.length_nil]
    omega
theorem fmtQ_len {id tn : Int} {cs : List CondD} {os : List Int} (h : queryB id tn cs os = true) : (fmtQ id tn cs os).length ≤ 1000 := by
  obtain ⟨h1, h2, h3, h4, h5, h6⟩ := query_parts h
  have l1 := condsT_len (cs := cs) (fun k hk => by have := h4 k hk; exact ⟨⟨this.1, by omega⟩, ⟨this.2.2.1, by omega⟩, this.2.2.2.2.1, by omega⟩) (headT id tn) cs.length (Nat.le_refl _)
  have l2 := listTo_len (xs := os) (fun j hj => ⟨(h6 j hj).1, by have := (h6 j hj).2; omega⟩) os.length (Nat.le_refl _)
  have l3 := Lib.itoa_length_le id (by omega) (by omega)
  have l4 := Lib.itoa_length_le tn (by omega) (by omega)
  have l5 : (headT id tn).length ≤ 45 := by unfold headT; simp; omega
  unfold fmtQ
  rw [if_pos h]
  simp only [List.length_append, List.length_cons, List.length_nil]
  omega
set_option maxHeartbeats 8000000 in
set_option maxRecDepth 100000 in
theorem implFormatQuery (id tn : Int) (cv ov : Value) (cs : List CondD) (os : List Int) (w : World) (h : CondsR w cv cs) (hn : cs.length ≤ 1048576) (g : Ints w ov os) (hm : os.length ≤ 1048576) (hT : Tab w) :
    Calls Tryd.prog 23 #[qV id tn cv ov] w fun e w' => e = .returned (.string (strB (fmtQ id tn cs os))) ∧ Below w.heap.size w w' := by
  obtain ⟨ca, ccap, rfl⟩ := condsR_len h
  obtain ⟨oa, ocap, rfl⟩ := ints_len g
  have hb0 : Below w.heap.size w (w.alloc (.cells #[.int .i64 id, .int .i64 tn, .slice ca cs.length ccap, .slice oa os.length ocap] 46)) := (Below.refl _ w).alloc (Nat.le_refl _) _
  have HG0 := Lib.hid (heap_alloc_new w (.cells #[.int .i64 id, .int .i64 tn, .slice ca cs.length ccap, .slice oa os.length ocap] 46))
  have HB0 := Lib.hid hb0
  have HC := Lib.hid (condsR_below h hb0)
  have HO := Lib.hid (ints_below g hb0)
  have HT := Lib.hid hT
  cases hq : queryB id tn cs os with
  | false =>
    have HQ := Lib.hid (fun w h g => checkQuery_no id tn (.slice ca cs.length ccap) (.slice oa os.length ocap) cs os w h hn g hm hq)
    have HF : Hid (fmtQ id tn cs os = []) := Lib.hid (by unfold fmtQ; rw [hq]; rfl)
    clear h g hn hm hb0 hq hT
    go_enter Tryd.func23, Tryd.ntmps23
    go_wp2_with fail
    generalize w.alloc (.cells #[.int .i64 id, .int .i64 tn, .slice ca cs.length ccap, .slice oa os.length ocap] 46) = W at *
    refine (HQ.out _ HC.out HO.out).mono ?_
    rintro e w1 ⟨rfl, b1⟩
    have c1 := HB0.out.trans (b1.mono HB0.out.size)
    have c2 := c1.alloc c1.size (.cells #[.slice none 0 0, .slice none 0 0] 84)
    go_wp2
    go_ret
    exact ⟨ret_s HF.out.symm, c2⟩
  | true =>
    have HQ := Lib.hid (fun w h g => checkQuery_yes id tn (.slice ca cs.length ccap) (.slice oa os.length ocap) cs os w h hn g hm hq)
    obtain ⟨hi, ht, hcl, hcr, hol, hor⟩ := query_parts hq
    have hfl := qB_fields (q := (id, tn, cs, os)) hq
    simp only at hfl
    have HJ0 : Hid (Lib.join (((wordsQ (id, tn, cs, os)).map strB).map (·.data.toList)) (⟨#[32]⟩ : ByteArray).data.toList = fmtQ id tn cs os) := Lib.hid (by
      have e1 : ((wordsQ (id, tn, cs, os)).map strB).map (·.data.toList) = wordsQ (id, tn, cs, os) := by
        rw [List.map_map]
        conv => rhs; rw [← List.map_id (wordsQ (id, tn, cs, os))]
        exact List.map_congr_left fun x _ => by simp [strB]
      rw [e1]
      exact (join_glue 32 _).trans (fmt_glue (q := (id, tn, cs, os)) hq).symm)
    have HFL := Lib.hid (fmtQ_len hq)
    have HWL : Hid (((wordsQ (id, tn, cs, os)).map strB).length ≤ 10) := Lib.hid (by rw [List.length_map, wordsQ_len]; simp only; omega)
    have HWQ : Hid ((wordsQ (id, tn, cs, os)).map strB = [strB (113 :: Lib.itoa id), strB (116 :: Lib.itoa tn)] ++ (condsW cs).map strB ++ [⟨#[111, 117, 116]⟩, strB (listTo os os.length)]) := Lib.hid (by unfold wordsQ; simp [strB])
    have HWP : Hid (0 < ((wordsQ (id, tn, cs, os)).map strB).length) := Lib.hid (by unfold wordsQ; simp)
    have HCW : Hid (((condsW cs).map strB).length ≤ 6) := Lib.hid (by rw [List.length_map, condsW_len]; omega)
    have HW := Lib.hid (fun w h hT => words_any (.slice ca cs.length ccap) cs w h hcl (fun k hk => by have := hcr k hk; exact ⟨⟨this.1, by omega⟩, ⟨this.2.2.1, by omega⟩, this.2.2.2.2.1, by omega⟩) hT)
    have hl9 := listTo_len (xs := os) (fun j hj => ⟨(hor j hj).1, by have := (hor j hj).2; omega⟩) os.length (Nat.le_refl _)
    have HJI := Lib.hid (fun w h hT => joinInts_few (.slice oa os.length ocap) os w h hfl.1 hfl.2 (fun j hj => ⟨(hor j hj).1, by have := (hor j hj).2; omega⟩) hT (by omega))
    have HA := Lib.hid (fun w h => fmtR id w hi.1 (by omega) h)
    have HB := Lib.hid (fun w h => fmtR tn w ht.1 (by omega) h)
    have la := Lib.itoa_length_le id (by omega) (by omega)
    have lb := Lib.itoa_length_le tn (by omega) (by omega)
    clear h g hn hm hb0 hq hT hi ht hcl hcr hol hor hfl hl9
    obtain ⟨fq, hfq⟩ : ∃ fq, fmtQ id tn cs os = fq := ⟨_, rfl⟩
    rw [hfq] at HJ0 HFL ⊢
    clear hfq
    obtain ⟨t1, ht1⟩ : ∃ t1, Lib.itoa id = t1 := ⟨_, rfl⟩
    obtain ⟨t2, ht2⟩ : ∃ t2, Lib.itoa tn = t2 := ⟨_, rfl⟩
    rw [ht1] at HA HWQ la
    rw [ht2] at HB HWQ lb
    clear ht1 ht2
    obtain ⟨ta, hta⟩ : ∃ ta, 113 :: t1 = ta := ⟨_, rfl⟩
    obtain ⟨tb, htb⟩ : ∃ tb, 116 :: t2 = tb := ⟨_, rfl⟩
    have dA : ∀ w, (Op.stringOp .add ⟨#[113]⟩ (strB t1)).run Tryd.prog w = .ok (.string (strB ta)) w := by rw [← hta]; exact strB_add [113] t1 (by simp; omega)
    have dB : ∀ w, (Op.stringOp .add ⟨#[116]⟩ (strB t2)).run Tryd.prog w = .ok (.string (strB tb)) w := by rw [← htb]; exact strB_add [116] t2 (by simp; omega)
    rw [hta, htb] at HWQ
    clear hta htb la lb
    generalize (wordsQ (id, tn, cs, os)).map strB = ws at *
    generalize (condsW cs).map strB = cw at *
    generalize listTo os os.length = tl at *
    go_enter Tryd.func23, Tryd.ntmps23
    go_wp2_with fail
    generalize w.alloc (.cells #[.int .i64 id, .int .i64 tn, .slice ca cs.length ccap, .slice oa os.length ocap] 46) = W at *
    refine (HQ.out _ HC.out HO.out).mono ?_
    rintro e w1 ⟨rfl, b1⟩
    have a1 : Below w1.heap.size w1 (w1.alloc (.cells #[.slice ca cs.length ccap, .slice oa os.length ocap] 84)) := (Below.refl _ _).alloc (Nat.le_refl _) _
    have b2 := b1.trans (a1.mono b1.size)
    have c2 := HB0.out.trans (b2.mono HB0.out.size)
    have HCQ := Lib.hid (heap_alloc_new w1 (.cells #[.slice ca cs.length ccap, .slice oa os.length ocap] 84))
    obtain ⟨p0, p1, p2, p3⟩ := box_cells4 HG0.out b2
    have hw0 : w.heap.size < W.heap.size := (Array.getElem?_eq_some_iff.1 HG0.out).1
    have l2 := Nat.lt_of_lt_of_le hw0 b2.size
    clear a1 b1 hw0
    go_wp2
    obtain ⟨R, hR⟩ : ∃ R, w1.heap.size = R := ⟨_, rfl⟩
    rw [hR] at HCQ ⊢
    generalize w1.alloc (.cells #[.slice ca cs.length ccap, .slice oa os.length ocap] 84) = W2 at *
    clear hR
    refine wp_region_held_drew (S := fun w' => w'.cell? ⟨w.heap.size, 0, none⟩ = some (.int .i64 id) ∧ w'.cell? ⟨w.heap.size, 1, none⟩ = some (.int .i64 tn)) (by kernel_rfl) ⟨p0, p1⟩ (fun hHeld => ?_)
    have e0 := below_drew (Below.refl W2.heap.size W2)
    refine take_runs (i := 0) (v := ?_) (by simp only [List.getElem?_toArray, List.getElem?_cons_succ, List.getElem?_cons_zero]; rfl) (by kernel_rfl) (by kernel_rfl) (by kernel_rfl) rfl (by exact fun _ _ _ h => h) (by rfl) ?_ (by assumption) ?_
    rotate_left
    · intro w hSw; (try dsimp only at hSw); go_simp; try (with_reducible rfl)
    try simp only [Act.put, List.setIfInBounds_toArray, List.set_cons_zero, List.set_cons_succ]
    refine take_runs (i := 1) (v := ?_) (by simp only [List.getElem?_toArray, List.getElem?_cons_succ, List.getElem?_cons_zero]; rfl) (by kernel_rfl) (by kernel_rfl) (by kernel_rfl) rfl (by exact fun _ _ _ h => h) (by rfl) ?_ (by assumption) ?_
    rotate_left
    · intro w hSw; (try dsimp only at hSw); go_simp; try (with_reducible rfl)
    try simp only [Act.put, List.setIfInBounds_toArray, List.set_cons_zero, List.set_cons_succ]
    refine take_runs (i := 4) (v := ?_) (by simp only [List.getElem?_toArray, List.getElem?_cons_succ, List.getElem?_cons_zero]; rfl) (by kernel_rfl) (by kernel_rfl) (by kernel_rfl) rfl (by exact fun _ _ _ h => h) (by rfl) ?_ (by assumption) ?_
    rotate_left
    · intro w hSw; (try dsimp only at hSw); go_simp; try (with_reducible rfl)
    try simp only [Act.put, List.setIfInBounds_toArray, List.set_cons_zero, List.set_cons_succ]
    refine take_runs (i := 5) (v := ?_) (by simp only [List.getElem?_toArray, List.getElem?_cons_succ, List.getElem?_cons_zero]; rfl) (by kernel_rfl) (by kernel_rfl) (by kernel_rfl) rfl (by exact fun _ _ _ h => h) (by rfl) ?_ (by assumption) ?_
    rotate_left
    · intro w hSw; (try dsimp only at hSw); go_simp; try (with_reducible rfl)
    try simp only [Act.put, List.setIfInBounds_toArray, List.set_cons_zero, List.set_cons_succ]
    refine wpAnyH_ready (rs := [2]) (by kernel_rfl) (by simp) ?_
    refine (AllReadyH.cons (o := _) (by simp only [List.getElem?_toArray, List.getElem?_cons_succ, List.getElem?_cons_zero]; rfl) (fun K hK => ?_) AllReadyH.nil)
    go_simp
    refine (HA.out _ (HT.out.on (c2.trans (e0.mono c2.size)))).mono ?_
    rintro e x1 ⟨rfl, k1⟩
    have e1 : Below W2.heap.size W2 x1 := e0.trans (k1.mono e0.size)
    refine hK.out _ _ ⟨(e1.cell (p := ⟨w.heap.size, 0, none⟩) l2).trans p0, (e1.cell (p := ⟨w.heap.size, 1, none⟩) l2).trans p1⟩ (fun hHeld => ?_)
    clear hK K
    try simp only [Act.put, List.setIfInBounds_toArray, List.set_cons_zero, List.set_cons_succ]
    refine take_runs (i := 3) (v := ?_) (by simp only [List.getElem?_toArray, List.getElem?_cons_succ, List.getElem?_cons_zero]; rfl) (by kernel_rfl) (by kernel_rfl) (by kernel_rfl) rfl (by exact fun _ _ _ h => h) (by rfl) ?_ (by assumption) ?_
    rotate_left
    · intro w hSw; (try dsimp only at hSw); go_simp; try (with_reducible rfl)
    try simp only [Act.put, List.setIfInBounds_toArray, List.set_cons_zero, List.set_cons_succ]
    refine wpAnyH_ready (rs := [6]) (by kernel_rfl) (by simp) ?_
    refine (AllReadyH.cons (o := _) (by simp only [List.getElem?_toArray, List.getElem?_cons_succ, List.getElem?_cons_zero]; rfl) (fun K hK => ?_) AllReadyH.nil)
    go_simp
    refine (HB.out _ (HT.out.on (c2.trans (e1.mono c2.size)))).mono ?_
    rintro e x2 ⟨rfl, k2⟩
    have e2 : Below W2.heap.size W2 x2 := e1.trans (k2.mono e1.size)
    refine hK.out _ _ ⟨(e2.cell (p := ⟨w.heap.size, 0, none⟩) l2).trans p0, (e2.cell (p := ⟨w.heap.size, 1, none⟩) l2).trans p1⟩ (fun hHeld => ?_)
    clear hK K
    try simp only [Act.put, List.setIfInBounds_toArray, List.set_cons_zero, List.set_cons_succ]
    refine take_runs (i := 7) (v := ?_) (by simp only [List.getElem?_toArray, List.getElem?_cons_succ, List.getElem?_cons_zero]; rfl) (by kernel_rfl) (by kernel_rfl) (by kernel_rfl) rfl (by exact fun _ _ _ h => h) (by rfl) ?_ (by assumption) ?_
    rotate_left
    · intro w hSw; (try dsimp only at hSw); go_simp; try (with_reducible rfl)
    try simp only [Act.put, List.setIfInBounds_toArray, List.set_cons_zero, List.set_cons_succ]
    refine wpAnyH_ready (rs := [8]) (by kernel_rfl) (by simp) ?_
    refine (AllReadyH.cons (o := _) (by simp only [List.getElem?_toArray, List.getElem?_cons_succ, List.getElem?_cons_zero]; rfl) (fun K hK => ?_) AllReadyH.nil)
    go_simp
    have hA := (Below.refl x2.heap.size x2).alloc (Nat.le_refl _) (.cells #[.string (strB ta), .string (strB tb)] 9)
    have o4 : OwnsS (x2.alloc (.cells #[.string (strB ta), .string (strB tb)] 9)) W2.heap.size (.slice (some ⟨x2.heap.size, 0, none⟩) 2 2) [strB ta, strB tb] := ownsS_lit x2 W2.heap.size e2.size _ 2 _ rfl rfl (by decide)
    obtain ⟨W4, hW4⟩ : ∃ W4, x2.alloc (.cells #[.string (strB ta), .string (strB tb)] 9) = W4 := ⟨_, rfl⟩
    rw [hW4] at hA o4 ⊢
    clear hW4
    have e4 : Below W2.heap.size W2 W4 := e2.trans (hA.mono e2.size)
    refine hK.out _ _ ⟨(e4.cell (p := ⟨w.heap.size, 0, none⟩) l2).trans p0, (e4.cell (p := ⟨w.heap.size, 1, none⟩) l2).trans p1⟩ (fun hHeld => ?_)
    clear hK K
    try simp only [Act.put, List.setIfInBounds_toArray, List.set_cons_zero, List.set_cons_succ]
    refine take_runs (i := 9) (v := ?_) (by simp only [List.getElem?_toArray, List.getElem?_cons_succ, List.getElem?_cons_zero]; rfl) (by kernel_rfl) (by kernel_rfl) (by kernel_rfl) rfl (by exact fun _ _ _ h => h) (by rfl) ?_ (by assumption) ?_
    rotate_left
    · intro w hSw; (try dsimp only at hSw); go_simp; try (with_reducible rfl)
    try simp only [Act.put, List.setIfInBounds_toArray, List.set_cons_zero, List.set_cons_succ]
    refine wpAnyH_done (by kernel_rfl) ?_ _
    clear hHeld hA
    obtain ⟨s0, s1⟩ := box_cells HCQ.out e4
    have c4 := c2.trans (e4.mono c2.size)
    go_wp2_with fail
    refine (HW.out _ (condsR_below HC.out (b2.trans (e4.mono b2.size))) (HT.out.on c4)).mono ?_
    rintro e w5 ⟨u, rfl, ou, b5⟩
    have e5 := e4.trans (b5.mono e4.size)
    have o5 := ownsS_below o4 b5
    have HST := Lib.hid (ownsS_strs ou)
    clear o4 ou s0 s1 c4 e4 b5
    go_wp2_with (at_builtin; refine wpl_append_strs rfl (.tmp 22) (.tmp 25) rfl W2.heap.size _ _ [strB ta, strB tb] cw rfl rfl o5 HST.out e5.size (by have := HCW.out; simp; omega) ?_; intro u6 w6 o6 b6 _; have e6 := e5.trans b6; obtain ⟨s0, s1⟩ := box_cells HCQ.out e6)
    have c6 := c2.trans (e6.mono c2.size)
    clear o5 e5
    refine (HJI.out _ (ints_below HO.out (b2.trans (e6.mono b2.size))) (HT.out.on c6)).mono ?_
    rintro e w7 ⟨rfl, b7⟩
    have e7 := e6.trans (b7.mono e6.size)
    have o7 := ownsS_below o6 b7
    have hA := (Below.refl w7.heap.size w7).alloc (Nat.le_refl _) (.cells #[.string ⟨#[111, 117, 116]⟩, .string (strB tl)] 9)
    have a0 : (w7.alloc (.cells #[.string ⟨#[111, 117, 116]⟩, .string (strB tl)] 9)).cell? ⟨w7.heap.size, 0, none⟩ = some (.string ⟨#[111, 117, 116]⟩) := (cell_lit w7 #[.string ⟨#[111, 117, 116]⟩, .string (strB tl)] 9 0).trans rfl
    have a1 : (w7.alloc (.cells #[.string ⟨#[111, 117, 116]⟩, .string (strB tl)] 9)).cell? ⟨w7.heap.size, 1, none⟩ = some (.string (strB tl)) := (cell_lit w7 #[.string ⟨#[111, 117, 116]⟩, .string (strB tl)] 9 1).trans rfl
    have al : w7.heap.size < (w7.alloc (.cells #[.string ⟨#[111, 117, 116]⟩, .string (strB tl)] 9)).heap.size := by simp
    have o8 := ownsS_below o7 hA
    have e8 := e7.trans (hA.mono e7.size)
    have HS2 := Lib.hid (strs_two a0 a1 al)
    clear o6 o7 e6 e7 b7 a0 a1 al hA s0 s1 c6
    go_wp2_with (at_builtin; refine wpl_append_strs rfl (.tmp 27) (.tmp 31) rfl W2.heap.size _ _ ([strB ta, strB tb] ++ cw) [⟨#[111, 117, 116]⟩, strB tl] rfl rfl o8 HS2.out e8.size (by have := HCW.out; simp; omega) ?_; intro u9 w9 o9 b9 _; rw [← HWQ.out] at o9; have e9 := e8.trans b9; obtain ⟨gg, gcap, rfl, hgc, hgl⟩ := ownsS_full o9 HWP.out)
    have c9 := c2.trans (e9.mono c2.size)
    have HJ := Lib.hid (Tryd.strings_Join gg 0 gcap ws ⟨#[32]⟩ w9 (fun j x hx => by have := ownsS_cell o9 hx; rw [Nat.zero_add]; exact this) hgl (by have := HWL.out; omega) hgc (by rw [HJ0.out]; have := HFL.out; omega))
    rw [HJ0.out] at HJ
    clear o8 o9 e8 e9 b9 hgc hgl
    refine HJ.out.mono ?_
    rintro e w10 ⟨rfl, b10⟩
    have c10 := c9.trans (b10.mono c9.size)
    go_wp2
    go_ret
    exact ⟨rfl, c10⟩
end Go.Proofs.YteelgogfpidcdaaDoor
