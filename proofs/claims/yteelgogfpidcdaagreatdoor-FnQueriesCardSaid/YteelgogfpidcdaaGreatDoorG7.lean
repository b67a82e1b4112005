/-
  Texts of the proof, merged: QueryFmtP, RowEqQ, TabZ, AndShaped, Cur, Draw, Draws, SetDraw, RowDraw, RowsDraw, QueryDraw.
-/
import Derived.Test.YteelgogfpidcdaaGreatDoorG6
import Derived.Test.YteelgogfpidcdaaGreatDoorRows
import Derived.WalkKit
import Derived.Below
import Derived.Lib.Hide
import Derived.Lib.AppendIntMem
import Derived.Lib.TrailingZeros
import Derived.Shelf.Spec.TrailingZeros
import Derived.Handed
import Derived.HandedShaped
import Derived.Shelf.Vars
import Derived.BigQuiet
import Derived.Deep.QuietTactic
import Derived.Laws.BitsAllLaws
import Derived.Outline
import Derived.WalkSpells
import Derived.Lib.MinMax
namespace Go.Proofs.YteelgogfpidcdaaGreatDoor
open Go.RowKit
set_option linter.unusedVariables false
set_option linter.unusedSimpArgs false
/-- The text of one number. -/
def txt (n : Int) : ByteArray := strB (Lib.itoa n)
theorem texts_step (xs : List Int) (k : Nat) (h : k < xs.length) : ((xs.take k).map txt ++ List.replicate (xs.length - k) (⟨#[]⟩ : ByteArray)).set k (txt (xs.getD k 0)) = (xs.take (k + 1)).map txt ++ List.replicate (xs.length - (k + 1)) (⟨#[]⟩ : ByteArray) := by
  have hk : ((xs.take k).map txt).length = k := by rw [List.length_map, List.length_take]; omega
  rw [List.set_append_right _ _ (by omega), hk, Nat.sub_self, show xs.length - k = (xs.length - (k + 1)) + 1 by omega, List.replicate_succ, List.set_cons_zero, List.take_succ_eq_append_getElem h, List.map_append, List.append_assoc]
  simp [List.getD, h]
theorem join_few {xs : List Int} (h1 : 1 ≤ xs.length) (h3 : xs.length ≤ 3) : Lib.join ((xs.map txt).map (·.data.toList)) (⟨#[44]⟩ : ByteArray).data.toList = listTo xs xs.length := by
  match xs, h1, h3 with
  | [a], _, _ => simp [txt, strB, listTo, Lib.join, List.intercalate]
  | [a, b], _, _ => simp [txt, strB, listTo, Lib.join, List.intercalate]
  | [a, b, c], _, _ => simp [txt, strB, listTo, Lib.join, List.intercalate]
theorem join_glue (b : UInt8) : ∀ ps : List (List UInt8), Lib.join ps [b] = glueL b ps
  | [] => rfl
  | [p] => by simp [Lib.join, List.intercalate, glueL]
  | p :: q :: r => by
    rw [glueL_cons b p (by simp), ← join_glue b (q :: r), Lib.join_cons, Lib.join_cons]
    simp [Lib.joinTail]
theorem fmtP (n : Int) (w : World) (h0 : 0 ≤ n) (h1 : n ≤ 999) (hT : Tab w) : Calls Tryz.prog 30 #[.int .i64 n] w fun e w' => e = .returned (.string (txt n)) ∧ Below w.heap.size w w' := implFmt n w (by omega) (by omega) hT
theorem fmtR (n : Int) (w : World) (h0 : 0 ≤ n) (h1 : n ≤ 999) (hT : Tab w) : Calls Tryz.prog 30 #[.int .i64 n] w fun e w' => e = .returned (.string (strB (Lib.itoa n))) ∧ Below w.heap.size w w' := implFmt n w (by omega) (by omega) hT
set_option maxHeartbeats 8000000 in
set_option maxRecDepth 100000 in
theorem joinInts_few (v : Value) (xs : List Int) (w : World) (h : Ints w v xs) (hl1 : 1 ≤ xs.length) (hl : xs.length ≤ 3) (hr : ∀ j, j < xs.length → 0 ≤ xs.getD j 0 ∧ xs.getD j 0 ≤ 999) (hT : Tab w) (ht : (listTo xs xs.length).length ≤ 1000) :
    Calls Tryz.prog 32 #[v] w fun e w' => e = .returned (.string (strB (listTo xs xs.length))) ∧ Below w.heap.size w w' := by
  obtain ⟨i0, hi, hz0, hz1, hz2⟩ := info_parts Tryz.infoStr
  have HI := Lib.hid hi; have HZ0 := Lib.hid hz0; have HZ1 := Lib.hid hz1; have HZ2 := Lib.hid hz2
  clear hi hz0 hz1 hz2
  have H := Lib.hid h
  have HR := Lib.hid hr
  have HT := Lib.hid hT
  have HL := Lib.hid hl
  have HJ0 := Lib.hid (join_few hl1 hl)
  have HTL := Lib.hid ht
  obtain ⟨t, htx⟩ : ∃ t, listTo xs xs.length = t := ⟨_, rfl⟩
  rw [htx] at HJ0 HTL ⊢
  clear htx
  obtain ⟨a, cap, rfl⟩ := ints_len h
  clear h hr hT hl hl1 ht
  go_enter Tryz.func32, Tryz.ntmps32
  go_wp2_with (at_make; refine wpList_make_full _ rfl (.tmp 7) (.tmp 7) 59 rfl w.heap.size 9 i0 (.string ⟨#[]⟩) 1 Tryz.underlying59 HI.out HZ0.out HZ1.out _ _ _ _ xs.length rfl rfl rfl rfl (by rw [HZ2.out]; have := HL.out; omega) (by have := HL.out; unfold maxLen; omega) (Nat.le_refl _) ?_)
  intro w1 hown0 hg0
  have hown1 := ownsS_made (by simpa using hown0)
  have hbel1 := (Below.refl w.heap.size w).grown hg0 (Nat.le_refl _) (fun k hk => by cases hk)
  clear hown0 hg0
  go_wp2
  go_loopw [11] (fun i wr => ∃ k : Nat, k ≤ xs.length ∧ i = .int .i64 k ∧ OwnsS wr w.heap.size (.slice (some ⟨w.heap.size, 0, none⟩) xs.length xs.length) ((xs.take k).map txt ++ List.replicate (xs.length - k) (⟨#[]⟩ : ByteArray)) ∧ Below w.heap.size w wr) (fun i _ => xs.length - (intOf i).toNat)
  case atStart => exact ⟨0, Nat.zero_le _, rfl, by simpa using hown1, hbel1⟩
  case round =>
    obtain ⟨k, hk, rfl, hown, hbel⟩ := hrel
    clear hown1 hbel1
    by_cases hlt : k < xs.length
    · obtain ⟨b, off, cap', hv, hbl, hc⟩ := ints_cell H.out (by omega)
      simp only [Value.slice.injEq] at hv
      obtain ⟨rfl, _, rfl⟩ := hv
      have hcell := (hbel.cell (p := ⟨b, off + k, none⟩) hbl).trans (hc k hlt)
      have i1 : (0 : Int) ≤ (k : Int) := by omega
      have i2 : (k : Int) < (xs.length : Int) := by omega
      have i3 : k < 4 := by have := HL.out; omega
      have hx := HR.out k hlt
      have HSET := Lib.hid (texts_step xs k hlt)
      have HF := Lib.hid (fun w h => fmtP (xs.getD k 0) w hx.1 hx.2 h)
      have HLL : Hid (((xs.take k).map txt ++ List.replicate (xs.length - k) (⟨#[]⟩ : ByteArray)).length = xs.length) := Lib.hid (by simp; omega)
      clear hc hx
      generalize xs.getD k 0 = x at *
      generalize txt x = tx at *
      generalize (xs.take k).map txt ++ List.replicate (xs.length - k) (⟨#[]⟩ : ByteArray) = us at *
      go_wp2_with fail
      refine (HF.out _ (HT.out.on hbel)).mono ?_
      rintro e w2 ⟨rfl, b2⟩
      have ho := ownsS_below hown b2
      have hst := Lib.hid (ownsS_store ho k tx)
      rw [HSET.out] at hst
      have b3 := hbel.trans (b2.mono hbel.size)
      have B3 := b3.setCell (p := ⟨w.heap.size, k, none⟩) (Nat.le_refl _) (.string tx)
      obtain ⟨q0, q1⟩ : (∃ x, w2.cell? ⟨w.heap.size, k, none⟩ = some x) ∧ w2.frozen? ⟨w.heap.size, k, none⟩ = false :=
        ⟨⟨_, ownsS_cell ho (List.getElem?_eq_getElem (by have := HLL.out; omega))⟩, ownsS_frozen ho k⟩
      obtain ⟨x0, q0⟩ := q0
      clear hown hbel b2 ho hcell
      go_wp2
      go_roundw
      case rel => exact ⟨k + 1, by omega, by go_num, hst.out, B3⟩
      case measure => simp [intOf]; omega
    · obtain rfl : k = xs.length := by omega
      have HE : Hid ((xs.take xs.length).map txt ++ List.replicate (xs.length - xs.length) (⟨#[]⟩ : ByteArray) = xs.map txt) := Lib.hid (by simp)
      rw [HE.out] at hown
      have hB := hbel.size
      have hl3 : (xs.map txt).length = xs.length := List.length_map txt
      have HJ := Lib.hid (Tryz.strings_Join w.heap.size 0 xs.length (xs.map txt) ⟨#[44]⟩ wr (fun j x hx => by
        have := ownsS_cell hown hx
        rw [Nat.zero_add]; exact this) (ownsS_ge hown).2 (by have := HL.out; omega) (by omega) (by rw [HJ0.out]; have := HTL.out; omega))
      rw [HJ0.out, hl3] at HJ
      clear hown HE hl3
      go_wp2_with fail
      refine HJ.out.mono ?_
      rintro e w5 ⟨rfl, b5⟩
      have b6 := hbel.trans (b5.mono hB)
      clear b5 hbel
      go_wp2
      go_ret
      exact ⟨rfl, b6⟩
theorem condsW_app : ∀ a b : List CondD, condsW (a ++ b) = condsW a ++ condsW b
  | [], b => rfl
  | c :: r, b => by simp [condsW, condsW_app r b]
theorem condsW_next {cs : List CondD} {k : Nat} (h : k < cs.length) : (condsW (cs.take k)).map strB ++ [strB (102 :: Lib.itoa (cs.getD k c0D).1), strB (Lib.itoa (cs.getD k c0D).2.1 ++ [46, 46] ++ Lib.itoa (cs.getD k c0D).2.2)] = (condsW (cs.take (k + 1))).map strB := by
  rw [List.take_succ_eq_append_getElem h, condsW_app, List.map_append]
  simp [condsW, List.getD, h]
set_option maxHeartbeats 8000000 in
set_option maxRecDepth 100000 in
theorem words_any (v : Value) (cs : List CondD) (w : World) (h : CondsR w v cs) (hn : cs.length ≤ 3) (hc : ∀ k, k < cs.length → cIn (cs.getD k c0D)) (hT : Tab w) :
    Calls Tryz.prog 31 #[v] w fun e w' => ∃ u, e = .returned u ∧ OwnsS w' w.heap.size u ((condsW cs).map strB) ∧ Below w.heap.size w w' := by
  obtain ⟨i0, hi, hz0, hz1, hz2⟩ := info_parts Tryz.infoStr
  have HI := Lib.hid hi; have HZ0 := Lib.hid hz0; have HZ1 := Lib.hid hz1; have HZ2 := Lib.hid hz2
  clear hi hz0 hz1 hz2
  have H := Lib.hid h
  have HC0 := Lib.hid hc
  have HT := Lib.hid hT
  have HN := Lib.hid hn
  obtain ⟨a, cap, rfl⟩ := condsR_len h
  clear h hc hT
  have w0 : IntKind.i64.wrap (2 * (cs.length : Int)) = 2 * (cs.length : Int) := IntWalk.i64_in _ (by omega)
  clear hn
  go_enter Tryz.func31, Tryz.ntmps31
  go_wp2_with (at_make; refine wpList_make_own _ rfl _ _ 59 rfl w.heap.size 9 i0 (.string ⟨#[]⟩) 1 Tryz.underlying59 HI.out HZ0.out HZ1.out _ _ _ (2 * cs.length) rfl rfl (by omega) (by rw [HZ2.out]; have := HN.out; omega) (by have := HN.out; unfold maxLen; omega) (Nat.le_refl _) ?_)
  intro w1 hown0 hg0
  have hown1 : OwnsS w1 w.heap.size (.slice (some ⟨w.heap.size, 0, none⟩) 0 (2 * cs.length)) [] := hown0
  have hbel1 := (Below.refl w.heap.size w).grown hg0 (Nat.le_refl _) (fun k hk => by cases hk)
  clear hown0 hg0 w0
  go_wp2
  go_loopw [3, 12] (fun u i wr => ∃ k : Nat, k ≤ cs.length ∧ i = .int .i64 k ∧ OwnsS wr w.heap.size u ((condsW (cs.take k)).map strB) ∧ Below w.heap.size w wr) (fun _ i _ => cs.length - (intOf i).toNat)
  case atStart => exact ⟨0, Nat.zero_le _, rfl, hown1, hbel1⟩
  case round =>
    obtain ⟨k, hk, rfl, hown, hbel⟩ := hrel
    clear hown1 hbel1
    by_cases hlt : k < cs.length
    · obtain ⟨b, off, cap', hv, hbl, d1, d2, d3⟩ := condsR_at (condsR_below H.out hbel) hlt
      simp only [Value.slice.injEq] at hv
      obtain ⟨rfl, _, rfl⟩ := hv
      have i1 : (0 : Int) ≤ (k : Int) := by omega
      have i2 : (k : Int) < (cs.length : Int) := by omega
      have i3 : k < 4 := by have := HN.out; omega
      have hin := HC0.out k hlt
      have HNX := Lib.hid (condsW_next hlt)
      have HUL : Hid (((condsW (cs.take k)).map strB).length ≤ 6) := Lib.hid (by rw [List.length_map, condsW_len, List.length_take]; have := HN.out; omega)
      generalize cs.getD k c0D = c at *
      obtain ⟨fa, lo, hi⟩ := c
      simp only at d1 d2 d3
      obtain ⟨⟨f0, f1⟩, ⟨l0, l1⟩, h0, h1⟩ := hin
      simp only at f0 f1 l0 l1 h0 h1
      have HA := Lib.hid (fun w h => fmtR fa w f0 f1 h)
      have HB := Lib.hid (fun w h => formatRange_any lo hi w l0 l1 h0 h1 h)
      have fl := Lib.itoa_length_le fa (by omega) (by omega)
      simp only at HNX
      obtain ⟨t1, ht1⟩ : ∃ t1, Lib.itoa fa = t1 := ⟨_, rfl⟩
      obtain ⟨tb, htb⟩ : ∃ tb, Lib.itoa lo ++ [46, 46] ++ Lib.itoa hi = tb := ⟨_, rfl⟩
      rw [ht1] at HA HNX fl
      rw [htb] at HB HNX
      clear ht1 htb f0 f1 l0 l1 h0 h1
      obtain ⟨ta, hta⟩ : ∃ ta, 102 :: t1 = ta := ⟨_, rfl⟩
      have dA : ∀ w, (Op.stringOp .add ⟨#[102]⟩ (strB t1)).run Tryz.prog w = .ok (.string (strB ta)) w := by rw [← hta]; exact strB_add [102] t1 (by simp; omega)
      rw [hta] at HNX
      clear hta fl
      generalize (condsW (cs.take k)).map strB = us at *
      go_wp2
      have hW : Below wr.heap.size wr (wr.alloc (.cells #[.int .i64 fa, .int .i64 lo, .int .i64 hi] 67)) := (Below.refl _ wr).alloc (Nat.le_refl _) _
      have g0 := heap_alloc_new wr (.cells #[.int .i64 fa, .int .i64 lo, .int .i64 hi] 67)
      have hl2 : wr.heap.size < (wr.alloc (.cells #[.int .i64 fa, .int .i64 lo, .int .i64 hi] 67)).heap.size := by simp
      generalize wr.alloc (.cells #[.int .i64 fa, .int .i64 lo, .int .i64 hi] 67) = W at *
      have q0 := (cell_of_row W _ 0 _ _ _ g0).trans (show _ = some (Value.int .i64 fa) from rfl)
      have q1 := (cell_of_row W _ 1 _ _ _ g0).trans (show _ = some (Value.int .i64 lo) from rfl)
      have q2 := (cell_of_row W _ 2 _ _ _ g0).trans (show _ = some (Value.int .i64 hi) from rfl)
      have bW := hbel.trans (hW.mono hbel.size)
      clear d1 d2 d3 g0
      refine wp_region_held_drew (S := fun w' => w'.cell? ⟨wr.heap.size, 0, none⟩ = some (.int .i64 fa) ∧ w'.cell? ⟨wr.heap.size, 1, none⟩ = some (.int .i64 lo) ∧ w'.cell? ⟨wr.heap.size, 2, none⟩ = some (.int .i64 hi)) (by kernel_rfl) ⟨q0, q1, q2⟩ (fun hHeld => ?_)
      have e0 := below_drew (Below.refl W.heap.size W)
      refine take_runs (i := 0) (v := ?_) (by simp only [List.getElem?_toArray, List.getElem?_cons_succ, List.getElem?_cons_zero]; rfl) (by kernel_rfl) (by kernel_rfl) (by kernel_rfl) rfl (by exact fun _ _ _ h => h) (by rfl) ?_ (by assumption) ?_
      rotate_left
      · intro w hSw; (try dsimp only at hSw); go_simp; try (with_reducible rfl)
      try simp only [Act.put, List.setIfInBounds_toArray, List.set_cons_zero, List.set_cons_succ]
      refine take_runs (i := 1) (v := ?_) (by simp only [List.getElem?_toArray, List.getElem?_cons_succ, List.getElem?_cons_zero]; rfl) (by kernel_rfl) (by kernel_rfl) (by kernel_rfl) rfl (by exact fun _ _ _ h => h) (by rfl) ?_ (by assumption) ?_
      rotate_left
      · intro w hSw; (try dsimp only at hSw); go_simp; try (with_reducible rfl)
      try simp only [Act.put, List.setIfInBounds_toArray, List.set_cons_zero, List.set_cons_succ]
      refine take_runs (i := 2) (v := ?_) (by simp only [List.getElem?_toArray, List.getElem?_cons_succ, List.getElem?_cons_zero]; rfl) (by kernel_rfl) (by kernel_rfl) (by kernel_rfl) rfl (by exact fun _ _ _ h => h) (by rfl) ?_ (by assumption) ?_
      rotate_left
      · intro w hSw; (try dsimp only at hSw); go_simp; try (with_reducible rfl)
      try simp only [Act.put, List.setIfInBounds_toArray, List.set_cons_zero, List.set_cons_succ]
      refine take_runs (i := 5) (v := ?_) (by simp only [List.getElem?_toArray, List.getElem?_cons_succ, List.getElem?_cons_zero]; rfl) (by kernel_rfl) (by kernel_rfl) (by kernel_rfl) rfl (by exact fun _ _ _ h => h) (by rfl) ?_ (by assumption) ?_
      rotate_left
      · intro w hSw; (try dsimp only at hSw); go_simp; try (with_reducible rfl)
      try simp only [Act.put, List.setIfInBounds_toArray, List.set_cons_zero, List.set_cons_succ]
      refine take_runs (i := 6) (v := ?_) (by simp only [List.getElem?_toArray, List.getElem?_cons_succ, List.getElem?_cons_zero]; rfl) (by kernel_rfl) (by kernel_rfl) (by kernel_rfl) rfl (by exact fun _ _ _ h => h) (by rfl) ?_ (by assumption) ?_
      rotate_left
      · intro w hSw; (try dsimp only at hSw); go_simp; try (with_reducible rfl)
      try simp only [Act.put, List.setIfInBounds_toArray, List.set_cons_zero, List.set_cons_succ]
      refine take_runs (i := 7) (v := ?_) (by simp only [List.getElem?_toArray, List.getElem?_cons_succ, List.getElem?_cons_zero]; rfl) (by kernel_rfl) (by kernel_rfl) (by kernel_rfl) rfl (by exact fun _ _ _ h => h) (by rfl) ?_ (by assumption) ?_
      rotate_left
      · intro w hSw; (try dsimp only at hSw); go_simp; try (with_reducible rfl)
      try simp only [Act.put, List.setIfInBounds_toArray, List.set_cons_zero, List.set_cons_succ]
      refine take_runs (i := 8) (v := ?_) (by simp only [List.getElem?_toArray, List.getElem?_cons_succ, List.getElem?_cons_zero]; rfl) (by kernel_rfl) (by kernel_rfl) (by kernel_rfl) rfl (by exact fun _ _ _ h => h) (by rfl) ?_ (by assumption) ?_
      rotate_left
      · intro w hSw; (try dsimp only at hSw); go_simp; try (with_reducible rfl)
      try simp only [Act.put, List.setIfInBounds_toArray, List.set_cons_zero, List.set_cons_succ]
      refine wpAnyH_ready (rs := [3]) (by kernel_rfl) (by simp) ?_
      refine (AllReadyH.cons (o := _) (by simp only [List.getElem?_toArray, List.getElem?_cons_succ, List.getElem?_cons_zero]; rfl) (fun K hK => ?_) AllReadyH.nil)
      go_simp
      refine (HA.out _ (HT.out.on (bW.trans (e0.mono bW.size)))).mono ?_
      rintro e x1 ⟨rfl, k1⟩
      have e1 : Below W.heap.size W x1 := e0.trans (k1.mono e0.size)
      refine hK.out _ _ ⟨(e1.cell (p := ⟨wr.heap.size, 0, none⟩) hl2).trans q0, (e1.cell (p := ⟨wr.heap.size, 1, none⟩) hl2).trans q1, (e1.cell (p := ⟨wr.heap.size, 2, none⟩) hl2).trans q2⟩ (fun hHeld => ?_)
      clear hK K
      try simp only [Act.put, List.setIfInBounds_toArray, List.set_cons_zero, List.set_cons_succ]
      refine take_runs (i := 4) (v := ?_) (by simp only [List.getElem?_toArray, List.getElem?_cons_succ, List.getElem?_cons_zero]; rfl) (by kernel_rfl) (by kernel_rfl) (by kernel_rfl) rfl (by exact fun _ _ _ h => h) (by rfl) ?_ (by assumption) ?_
      rotate_left
      · intro w hSw; (try dsimp only at hSw); go_simp; try (with_reducible rfl)
      try simp only [Act.put, List.setIfInBounds_toArray, List.set_cons_zero, List.set_cons_succ]
      refine wpAnyH_ready (rs := [9]) (by kernel_rfl) (by simp) ?_
      refine (AllReadyH.cons (o := _) (by simp only [List.getElem?_toArray, List.getElem?_cons_succ, List.getElem?_cons_zero]; rfl) (fun K hK => ?_) AllReadyH.nil)
      go_simp
      refine (HB.out _ (HT.out.on (bW.trans (e1.mono bW.size)))).mono ?_
      rintro e x2 ⟨rfl, k2⟩
      have e2 : Below W.heap.size W x2 := e1.trans (k2.mono e1.size)
      refine hK.out _ _ ⟨(e2.cell (p := ⟨wr.heap.size, 0, none⟩) hl2).trans q0, (e2.cell (p := ⟨wr.heap.size, 1, none⟩) hl2).trans q1, (e2.cell (p := ⟨wr.heap.size, 2, none⟩) hl2).trans q2⟩ (fun hHeld => ?_)
      clear hK K
      try simp only [Act.put, List.setIfInBounds_toArray, List.set_cons_zero, List.set_cons_succ]
      refine wpAnyH_ready (rs := [10]) (by kernel_rfl) (by simp) ?_
      refine (AllReadyH.cons (o := _) (by simp only [List.getElem?_toArray, List.getElem?_cons_succ, List.getElem?_cons_zero]; rfl) (fun K hK => ?_) AllReadyH.nil)
      go_simp
      have hA := (Below.refl x2.heap.size x2).alloc (Nat.le_refl _) (.cells #[.string (strB ta), .string (strB tb)] 9)
      have a0 : (x2.alloc (.cells #[.string (strB ta), .string (strB tb)] 9)).cell? ⟨x2.heap.size, 0, none⟩ = some (.string (strB ta)) := (cell_lit x2 #[.string (strB ta), .string (strB tb)] 9 0).trans rfl
      have a1 : (x2.alloc (.cells #[.string (strB ta), .string (strB tb)] 9)).cell? ⟨x2.heap.size, 1, none⟩ = some (.string (strB tb)) := (cell_lit x2 #[.string (strB ta), .string (strB tb)] 9 1).trans rfl
      have al : x2.heap.size < (x2.alloc (.cells #[.string (strB ta), .string (strB tb)] 9)).heap.size := by simp
      obtain ⟨W4, hW4⟩ : ∃ W4, x2.alloc (.cells #[.string (strB ta), .string (strB tb)] 9) = W4 := ⟨_, rfl⟩
      rw [hW4] at hA a0 a1 al ⊢
      clear hW4
      have e4 : Below W.heap.size W W4 := e2.trans (hA.mono e2.size)
      refine hK.out _ _ ⟨(e4.cell (p := ⟨wr.heap.size, 0, none⟩) hl2).trans q0, (e4.cell (p := ⟨wr.heap.size, 1, none⟩) hl2).trans q1, (e4.cell (p := ⟨wr.heap.size, 2, none⟩) hl2).trans q2⟩ (fun hHeld => ?_)
      clear hK K
      try simp only [Act.put, List.setIfInBounds_toArray, List.set_cons_zero, List.set_cons_succ]
      have o4 := ownsS_below (ownsS_below hown hW) e4
      have b4 := bW.trans (e4.mono bW.size)
      refine wpAnyH_ready (rs := [11]) (by kernel_rfl) (by simp) ?_
      refine (AllReadyH.cons (o := _) (by simp only [List.getElem?_toArray, List.getElem?_cons_succ, List.getElem?_cons_zero]; rfl) (fun K hK => ?_) AllReadyH.nil)
      refine step_append_strs rfl (.tmp 16) (.tmp 26) rfl w.heap.size _ _ us [strB ta, strB tb] rfl rfl o4 (strs_two a0 a1 al) b4.size (by have := HUL.out; simp; omega) ?_
      intro u W8 oB bB gB
      have z : ∀ j, W8.cell? ⟨wr.heap.size, j, none⟩ = W4.cell? ⟨wr.heap.size, j, none⟩ := fun j => World.cell?_of_block (gB.block _ (Nat.lt_of_lt_of_le hl2 e4.size) (fun q => Nat.lt_irrefl _ (hown.lt _ q.symm).2))
      refine hK.out _ _ ⟨(z 0).trans ((e4.cell (p := ⟨wr.heap.size, 0, none⟩) hl2).trans q0), (z 1).trans ((e4.cell (p := ⟨wr.heap.size, 1, none⟩) hl2).trans q1), (z 2).trans ((e4.cell (p := ⟨wr.heap.size, 2, none⟩) hl2).trans q2)⟩ (fun hHeld => ?_)
      clear hK K
      try simp only [Act.put, List.setIfInBounds_toArray, List.set_cons_zero, List.set_cons_succ]
      refine take_runs (i := 12) (v := ?_) (by simp only [List.getElem?_toArray, List.getElem?_cons_succ, List.getElem?_cons_zero]; rfl) (by kernel_rfl) (by kernel_rfl) (by kernel_rfl) rfl (by exact fun _ _ _ h => h) (by rfl) ?_ (by assumption) ?_
      rotate_left
      · intro w hSw; (try dsimp only at hSw); go_simp; try (with_reducible rfl)
      try simp only [Act.put, List.setIfInBounds_toArray, List.set_cons_zero, List.set_cons_succ]
      refine wpAnyH_done (by kernel_rfl) ?_ _
      rw [HNX.out] at oB
      have b8 := b4.trans bB
      clear hHeld z gB
      go_wp2
      go_roundw
      case rel => exact ⟨k + 1, by omega, by go_num, oB, b8⟩
      case measure => simp [intOf]; omega
    · obtain rfl : k = cs.length := by omega
      rw [List.take_length] at hown
      go_wp2
      go_ret
      exact ⟨_, rfl, hown, hbel⟩
theorem ownsS_full {w : World} {B : Nat} {v : Value} {xs : List ByteArray} (h : OwnsS w B v xs) (hn : 0 < xs.length) : ∃ g cap, v = .slice (some ⟨g, 0, none⟩) xs.length cap ∧ xs.length ≤ cap ∧ g < w.heap.size := by
  rcases h.2 with ⟨rfl, h0⟩ | ⟨g, cap, cur, rfl, hb, hg, hle, _⟩
  · omega
  · exact ⟨g, cap, rfl, hle, (Array.getElem?_eq_some_iff.1 hg).1⟩
theorem listTo_len {xs : List Int} (hr : ∀ j, j < xs.length → 0 ≤ xs.getD j 0 ∧ xs.getD j 0 ≤ 999) : ∀ k, k ≤ xs.length → (listTo xs k).length ≤ 45 * k
  | 0, _ => by simp [listTo]
  | k + 1, h => by
    have ih := listTo_len hr k (by omega)
    have hx := hr k (by omega)
    have hl := Lib.itoa_length_le (xs.getD k 0) (by omega) (by omega)
    unfold listTo
    split
    · rw [List.nil_append]; omega
    · simp only [List.length_append, List.length_cons, List.length_nil]; omega
theorem condsT_len {cs : List CondD} (hc : ∀ k, k < cs.length → cIn (cs.getD k c0D)) (t : List UInt8) : ∀ k, k ≤ cs.length → (condsT t cs k).length ≤ t.length + 80 * k
  | 0, _ => by simp [condsT]
  | k + 1, h => by
    have ih := condsT_len hc t k (by omega)
    obtain ⟨⟨f0, f1⟩, ⟨a0, a1⟩, b0, b1⟩ := hc k (by omega)
    have l1 := Lib.itoa_length_le (cs.getD k c0D).1 (by omega) (by omega)
    have l2 := Lib.itoa_length_le (cs.getD k c0D).2.1 (by omega) (by omega)
    have l3 := Lib.itoa_length_le (cs.getD k c0D).2.2 (by omega) (by omega)
    show (condT (condsT t cs k) (cs.getD k c0D)).length ≤ _
    unfold condT
    simp only [List.length_append, List.length_cons, List.length_nil]
    omega
theorem fmtQ_len {id tn : Int} {cs : List CondD} {os : List Int} (h : queryB id tn cs os = true) : (fmtQ id tn cs os).length ≤ 1000 := by
  obtain ⟨h1, h2, h3, h4, h5, h6⟩ := query_parts h
  have l1 := condsT_len (cs := cs) (fun k hk => by have := h4 k hk; exact ⟨⟨this.1, by omega⟩, ⟨this.2.2.1, by omega⟩, this.2.2.2.2.1, by omega⟩) (headT id tn) cs.length (Nat.le_refl _)
  have l2 := listTo_len (xs := os) (fun j hj => ⟨(h6 j hj).1, by have := (h6 j hj).2; omega⟩) os.length (Nat.le_refl _)
  have l3 := Lib.itoa_length_le id (by omega) (by omega)
  have l4 := Lib.itoa_length_le tn (by omega) (by omega)
  have l5 : (headT id tn).length ≤ 45 := by unfold headT; simp; omega
  unfold fmtQ
  rw [if_pos h]
  simp only [List.length_append, List.length_cons, List.length_nil]
  omega
set_option maxHeartbeats 8000000 in
set_option maxRecDepth 100000 in
theorem implFormatQuery (id tn : Int) (cv ov : Value) (cs : List CondD) (os : List Int) (w : World) (h : CondsR w cv cs) (hn : cs.length ≤ 1048576) (g : Ints w ov os) (hm : os.length ≤ 1048576) (hT : Tab w) :
    Calls Tryz.prog 11 #[qV id tn cv ov] w fun e w' => e = .returned (.string (strB (fmtQ id tn cs os))) ∧ Below w.heap.size w w' := by
  obtain ⟨ca, ccap, rfl⟩ := condsR_len h
  obtain ⟨oa, ocap, rfl⟩ := ints_len g
  have hb0 : Below w.heap.size w (w.alloc (.cells #[.int .i64 id, .int .i64 tn, .slice ca cs.length ccap, .slice oa os.length ocap] 27)) := (Below.refl _ w).alloc (Nat.le_refl _) _
  have HG0 := Lib.hid (heap_alloc_new w (.cells #[.int .i64 id, .int .i64 tn, .slice ca cs.length ccap, .slice oa os.length ocap] 27))
  have HB0 := Lib.hid hb0
  have HC := Lib.hid (condsR_below h hb0)
  have HO := Lib.hid (ints_below g hb0)
  have HT := Lib.hid hT
  cases hq : queryB id tn cs os with
  | false =>
    have HQ := Lib.hid (fun w h g => checkQuery_no id tn (.slice ca cs.length ccap) (.slice oa os.length ocap) cs os w h hn g hm hq)
    have HF : Hid (fmtQ id tn cs os = []) := Lib.hid (by unfold fmtQ; rw [hq]; rfl)
    clear h g hn hm hb0 hq hT
    go_enter Tryz.func11, Tryz.ntmps11
    go_wp2_with fail
    generalize w.alloc (.cells #[.int .i64 id, .int .i64 tn, .slice ca cs.length ccap, .slice oa os.length ocap] 27) = W at *
    refine (HQ.out _ HC.out HO.out).mono ?_
    rintro e w1 ⟨rfl, b1⟩
    have c1 := HB0.out.trans (b1.mono HB0.out.size)
    have c2 := c1.alloc c1.size (.cells #[.slice none 0 0, .slice none 0 0] 52)
    go_wp2
    go_ret
    exact ⟨ret_s HF.out.symm, c2⟩
  | true =>
    have HQ := Lib.hid (fun w h g => checkQuery_yes id tn (.slice ca cs.length ccap) (.slice oa os.length ocap) cs os w h hn g hm hq)
    obtain ⟨hi, ht, hcl, hcr, hol, hor⟩ := query_parts hq
    have hfl := qB_fields (q := (id, tn, cs, os)) hq
    simp only at hfl
    have HJ0 : Hid (Lib.join (((wordsQ (id, tn, cs, os)).map strB).map (·.data.toList)) (⟨#[32]⟩ : ByteArray).data.toList = fmtQ id tn cs os) := Lib.hid (by
      have e1 : ((wordsQ (id, tn, cs, os)).map strB).map (·.data.toList) = wordsQ (id, tn, cs, os) := by
        rw [List.map_map]
        conv => rhs; rw [← List.map_id (wordsQ (id, tn, cs, os))]
        exact List.map_congr_left fun x _ => by simp [strB]
      rw [e1]
      exact (join_glue 32 _).trans (fmt_glue (q := (id, tn, cs, os)) hq).symm)
    have HFL := Lib.hid (fmtQ_len hq)
    have HWL : Hid (((wordsQ (id, tn, cs, os)).map strB).length ≤ 10) := Lib.hid (by rw [List.length_map, wordsQ_len]; simp only; omega)
    have HWQ : Hid ((wordsQ (id, tn, cs, os)).map strB = [strB (113 :: Lib.itoa id), strB (116 :: Lib.itoa tn)] ++ (condsW cs).map strB ++ [⟨#[111, 117, 116]⟩, strB (listTo os os.length)]) := Lib.hid (by unfold wordsQ; simp [strB])
    have HWP : Hid (0 < ((wordsQ (id, tn, cs, os)).map strB).length) := Lib.hid (by unfold wordsQ; simp)
    have HCW : Hid (((condsW cs).map strB).length ≤ 6) := Lib.hid (by rw [List.length_map, condsW_len]; omega)
    have HW := Lib.hid (fun w h hT => words_any (.slice ca cs.length ccap) cs w h hcl (fun k hk => by have := hcr k hk; exact ⟨⟨this.1, by omega⟩, ⟨this.2.2.1, by omega⟩, this.2.2.2.2.1, by omega⟩) hT)
    have hl9 := listTo_len (xs := os) (fun j hj => ⟨(hor j hj).1, by have := (hor j hj).2; omega⟩) os.length (Nat.le_refl _)
    have HJI := Lib.hid (fun w h hT => joinInts_few (.slice oa os.length ocap) os w h hfl.1 hfl.2 (fun j hj => ⟨(hor j hj).1, by have := (hor j hj).2; omega⟩) hT (by omega))
    have HA := Lib.hid (fun w h => fmtR id w hi.1 (by omega) h)
    have HB := Lib.hid (fun w h => fmtR tn w ht.1 (by omega) h)
    have la := Lib.itoa_length_le id (by omega) (by omega)
    have lb := Lib.itoa_length_le tn (by omega) (by omega)
    clear h g hn hm hb0 hq hT hi ht hcl hcr hol hor hfl hl9
    obtain ⟨fq, hfq⟩ : ∃ fq, fmtQ id tn cs os = fq := ⟨_, rfl⟩
    rw [hfq] at HJ0 HFL ⊢
    clear hfq
    obtain ⟨t1, ht1⟩ : ∃ t1, Lib.itoa id = t1 := ⟨_, rfl⟩
    obtain ⟨t2, ht2⟩ : ∃ t2, Lib.itoa tn = t2 := ⟨_, rfl⟩
    rw [ht1] at HA HWQ la
    rw [ht2] at HB HWQ lb
    clear ht1 ht2
    obtain ⟨ta, hta⟩ : ∃ ta, 113 :: t1 = ta := ⟨_, rfl⟩
    obtain ⟨tb, htb⟩ : ∃ tb, 116 :: t2 = tb := ⟨_, rfl⟩
    have dA : ∀ w, (Op.stringOp .add ⟨#[113]⟩ (strB t1)).run Tryz.prog w = .ok (.string (strB ta)) w := by rw [← hta]; exact strB_add [113] t1 (by simp; omega)
    have dB : ∀ w, (Op.stringOp .add ⟨#[116]⟩ (strB t2)).run Tryz.prog w = .ok (.string (strB tb)) w := by rw [← htb]; exact strB_add [116] t2 (by simp; omega)
    rw [hta, htb] at HWQ
    clear hta htb la lb
    generalize (wordsQ (id, tn, cs, os)).map strB = ws at *
    generalize (condsW cs).map strB = cw at *
    generalize listTo os os.length = tl at *
    go_enter Tryz.func11, Tryz.ntmps11
    go_wp2_with fail
    generalize w.alloc (.cells #[.int .i64 id, .int .i64 tn, .slice ca cs.length ccap, .slice oa os.length ocap] 27) = W at *
    refine (HQ.out _ HC.out HO.out).mono ?_
    rintro e w1 ⟨rfl, b1⟩
    have a1 : Below w1.heap.size w1 (w1.alloc (.cells #[.slice ca cs.length ccap, .slice oa os.length ocap] 52)) := (Below.refl _ _).alloc (Nat.le_refl _) _
    have b2 := b1.trans (a1.mono b1.size)
    have c2 := HB0.out.trans (b2.mono HB0.out.size)
    have HCQ := Lib.hid (heap_alloc_new w1 (.cells #[.slice ca cs.length ccap, .slice oa os.length ocap] 52))
    obtain ⟨p0, p1, p2, p3⟩ := box_cells4 HG0.out b2
    have hw0 : w.heap.size < W.heap.size := (Array.getElem?_eq_some_iff.1 HG0.out).1
    have l2 := Nat.lt_of_lt_of_le hw0 b2.size
    clear a1 b1 hw0
    go_wp2
    obtain ⟨R, hR⟩ : ∃ R, w1.heap.size = R := ⟨_, rfl⟩
    rw [hR] at HCQ ⊢
    generalize w1.alloc (.cells #[.slice ca cs.length ccap, .slice oa os.length ocap] 52) = W2 at *
    clear hR
    refine wp_region_held_drew (S := fun w' => w'.cell? ⟨w.heap.size, 0, none⟩ = some (.int .i64 id) ∧ w'.cell? ⟨w.heap.size, 1, none⟩ = some (.int .i64 tn)) (by kernel_rfl) ⟨p0, p1⟩ (fun hHeld => ?_)
    have e0 := below_drew (Below.refl W2.heap.size W2)
    refine take_runs (i := 0) (v := ?_) (by simp only [List.getElem?_toArray, List.getElem?_cons_succ, List.getElem?_cons_zero]; rfl) (by kernel_rfl) (by kernel_rfl) (by kernel_rfl) rfl (by exact fun _ _ _ h => h) (by rfl) ?_ (by assumption) ?_
    rotate_left
    · intro w hSw; (try dsimp only at hSw); go_simp; try (with_reducible rfl)
    try simp only [Act.put, List.setIfInBounds_toArray, List.set_cons_zero, List.set_cons_succ]
    refine take_runs (i := 1) (v := ?_) (by simp only [List.getElem?_toArray, List.getElem?_cons_succ, List.getElem?_cons_zero]; rfl) (by kernel_rfl) (by kernel_rfl) (by kernel_rfl) rfl (by exact fun _ _ _ h => h) (by rfl) ?_ (by assumption) ?_
    rotate_left
    · intro w hSw; (try dsimp only at hSw); go_simp; try (with_reducible rfl)
    try simp only [Act.put, List.setIfInBounds_toArray, List.set_cons_zero, List.set_cons_succ]
    refine take_runs (i := 4) (v := ?_) (by simp only [List.getElem?_toArray, List.getElem?_cons_succ, List.getElem?_cons_zero]; rfl) (by kernel_rfl) (by kernel_rfl) (by kernel_rfl) rfl (by exact fun _ _ _ h => h) (by rfl) ?_ (by assumption) ?_
    rotate_left
    · intro w hSw; (try dsimp only at hSw); go_simp; try (with_reducible rfl)
    try simp only [Act.put, List.setIfInBounds_toArray, List.set_cons_zero, List.set_cons_succ]
    refine take_runs (i := 5) (v := ?_) (by simp only [List.getElem?_toArray, List.getElem?_cons_succ, List.getElem?_cons_zero]; rfl) (by kernel_rfl) (by kernel_rfl) (by kernel_rfl) rfl (by exact fun _ _ _ h => h) (by rfl) ?_ (by assumption) ?_
    rotate_left
    · intro w hSw; (try dsimp only at hSw); go_simp; try (with_reducible rfl)
    try simp only [Act.put, List.setIfInBounds_toArray, List.set_cons_zero, List.set_cons_succ]
    refine wpAnyH_ready (rs := [2]) (by kernel_rfl) (by simp) ?_
    refine (AllReadyH.cons (o := _) (by simp only [List.getElem?_toArray, List.getElem?_cons_succ, List.getElem?_cons_zero]; rfl) (fun K hK => ?_) AllReadyH.nil)
    go_simp
    refine (HA.out _ (HT.out.on (c2.trans (e0.mono c2.size)))).mono ?_
    rintro e x1 ⟨rfl, k1⟩
    have e1 : Below W2.heap.size W2 x1 := e0.trans (k1.mono e0.size)
    refine hK.out _ _ ⟨(e1.cell (p := ⟨w.heap.size, 0, none⟩) l2).trans p0, (e1.cell (p := ⟨w.heap.size, 1, none⟩) l2).trans p1⟩ (fun hHeld => ?_)
    clear hK K
    try simp only [Act.put, List.setIfInBounds_toArray, List.set_cons_zero, List.set_cons_succ]
    refine take_runs (i := 3) (v := ?_) (by simp only [List.getElem?_toArray, List.getElem?_cons_succ, List.getElem?_cons_zero]; rfl) (by kernel_rfl) (by kernel_rfl) (by kernel_rfl) rfl (by exact fun _ _ _ h => h) (by rfl) ?_ (by assumption) ?_
    rotate_left
    · intro w hSw; (try dsimp only at hSw); go_simp; try (with_reducible rfl)
    try simp only [Act.put, List.setIfInBounds_toArray, List.set_cons_zero, List.set_cons_succ]
    refine wpAnyH_ready (rs := [6]) (by kernel_rfl) (by simp) ?_
    refine (AllReadyH.cons (o := _) (by simp only [List.getElem?_toArray, List.getElem?_cons_succ, List.getElem?_cons_zero]; rfl) (fun K hK => ?_) AllReadyH.nil)
    go_simp
    refine (HB.out _ (HT.out.on (c2.trans (e1.mono c2.size)))).mono ?_
    rintro e x2 ⟨rfl, k2⟩
    have e2 : Below W2.heap.size W2 x2 := e1.trans (k2.mono e1.size)
    refine hK.out _ _ ⟨(e2.cell (p := ⟨w.heap.size, 0, none⟩) l2).trans p0, (e2.cell (p := ⟨w.heap.size, 1, none⟩) l2).trans p1⟩ (fun hHeld => ?_)
    clear hK K
    try simp only [Act.put, List.setIfInBounds_toArray, List.set_cons_zero, List.set_cons_succ]
    refine take_runs (i := 7) (v := ?_) (by simp only [List.getElem?_toArray, List.getElem?_cons_succ, List.getElem?_cons_zero]; rfl) (by kernel_rfl) (by kernel_rfl) (by kernel_rfl) rfl (by exact fun _ _ _ h => h) (by rfl) ?_ (by assumption) ?_
    rotate_left
    · intro w hSw; (try dsimp only at hSw); go_simp; try (with_reducible rfl)
    try simp only [Act.put, List.setIfInBounds_toArray, List.set_cons_zero, List.set_cons_succ]
    refine wpAnyH_ready (rs := [8]) (by kernel_rfl) (by simp) ?_
    refine (AllReadyH.cons (o := _) (by simp only [List.getElem?_toArray, List.getElem?_cons_succ, List.getElem?_cons_zero]; rfl) (fun K hK => ?_) AllReadyH.nil)
    go_simp
    have hA := (Below.refl x2.heap.size x2).alloc (Nat.le_refl _) (.cells #[.string (strB ta), .string (strB tb)] 9)
    have o4 : OwnsS (x2.alloc (.cells #[.string (strB ta), .string (strB tb)] 9)) W2.heap.size (.slice (some ⟨x2.heap.size, 0, none⟩) 2 2) [strB ta, strB tb] := ownsS_lit x2 W2.heap.size e2.size _ 2 _ rfl rfl (by decide)
    obtain ⟨W4, hW4⟩ : ∃ W4, x2.alloc (.cells #[.string (strB ta), .string (strB tb)] 9) = W4 := ⟨_, rfl⟩
    rw [hW4] at hA o4 ⊢
    clear hW4
    have e4 : Below W2.heap.size W2 W4 := e2.trans (hA.mono e2.size)
    refine hK.out _ _ ⟨(e4.cell (p := ⟨w.heap.size, 0, none⟩) l2).trans p0, (e4.cell (p := ⟨w.heap.size, 1, none⟩) l2).trans p1⟩ (fun hHeld => ?_)
    clear hK K
    try simp only [Act.put, List.setIfInBounds_toArray, List.set_cons_zero, List.set_cons_succ]
    refine take_runs (i := 9) (v := ?_) (by simp only [List.getElem?_toArray, List.getElem?_cons_succ, List.getElem?_cons_zero]; rfl) (by kernel_rfl) (by kernel_rfl) (by kernel_rfl) rfl (by exact fun _ _ _ h => h) (by rfl) ?_ (by assumption) ?_
    rotate_left
    · intro w hSw; (try dsimp only at hSw); go_simp; try (with_reducible rfl)
    try simp only [Act.put, List.setIfInBounds_toArray, List.set_cons_zero, List.set_cons_succ]
    refine wpAnyH_done (by kernel_rfl) ?_ _
    clear hHeld hA
    obtain ⟨s0, s1⟩ := box_cells HCQ.out e4
    have c4 := c2.trans (e4.mono c2.size)
    go_wp2_with fail
    refine (HW.out _ (condsR_below HC.out (b2.trans (e4.mono b2.size))) (HT.out.on c4)).mono ?_
    rintro e w5 ⟨u, rfl, ou, b5⟩
    have e5 := e4.trans (b5.mono e4.size)
    have o5 := ownsS_below o4 b5
    have HST := Lib.hid (ownsS_strs ou)
    clear o4 ou s0 s1 c4 e4 b5
    go_wp2_with (at_builtin; refine wpl_append_strs rfl (.tmp 22) (.tmp 25) rfl W2.heap.size _ _ [strB ta, strB tb] cw rfl rfl o5 HST.out e5.size (by have := HCW.out; simp; omega) ?_; intro u6 w6 o6 b6 _; have e6 := e5.trans b6; obtain ⟨s0, s1⟩ := box_cells HCQ.out e6)
    have c6 := c2.trans (e6.mono c2.size)
    clear o5 e5
    refine (HJI.out _ (ints_below HO.out (b2.trans (e6.mono b2.size))) (HT.out.on c6)).mono ?_
    rintro e w7 ⟨rfl, b7⟩
    have e7 := e6.trans (b7.mono e6.size)
    have o7 := ownsS_below o6 b7
    have hA := (Below.refl w7.heap.size w7).alloc (Nat.le_refl _) (.cells #[.string ⟨#[111, 117, 116]⟩, .string (strB tl)] 9)
    have a0 : (w7.alloc (.cells #[.string ⟨#[111, 117, 116]⟩, .string (strB tl)] 9)).cell? ⟨w7.heap.size, 0, none⟩ = some (.string ⟨#[111, 117, 116]⟩) := (cell_lit w7 #[.string ⟨#[111, 117, 116]⟩, .string (strB tl)] 9 0).trans rfl
    have a1 : (w7.alloc (.cells #[.string ⟨#[111, 117, 116]⟩, .string (strB tl)] 9)).cell? ⟨w7.heap.size, 1, none⟩ = some (.string (strB tl)) := (cell_lit w7 #[.string ⟨#[111, 117, 116]⟩, .string (strB tl)] 9 1).trans rfl
    have al : w7.heap.size < (w7.alloc (.cells #[.string ⟨#[111, 117, 116]⟩, .string (strB tl)] 9)).heap.size := by simp
    have o8 := ownsS_below o7 hA
    have e8 := e7.trans (hA.mono e7.size)
    have HS2 := Lib.hid (strs_two a0 a1 al)
    clear o6 o7 e6 e7 b7 a0 a1 al hA s0 s1 c6
    go_wp2_with (at_builtin; refine wpl_append_strs rfl (.tmp 27) (.tmp 31) rfl W2.heap.size _ _ ([strB ta, strB tb] ++ cw) [⟨#[111, 117, 116]⟩, strB tl] rfl rfl o8 HS2.out e8.size (by have := HCW.out; simp; omega) ?_; intro u9 w9 o9 b9 _; rw [← HWQ.out] at o9; have e9 := e8.trans b9; obtain ⟨gg, gcap, rfl, hgc, hgl⟩ := ownsS_full o9 HWP.out)
    have c9 := c2.trans (e9.mono c2.size)
    have HJ := Lib.hid (Tryz.strings_Join gg 0 gcap ws ⟨#[32]⟩ w9 (fun j x hx => by have := ownsS_cell o9 hx; rw [Nat.zero_add]; exact this) hgl (by have := HWL.out; omega) hgc (by rw [HJ0.out]; have := HFL.out; omega))
    rw [HJ0.out] at HJ
    clear o8 o9 e8 e9 b9 hgc hgl
    refine HJ.out.mono ?_
    rintro e w10 ⟨rfl, b10⟩
    have c10 := c9.trans (b10.mono c9.size)
    go_wp2
    go_ret
    exact ⟨rfl, c10⟩
end Go.Proofs.YteelgogfpidcdaaGreatDoor
namespace Go.Proofs.YteelgogfpidcdaaGreatDoor
open Go.RowKit
set_option linter.unusedVariables false
set_option linter.unusedSimpArgs false
set_option maxHeartbeats 8000000 in
set_option maxRecDepth 100000 in
theorem equalFunc_any (v u : Value) (rs ss : List RowD) (w : World) (h : RowsR w v rs) (g : RowsR w u ss) (hs : szL rs ≤ 1048576) (ht : szL ss ≤ 1048576) :
    Calls Tryz.prog 46 #[v, u, .func (.func 47) #[] #[]] w fun e w' => e = .returned (.bool (decide (rs = ss))) ∧ Below w.heap.size w w' := by
  have H := Lib.hid h
  have G := Lib.hid g
  have HS := Lib.hid hs
  have HT := Lib.hid ht
  have hlen := szL_len hs
  have hlen2 := szL_len ht
  obtain ⟨a, cap, rfl⟩ := rowsR_len h
  obtain ⟨a2, cap2, rfl⟩ := rowsR_len g
  clear h g hs ht
  by_cases hl : rs.length = ss.length
  · have HL := Lib.hid hl
    have hne : ((rs.length : Int) != (ss.length : Int)) = false := by rw [hl]; simp
    clear hl
    go_enter Tryz.func46, Tryz.ntmps46
    go_wp2
    clear hne
    go_loopw [17] (fun i wr => ∃ k : Nat, k ≤ rs.length ∧ i = .int .i64 k ∧ Hid (∀ j, j < k → rs.getD j (0, []) = ss.getD j (0, [])) ∧ Below w.heap.size w wr) (fun i _ => rs.length - (intOf i).toNat)
    case atStart => exact ⟨0, Nat.zero_le _, rfl, Lib.hid (fun j hj => by omega), Below.refl _ _⟩
    case round =>
      obtain ⟨k, hk, rfl, hall, hbel⟩ := hrel
      by_cases hlt : k < rs.length
      · have hlt2 : k < ss.length := by have := HL.out; omega
        obtain ⟨b, off, cap', vv, hv, hbl, hc1, hc2, hI⟩ := rowsR_at (rowsR_below H.out hbel) hlt
        simp only [Value.slice.injEq] at hv
        obtain ⟨rfl, _, rfl⟩ := hv
        obtain ⟨b2, off2, cap2', uv, hv2, hbl2, hd1, hd2, hJ⟩ := rowsR_at (rowsR_below G.out hbel) hlt2
        simp only [Value.slice.injEq] at hv2
        obtain ⟨rfl, _, rfl⟩ := hv2
        have hxl := szL_row HS.out hlt
        have hyl := szL_row HT.out hlt2
        have i1 : (0 : Int) ≤ (k : Int) := by omega
        have i2 : (k : Int) < (rs.length : Int) := by omega
        have i3 : (k : Int) < (ss.length : Int) := by omega
        have HNE := Lib.hid (fun e => decide_eq_false (rows_ne_at (rs := rs) (ss := ss) (k := k) e))
        have HALL : Hid (rs.getD k (0, []) = ss.getD k (0, []) → ∀ j, j < k + 1 → rs.getD j (0, []) = ss.getD j (0, [])) := Lib.hid (fun he j hj => by
          by_cases e : j = k
          · exact e ▸ he
          · exact hall.out j (by omega))
        clear hall
        generalize rs.getD k (0, []) = r at *
        generalize ss.getD k (0, []) = q at *
        obtain ⟨id, xs⟩ := r
        obtain ⟨id2, ys⟩ := q
        simp only at hc1 hc2 hd1 hd2 hI hJ hxl hyl
        obtain ⟨va, vcap, rfl⟩ := ints_len hI
        obtain ⟨ua, ucap, rfl⟩ := ints_len hJ
        have HSM := Lib.hid (fun w h g => equalRow_any id id2 (.slice va xs.length vcap) (.slice ua ys.length ucap) xs ys w h g hxl hyl)
        have bb := ((Below.refl wr.heap.size wr).alloc (Nat.le_refl _) (.cells #[.int .i64 id, .slice va xs.length vcap] 36)).alloc (by simp) (.cells #[.int .i64 id2, .slice ua ys.length ucap] 36)
        have hd1' := ((Below.refl wr.heap.size wr).alloc (Nat.le_refl _) (.cells #[.int .i64 id, .slice va xs.length vcap] 36)).cell (p := ⟨b2, off2 + k * 2, none⟩) hbl2
        have hd2' := ((Below.refl wr.heap.size wr).alloc (Nat.le_refl _) (.cells #[.int .i64 id, .slice va xs.length vcap] 36)).cell (p := ⟨b2, off2 + k * 2 + 1, none⟩) hbl2
        rw [hd1] at hd1'
        rw [hd2] at hd2'
        by_cases he : ((id, xs) : RowD) = (id2, ys)
        · have HA := Lib.hid (HALL.out he)
          rw [decide_eq_true he] at HSM
          clear he HNE HALL
          go_wp2_with fail
          refine (HSM.out _ (ints_below hI bb) (ints_below hJ bb)).mono ?_
          rintro e w8 ⟨rfl, b9⟩
          have b11 := hbel.trans ((bb.trans (b9.mono bb.size)).mono hbel.size)
          clear b9 bb hd1' hd2'
          go_wp2
          go_roundw
          case rel => exact ⟨k + 1, by omega, by go_num, HA, b11⟩
          case measure => simp [intOf]; omega
        · have HF := Lib.hid (HNE.out he)
          rw [decide_eq_false he] at HSM
          clear he HNE HALL
          go_wp2_with fail
          refine (HSM.out _ (ints_below hI bb) (ints_below hJ bb)).mono ?_
          rintro e w8 ⟨rfl, b9⟩
          have b11 := hbel.trans ((bb.trans (b9.mono bb.size)).mono hbel.size)
          clear b9 bb hd1' hd2'
          go_wp2
          go_ret
          exact ⟨ret_b HF.out.symm, b11⟩
      · obtain rfl : k = rs.length := by omega
        have HE := Lib.hid (decide_eq_true (rows_eq_all HL.out hall.out))
        clear hall
        go_wp2
        go_ret
        exact ⟨ret_b HE.out.symm, hbel⟩
  · have HF := Lib.hid (decide_eq_false (show ¬ rs = ss from fun e => hl (by rw [e])))
    have hne : ((rs.length : Int) != (ss.length : Int)) = true := by rw [bne_iff_ne]; omega
    clear hl
    go_enter Tryz.func46, Tryz.ntmps46
    go_wp2
    go_ret
    exact ⟨ret_b HF.out.symm, Below.refl _ _⟩
set_option maxHeartbeats 2000000 in
set_option maxRecDepth 100000 in
theorem implEqualRows (v u : Value) (rs ss : List RowD) (w : World) (h : RowsR w v rs) (g : RowsR w u ss) (hs : szL rs ≤ 1048576) (ht : szL ss ≤ 1048576) :
    Calls Tryz.prog 20 #[v, u] w fun e w' => e = .returned (.bool (decide (rs = ss))) ∧ Below w.heap.size w w' := by
  have H := Lib.hid (fun w h g => equalFunc_any v u rs ss w h g hs ht)
  have HV := Lib.hid h
  have HU := Lib.hid g
  clear h g hs ht
  generalize decide (rs = ss) = r at *
  go_enter Tryz.func20, Tryz.ntmps20
  go_wp2_with fail
  refine (H.out _ HV.out HU.out).mono ?_
  rintro e w1 ⟨rfl, b1⟩
  go_wp2
  go_ret
  exact ⟨rfl, b1⟩
end Go.Proofs.YteelgogfpidcdaaGreatDoor
namespace Go.Proofs.YteelgogfpidcdaaGreatDoor
open Go.RowKit
set_option linter.unusedVariables false
def tzL : List Int := Lib.deBruijn32tab.map fun n : Nat => (n : Int)
/-- The table of trailing zeros reads as its text lays it. -/
def TabZ (w : World) : Prop := Lib.TabIs Tryz.prog w "math/bits.deBruijn32tab" .u8 tzL
theorem TabZ.on {w w' : World} (h : TabZ w) (hb : Below w.heap.size w w') : TabZ w' := Lib.tabBelow_of_tabIs h w' hb
theorem zcell {w : World} (h : TabZ w) (i : Nat) (hi : i < 32) : w.cell? ⟨4, i, none⟩ = some (.int .u8 ((Lib.deBruijn32tab.getD i 0 : Nat) : Int)) := by
  have := Lib.TabIs.cell h (show Tryz.prog.globalNamed "math/bits.deBruijn32tab" = some 4 by kernel_rfl) i (by simpa [tzL, Lib.deBruijn32tab] using hi)
  rw [this]
  have hl : i < Lib.deBruijn32tab.length := by simpa [Lib.deBruijn32tab] using hi
  simp only [tzL, List.getD, List.getElem?_map, List.getElem?_eq_getElem hl, Option.map_some, Option.getD_some]
theorem tz32_zero (w : World) : Calls Tryz.prog 146 #[.int .u32 0] w fun e w' => e = .returned (.int .i64 32) ∧ w' = w := by
  go_enter Tryz.func146, Tryz.ntmps146
  go_wp2
  go_ret
  exact ⟨rfl, rfl⟩
theorem tz32_at (x k idx : Nat) (w : World) (hx0 : ((x : Int) == 0) = false)
    (key : bits BinOp.and IntKind.u32 (x : Int) (-(x : Int) % 4294967296) * 125613361 % 4294967296 / 134217728 = (idx : Int))
    (hi : idx < 32) (hk : k < 32) (hcell : w.cell? ⟨4, idx, none⟩ = some (.int .u8 k)) :
    Calls Tryz.prog 146 #[.int .u32 x] w fun e w' => e = .returned (.int .i64 k) ∧ w' = w := by
  go_enter Tryz.func146, Tryz.ntmps146
  go_wp2_with (simp only [key])
  go_ret
  exact ⟨rfl, rfl⟩
/-- math/bits.TrailingZeros32, at every x. -/
theorem tz32 (x : Nat) (hx : x < 4294967296) (w : World) (hT : TabZ w) : Calls Tryz.prog 146 #[.int .u32 x] w fun e w' => e = .returned (.int .i64 (Lib.ctz 32 x)) ∧ w' = w := by
  by_cases hx0 : x = 0
  · subst hx0
    exact tz32_zero w
  · obtain ⟨hlow, hk⟩ := Lib.lowest_bit 32 x hx0 hx
    obtain ⟨hi, htab⟩ := Lib.deBruijn32_at _ hk
    have hcell := zcell hT _ hi
    rw [htab] at hcell
    exact tz32_at x _ _ w (by simp; omega) (tz32_key x _ hx hx0 hlow) hi hk hcell
end Go.Proofs.YteelgogfpidcdaaGreatDoor
namespace Go.Proofs.YteelgogfpidcdaaGreatDoor
theorem wrap_laid_shaped {H : Type} {enc : TypeId × Value → H} {a : Assume} {C : Checked} {os : Os} {f : FuncId} {fn : Func} {s : ChangeSpec} {conds : List PathCond} {apart fresh handsOn again : Bool} {X : World → Array Value → Prop}
    (hX : ∀ (w w' : World) (args : Array Value), w.heap = w'.heap → X w args → X w' args)
    (own : ownKnob C.prog.godebug = none) (started : os.Started) (noInit : C.prog.inits.idxOf? f = none) (hfn : C.prog.funcs[f]? = some fn)
    (witness : ∃ (w : World) (tape : Tape) (i : Input), w.os = os ∧ (w.forCall tape i).Shaped C.prog ∧ i.vars = [] ∧ Input.okWide C.prog (w.forCall tape i) .any w.heap.size f i ∧
      ((s.pre enc C.prog fn conds apart (w.forCall tape i).memory i.args ∧ X (w.forCall tape i).memory i.args) ∧ sizedMet enc C.prog fn (OpenSpec.ofChange s) apart (w.forCall tape i).memory i.args) ∧ a.holds C.prog (lone (Frame.enter C.prog f i.args .normal) [] (w.forCall tape i)))
    (walk : ∀ (W : World) (base : Nat) (args : Array Value) (ds gs : List (DataW H)) (before : List MemPlace), W.ShapedOpen C.prog →
      (∀ (j : Nat) t v, fn.params[j]? = some t → args[j]? = some v → Value.okWide C.prog W .any base t v) →
      DataW.Whole enc C.prog fn.params.toList s.vars apart W args.toList ds gs before →
      conds.all (PathCond.test C.prog ⟨fn.params.toList, ds, s.plain.varTypes C.prog, gs⟩) = true →
      (DataW.weightsEach C.prog (fn.params.toList ++ s.plain.varTypes C.prog) (ds ++ gs)).all (· ≤ reachBytes) = true → X W args →
      a.holds C.prog (lone (Frame.enter C.prog f args .normal) [] W) →
      Calls C.prog f args W fun e W' => ∃ v, e = .returned v ∧ s.post enc C.prog fn apart fresh handsOn again W args v W') :
    ReturnsInHanded a C os f .any (fun w args => (s.pre enc C.prog fn conds apart w args ∧ X w args) ∧ sizedMet enc C.prog fn (OpenSpec.ofChange s) apart w args) (s.post enc C.prog fn apart fresh handsOn again) :=
  returnsInHanded_of_calls own started noInit witness fun w tape i _ shape _ hok hpre hh => by
    obtain ⟨_, _, _, fn2, h2, _, _, _, _, hval⟩ := hok
    obtain rfl : fn2 = fn := Option.some.inj (h2.symm.trans hfn)
    obtain ⟨⟨⟨ds, gs, before, whole, hc⟩, hx⟩, sized⟩ := hpre
    refine (walk (w.forCall tape i) w.heap.size i.args ds gs before shape hval (DataW.Whole.of_heap (w' := w.forCall tape i) (by rfl) whole) hc (sized.weights whole) (hX _ _ _ (by rfl) hx) hh).mono fun e W' ⟨v, he, hp⟩ => ?_
    subst he
    exact ChangeSpec.post_blind hp
end Go.Proofs.YteelgogfpidcdaaGreatDoor
namespace Go.Proofs.YteelgogfpidcdaaGreatDoor
open Go.RowKit
set_option linter.unusedVariables false
/-- The slice v reads as the bytes xs. -/
def Code (w : World) (v : Value) (xs : List Int) : Prop :=
  (xs = [] ∧ ∃ a cap, v = .slice a 0 cap) ∨ ∃ b off cap, v = .slice (some ⟨b, off, none⟩) xs.length cap ∧ xs.length ≤ cap ∧ b < w.heap.size ∧ ∀ j, j < xs.length → w.cell? ⟨b, off + j, none⟩ = some (.int .u8 (xs.getD j 0))
/-- The cursor in block c over the bytes. -/
structure Cur (w0 : World) (c : Nat) (v : Value) (xs : List Int) (w : World) : Prop where
  code : Code w0 v xs
  small : xs.length ≤ 1048576
  bytes : ∀ x ∈ xs, 0 ≤ x ∧ x ≤ 255
  new : w0.heap.size ≤ c
  cells : ∃ i : Nat, ∃ h : Int, i ≤ xs.length ∧ w.heap[c]? = some (.cells #[v, .int .i64 i, .int .i64 h] 76 (0, 0))
  old : Below w0.heap.size w0 w
theorem and255 (z : Int) : 0 ≤ bits .and .i64 z 255 ∧ bits .and .i64 z 255 ≤ 255 := by
  have h : (BitVec.ofInt 64 z &&& BitVec.ofInt 64 255).toNat ≤ 255 := by
    rw [BitVec.toNat_and]
    exact Nat.le_trans Nat.and_le_right (by decide)
  have e : bits .and .i64 z 255 = IntKind.i64.wrap (((BitVec.ofInt 64 z &&& BitVec.ofInt 64 255).toNat : Nat) : Int) := rfl
  rw [e, IntKind.wrap_i64]
  omega
/-- What one byte leaves. -/
def Drawn (w0 : World) (c : Nat) (v : Value) (xs : List Int) (w : World) (top : Int) (e : Ending) (w' : World) : Prop :=
  ∃ x : Int, 0 ≤ x ∧ x ≤ top ∧ e = .returned (.int .i64 x) ∧ Cur w0 c v xs w' ∧ w.grownBy w' (some c)
theorem grown_set2 {w : World} {c : Nat} {v : Value} {i h : Int} {T : TypeId} (hc : w.heap[c]? = some (.cells #[v, .int .i64 i, .int .i64 h] T (0, 0))) (h' : Int) :
    (w.setCell ⟨c, 2, none⟩ (.int .i64 h')).heap[c]? = some (.cells #[v, .int .i64 i, .int .i64 h'] T (0, 0)) := by
  rw [heap_setCell_same w c 2 _ T _ hc]; rfl
theorem grown_set1 {w : World} {c : Nat} {v : Value} {i h : Int} {T : TypeId} (hc : w.heap[c]? = some (.cells #[v, .int .i64 i, .int .i64 h] T (0, 0))) (i' : Int) :
    (w.setCell ⟨c, 1, none⟩ (.int .i64 i')).heap[c]? = some (.cells #[v, .int .i64 i', .int .i64 h] T (0, 0)) := by
  rw [heap_setCell_same w c 1 _ T _ hc]; rfl
theorem grownBy_setCell (w : World) (c j : Nat) (u : Value) : w.grownBy (w.setCell ⟨c, j, none⟩ u) (some c) :=
  ⟨rfl, rfl, rfl, by simp [World.setCell], fun k _ hk => heap_setCell_other w ⟨c, j, none⟩ k u (fun e => hk (by simp [e]))⟩
theorem grownBy_drewN (w w' : World) (n : Nat) {row : Option Nat} (h : w.grownBy w' row) : w.grownBy (w'.drewN n) row := ⟨h.os, h.tape, h.output, h.size, h.block⟩
theorem below_like {B : Nat} {a w w' : World} (h : Below B a w) (h1 : w'.heap = w.heap) (h2 : w'.os = w.os) (h3 : w'.tape = w.tape) (h4 : w'.output = w.output) : Below B a w' :=
  ⟨h2.trans h.os, h3.trans h.tape, h4.trans h.output, by rw [h1]; exact h.size, fun k hk => by rw [h1]; exact h.block k hk⟩
theorem grown_like {a w w' : World} {r : Option Nat} (h : a.grownBy w r) (h1 : w'.heap = w.heap) (h2 : w'.os = w.os) (h3 : w'.tape = w.tape) (h4 : w'.output = w.output) : a.grownBy w' r :=
  ⟨h2.trans h.os, h3.trans h.tape, h4.trans h.output, by rw [h1]; exact h.size, fun k hk hn => by rw [h1]; exact h.block k hk hn⟩
theorem grown_chain {a b c : World} {r : Option Nat} (h : a.grownBy b r) (k : b.grownBy c r) : a.grownBy c r :=
  ⟨k.os.trans h.os, k.tape.trans h.tape, k.output.trans h.output, Nat.le_trans h.size k.size, fun i hi hne => (k.block i (Nat.lt_of_lt_of_le hi h.size) hne).trans (h.block i hi hne)⟩
set_option maxRecDepth 100000 in
theorem byte_any (w0 : World) (c : Nat) (v : Value) (xs : List Int) (w : World) (hC : Cur w0 c v xs w) :
    Calls Tryz.prog 83 #[.pointer (some ⟨c, 0, none⟩)] w (Drawn w0 c v xs w 255) := by
  obtain ⟨hcode, hsm, hby, hnew, ⟨i, h, hi, hc⟩, hold⟩ := hC
  have c0 := cell_of_row w c 0 _ _ _ hc
  have c1 := cell_of_row w c 1 _ _ _ hc
  have c2 := cell_of_row w c 2 _ _ _ hc
  have f1 := frozen_of_row w c 1 _ _ hc
  have f2 := frozen_of_row w c 2 _ _ hc
  simp at c0 c1 c2
  have HC := Lib.hid hc; clear hc
  by_cases hlt : i < xs.length
  · rcases hcode with ⟨rfl, _⟩ | ⟨b, off, cap, rfl, hcap, hbl, hb⟩
    · simp at hlt
    have hbi := hb i hlt
    have i1 : (0 : Int) ≤ (i : Int) := by omega
    have i2 : (i : Int) < (xs.length : Int) := by omega
    have HB := Lib.hid hb; clear hb
    have hcl := (Array.getElem?_eq_some_iff.1 HC.out).1
    have hcb : w.cell? ⟨b, off + i, none⟩ = some (.int .u8 (xs.getD i 0)) := (hold.cell hbl).trans hbi
    clear hbi
    generalize xs.getD i 0 = y at hcb
    go_enter Tryz.func83, Tryz.ntmps83
    go_wp2
    generalize wrap64 (wrap64 (h * 6364136223846793005) + 1442695040888963407) = g
    have hc2 := grown_set2 HC.out g
    have hg2 := grownBy_setCell w c 2 (.int .i64 g)
    have ho2 := hold.setCell (p := ⟨c, 2, none⟩) hnew (.int .i64 g)
    have hcb2 : (w.setCell ⟨c, 2, none⟩ (.int .i64 g)).cell? ⟨b, off + i, none⟩ = some (.int .u8 y) := by
      rw [World.cell?_of_block (w := w) (hg2.block b (by have := hold.size; omega) (by intro e; simp at e; omega))]; exact hcb
    generalize w.setCell ⟨c, 2, none⟩ (.int .i64 g) = w2 at *
    clear c0 c1 c2 f1 f2 hcb
    have c0 := cell_of_row w2 c 0 _ _ _ hc2
    have c1 := cell_of_row w2 c 1 _ _ _ hc2
    have c2 := cell_of_row w2 c 2 _ _ _ hc2
    have f1 := frozen_of_row w2 c 1 _ _ hc2
    simp at c0 c1 c2
    have HC2 := Lib.hid hc2; clear hc2
    go_quiet (fail)
    go_wp2
    go_quiet (fail)
    go_wp2
    go_quiet (fail)
    go_wp2
    go_ret
    refine ⟨_, (and255 _).1, (and255 _).2, rfl, ⟨Or.inr ⟨b, off, cap, rfl, hcap, hbl, HB.out⟩, hsm, hby, hnew, ⟨i + 1, g, by omega, ?_⟩, ?_⟩, grown_chain hg2 ?_⟩
    · exact grown_set1 HC2.out _
    · exact below_like (Below.setCell (w := w2) ho2 (p := ⟨c, 1, none⟩) hnew (.int .i64 ((i : Int) + 1))) rfl rfl rfl rfl
    · exact grown_like (grownBy_setCell w2 c 1 (.int .i64 ((i : Int) + 1))) rfl rfl rfl rfl
  · go_enter Tryz.func83, Tryz.ntmps83
    go_wp2
    generalize wrap64 (wrap64 (h * 6364136223846793005) + 1442695040888963407) = g
    have hc2 := grown_set2 HC.out g
    have hg2 := grownBy_setCell w c 2 (.int .i64 g)
    have ho2 := hold.setCell (p := ⟨c, 2, none⟩) hnew (.int .i64 g)
    generalize w.setCell ⟨c, 2, none⟩ (.int .i64 g) = w2 at *
    clear c0 c1 c2 f1 f2
    have c0 := cell_of_row w2 c 0 _ _ _ hc2
    have c1 := cell_of_row w2 c 1 _ _ _ hc2
    have c2 := cell_of_row w2 c 2 _ _ _ hc2
    have hlen : ∃ a cap, v = .slice a xs.length cap := by
      rcases hcode with ⟨rfl, a, cap, rfl⟩ | ⟨b, off, cap, rfl, _⟩
      · exact ⟨a, cap, rfl⟩
      · exact ⟨_, cap, rfl⟩
    obtain ⟨a, cap, rfl⟩ := hlen
    simp at c0 c1 c2
    have HC2 := Lib.hid hc2; clear hc2
    go_quiet (fail)
    go_wp2
    go_quiet (fail)
    go_wp2
    go_ret
    exact ⟨_, (and255 _).1, (and255 _).2, rfl, ⟨hcode, hsm, hby, hnew, ⟨i, g, hi, HC2.out⟩, below_like ho2 rfl rfl rfl rfl⟩, grown_like hg2 rfl rfl rfl rfl⟩
end Go.Proofs.YteelgogfpidcdaaGreatDoor
namespace Go.Proofs.YteelgogfpidcdaaGreatDoor
open Go.RowKit
set_option linter.unusedVariables false
theorem below_small (w0 : World) (c : Nat) (v : Value) (xs : List Int) (w : World) (hC : Cur w0 c v xs w) (n : Int) (h1 : 1 ≤ n) (h2 : n ≤ 256) :
    Calls Tryz.prog 52 #[.pointer (some ⟨c, 0, none⟩), .int .i64 n] w (Drawn w0 c v xs w (n - 1)) := by
  have hn : (n == 0) = false := by rw [beq_eq_false_iff_ne]; omega
  go_enter Tryz.func52, Tryz.ntmps52
  go_wp2_with (go_at_call 83; refine (byte_any _ _ _ _ _ (by assumption)).mono ?_; rintro e w1 ⟨x, x0, x1, rfl, hC1, hg1⟩)
  go_ret
  exact ⟨_, Int.emod_nonneg _ (by omega), by have := Int.emod_lt_of_pos x (show 0 < n by omega); omega, rfl, hC1, hg1⟩
theorem below_large (w0 : World) (c : Nat) (v : Value) (xs : List Int) (w : World) (hC : Cur w0 c v xs w) (n : Int) (h1 : 256 < n) (h2 : n ≤ 1000000000) :
    Calls Tryz.prog 52 #[.pointer (some ⟨c, 0, none⟩), .int .i64 n] w (Drawn w0 c v xs w (n - 1)) := by
  have hn : (n == 0) = false := by rw [beq_eq_false_iff_ne]; omega
  go_enter Tryz.func52, Tryz.ntmps52
  go_wp2_with fail
  refine (byte_any _ _ _ _ _ hC).mono ?_
  rintro e w1 ⟨x, x0, x1, rfl, hC1, hg1⟩
  go_wp2_with fail
  refine (byte_any _ _ _ _ _ hC1).mono ?_
  rintro e w2 ⟨y, y0, y1, rfl, hC2, hg2⟩
  go_wp2_with fail
  refine (byte_any _ _ _ _ _ hC2).mono ?_
  rintro e w3 ⟨z, z0, z1, rfl, hC3, hg3⟩
  go_wp2_with fail
  refine (byte_any _ _ _ _ _ hC3).mono ?_
  rintro e w4 ⟨t, t0, t1, rfl, hC4, hg4⟩
  go_wp2
  go_ret
  exact ⟨_, Int.emod_nonneg _ (by omega), by have := Int.emod_lt_of_pos (x * 16777216 + y * 65536 + z * 256 + t) (show 0 < n by omega); omega, rfl, hC4, grown_chain hg1 (grown_chain hg2 (grown_chain hg3 hg4))⟩
theorem below_any (w0 : World) (c : Nat) (v : Value) (xs : List Int) (w : World) (hC : Cur w0 c v xs w) (n : Int) (h1 : 1 ≤ n) (h2 : n ≤ 1000000000) :
    Calls Tryz.prog 52 #[.pointer (some ⟨c, 0, none⟩), .int .i64 n] w (Drawn w0 c v xs w (n - 1)) := by
  by_cases h : n ≤ 256
  · exact below_small w0 c v xs w hC n h1 h
  · exact below_large w0 c v xs w hC n (by omega) h2
/-- A number between lo and hi is drawn. -/
def DrawnIn (w0 : World) (c : Nat) (v : Value) (xs : List Int) (w : World) (lo hi : Int) (e : Ending) (w' : World) : Prop :=
  ∃ x : Int, lo ≤ x ∧ x ≤ hi ∧ e = .returned (.int .i64 x) ∧ Cur w0 c v xs w' ∧ w.grownBy w' (some c)
theorem pick_any (w0 : World) (c : Nat) (v : Value) (xs : List Int) (w : World) (hC : Cur w0 c v xs w) (g : Nat) (L : List Int) (lo hi : Int) (hL : ∀ x ∈ L, lo ≤ x ∧ x ≤ hi) (h1 : 1 ≤ L.length) (h2 : L.length ≤ 256)
    (hg : w.heap[g]? = some (.cells (L.map (Value.int .i64)).toArray 3 (0, 0))) (hne : g ≠ c) :
    Calls Tryz.prog 53 #[.pointer (some ⟨c, 0, none⟩), .slice (some ⟨g, 0, none⟩) L.length L.length] w (DrawnIn w0 c v xs w lo hi) := by
  have HL := Lib.hid hL; clear hL
  have HG := Lib.hid hg; clear hg
  go_enter Tryz.func53, Tryz.ntmps53
  go_wp2_with fail
  refine (below_any w0 c v xs _ hC L.length (by omega) (by omega)).mono ?_
  rintro e w1 ⟨x, x0, x1, rfl, hC1, hg1⟩
  obtain ⟨k, rfl⟩ := Int.eq_ofNat_of_zero_le x0
  have hk : k < L.length := by omega
  have hcell : w1.cell? ⟨g, k, none⟩ = some (.int .i64 L[k]) := by
    have hgl := (Array.getElem?_eq_some_iff.1 HG.out).1
    have := cell_of_row w1 g k _ _ _ ((hg1.block g hgl (by intro e; simp at e; exact hne e)).trans HG.out)
    rw [this]; simp [hk]
  have hm := HL.out L[k] (List.getElem_mem hk)
  obtain ⟨m0, m1⟩ := hm
  generalize L[k] = y at hcell m0 m1
  go_wp2
  go_ret
  exact ⟨y, m0, m1, rfl, hC1, hg1⟩
/-- The numbers that are drawn with weight. -/
def picks : List Int := [-1, 0, 127, 128, 255, 256, 16383, 16384, 65535, 65536, 562949953421311, 562949953421312, 999999999, 1000000000, -999999999, 9223372036854775807, -9223372036854775808]
theorem picks_in : ∀ x ∈ picks, -9223372036854775808 ≤ x ∧ x ≤ 9223372036854775807 := by decide
theorem cur_alloc {w0 : World} {c : Nat} {v : Value} {xs : List Int} {w : World} (h : Cur w0 c v xs w) (o : Obj) : Cur w0 c v xs (w.alloc o) := by
  obtain ⟨h1, h2, h3, h4, ⟨i, hh, h5, h6⟩, h7⟩ := h
  refine ⟨h1, h2, h3, h4, ⟨i, hh, h5, ?_⟩, h7.alloc h7.size o⟩
  rw [Below.heap_alloc w o c (Array.getElem?_eq_some_iff.1 h6).1]; exact h6
theorem cur_lt {w0 : World} {c : Nat} {v : Value} {xs : List Int} {w : World} (h : Cur w0 c v xs w) : c < w.heap.size := by
  obtain ⟨_, _, _, _, ⟨i, hh, h5, h6⟩, _⟩ := h
  exact (Array.getElem?_eq_some_iff.1 h6).1
theorem mul_range (x y : Int) (x0 : 0 ≤ x) (x1 : x ≤ 999999999) (y0 : 0 ≤ y) (y1 : y ≤ 999999999) : 0 ≤ x * y ∧ x * y ≤ 999999998000000001 := by
  refine ⟨Int.mul_nonneg x0 y0, ?_⟩
  have := Int.mul_le_mul x1 y1 y0 (by omega)
  omega
theorem ownsB_grown {w w' : World} {B c : Nat} {v : Value} {xs : List Int} (h : OwnsB w B v xs) (hg : w.grownBy w' (some c)) (hc : c < B) : OwnsB w' B v xs := by
  refine h.kept hg ?_
  cases hv : v.ownBlock with
  | none => exact Or.inl rfl
  | some k => exact Or.inr (by intro e; have := (h.lt k hv).1; simp at e; omega)
theorem cur_below {w0 : World} {c : Nat} {v : Value} {xs : List Int} {w w' : World} {B : Nat} (h : Cur w0 c v xs w) (hc : c < B) (h0 : w0.heap.size ≤ B) (hb : Below B w w') : Cur w0 c v xs w' := by
  obtain ⟨h1, h2, h3, h4, ⟨i, hh, h5, h6⟩, h7⟩ := h
  exact ⟨h1, h2, h3, h4, ⟨i, hh, h5, (hb.block c hc).trans h6⟩, h7.trans (hb.mono h0)⟩
theorem grown_below {a b b' : World} {c : Nat} (h : a.grownBy b (some c)) (hb : Below a.heap.size b b') : a.grownBy b' (some c) :=
  ⟨hb.os.trans h.os, hb.tape.trans h.tape, hb.output.trans h.output, Nat.le_trans h.size hb.size, fun k hk hn => (hb.block k hk).trans (h.block k hk hn)⟩
/-- A text of at most most bytes is drawn. -/
def DrawnText (w0 : World) (c : Nat) (v : Value) (xs : List Int) (w : World) (most : Nat) (e : Ending) (w' : World) : Prop :=
  ∃ bs : List Int, bs.length ≤ most ∧ e = .returned (.string (strOfNums bs)) ∧ Cur w0 c v xs w' ∧ w.grownBy w' (some c)
end Go.Proofs.YteelgogfpidcdaaGreatDoor
namespace Go.Proofs.YteelgogfpidcdaaGreatDoor
open Go.RowKit
set_option linter.unusedVariables false
theorem code_below {W w : World} {v : Value} {xs : List Int} (h : Code W v xs) (hb : Below W.heap.size W w) : Code w v xs := by
  rcases h with h | ⟨b, off, cap, h1, h2, h3, h4⟩
  · exact Or.inl h
  · exact Or.inr ⟨b, off, cap, h1, h2, Nat.lt_of_lt_of_le h3 hb.size, fun j hj => (hb.cell (p := ⟨b, off + j, none⟩) h3).trans (h4 j hj)⟩
/-- A new cursor. -/
def NewCur (v : Value) (xs : List Int) (w : World) (e : Ending) (w' : World) : Prop :=
  e = .returned (.pointer (some ⟨w.heap.size, 0, none⟩)) ∧ Cur w w.heap.size v xs w'
set_option maxRecDepth 100000 in
theorem new_any (v : Value) (xs : List Int) (w : World) (hcode : Code w v xs) (hsm : xs.length ≤ 1048576) (hby : ∀ x ∈ xs, 0 ≤ x ∧ x ≤ 255) :
    Calls Tryz.prog 22 #[v] w (NewCur v xs w) := by
  have HCODE := Lib.hid hcode
  have HBY := Lib.hid hby; clear hby
  rcases hcode with ⟨rfl, ao, cap, rfl⟩ | ⟨b, off, cap, rfl, hcap, hbl, hb⟩
  · go_enter Tryz.func22, Tryz.ntmps22
    go_wp2
    go_loop [3, 4] (fun h i => ∃ z : Int, i = .int .i64 0 ∧ h = .int .i64 z) (fun _ _ => 0)
    case atStart => exact ⟨_, rfl, rfl⟩
    case round =>
      obtain ⟨z, rfl, rfl⟩ := hrel
      go_wp2
      go_ret
      exact ⟨rfl, HCODE.out, hsm, HBY.out, Nat.le_refl _, ⟨0, _, Nat.le_refl _, heap_alloc_new w _⟩, (Below.refl _ _).alloc (Nat.le_refl _) _⟩
  · have HB := Lib.hid hb; clear hb
    go_enter Tryz.func22, Tryz.ntmps22
    go_wp2
    go_loop [3, 4] (fun h i => ∃ k : Nat, ∃ z : Int, k ≤ xs.length ∧ k ≤ 4000 ∧ i = .int .i64 k ∧ h = .int .i64 z) (fun _ i => 4000 - (intOf i).toNat)
    case atStart => exact ⟨0, _, by omega, by omega, rfl, rfl⟩
    case round =>
      obtain ⟨k, z, hk, hk4, rfl, rfl⟩ := hrel
      by_cases hlt : k < xs.length
      · by_cases h4 : k < 4000
        · have hcell := HB.out k hlt
          have i1 : (0 : Int) ≤ (k : Int) := by omega
          have i2 : (k : Int) < (xs.length : Int) := by omega
          generalize xs.getD k 0 = y at hcell
          go_wp2
          go_round
          case rel => exact ⟨k + 1, _, by omega, by omega, by go_num, rfl⟩
          case measure => simp [intOf]; omega
        · go_wp2
          go_ret
          exact ⟨rfl, HCODE.out, hsm, HBY.out, Nat.le_refl _, ⟨0, _, Nat.zero_le _, heap_alloc_new w _⟩, (Below.refl _ _).alloc (Nat.le_refl _) _⟩
      · have hge : ¬ ((k : Int) < (xs.length : Int)) := by omega
        go_wp2
        go_ret
        exact ⟨rfl, HCODE.out, hsm, HBY.out, Nat.le_refl _, ⟨0, _, Nat.zero_le _, heap_alloc_new w _⟩, (Below.refl _ _).alloc (Nat.le_refl _) _⟩
/-- A number. -/
def GotInt (w : World) (lo hi : Int) (e : Ending) (w' : World) : Prop := ∃ x : Int, lo ≤ x ∧ x ≤ hi ∧ e = .returned (.int .i64 x) ∧ Below w.heap.size w w'
/-- A text. -/
def GotText (w : World) (most : Nat) (e : Ending) (w' : World) : Prop := ∃ bs : List Int, bs.length ≤ most ∧ e = .returned (.string (strOfNums bs)) ∧ Below w.heap.size w w'
/-- Two numbers. -/
def GotInts (w : World) (lo hi lo2 hi2 : Int) (e : Ending) (w' : World) : Prop := ∃ x y : Int, lo ≤ x ∧ x ≤ hi ∧ lo2 ≤ y ∧ y ≤ hi2 ∧ e = .returned (.tuple #[.int .i64 x, .int .i64 y]) ∧ Below w.heap.size w w'
end Go.Proofs.YteelgogfpidcdaaGreatDoor
namespace Go.Proofs.YteelgogfpidcdaaGreatDoor
open Go.RowKit
set_option linter.unusedVariables false
theorem ownsN_grown {w w' : World} {B c : Nat} {v : Value} {xs : List Int} (h : OwnsN w B v xs) (hg : w.grownBy w' (some c)) (hc : c < B) : OwnsN w' B v xs := by
  refine h.kept hg ?_
  cases hv : v.ownBlock with
  | none => exact Or.inl rfl
  | some k => exact Or.inr (by intro e; have := (h.lt k hv).1; simp at e; omega)
theorem ownsN_from {w : World} {B C : Nat} {v : Value} {xs : List Int} (h : OwnsN w C v xs) (hb : B ≤ C) : OwnsN w B v xs := by
  refine ⟨h.1, ?_⟩
  rcases h.2 with hn | ⟨g, cap, cur, e, hb', rest⟩
  · exact .inl hn
  · exact .inr ⟨g, cap, cur, e, Nat.le_trans hb hb', rest⟩
/-- A choice is drawn. -/
def DrawnBool (w0 : World) (c : Nat) (v : Value) (xs : List Int) (w : World) (e : Ending) (w' : World) : Prop :=
  (∃ b : Bool, e = .returned (.bool b)) ∧ Cur w0 c v xs w' ∧ w.grownBy w' (some c)
/-- A list of at most most numbers is drawn, in new memory. -/
def DrawnList (w0 : World) (c : Nat) (v : Value) (xs : List Int) (w : World) (most : Nat) (e : Ending) (w' : World) : Prop :=
  ∃ (u : Value) (ys : List Int), ys.length ≤ most ∧ e = .returned u ∧ OwnsN w' w.heap.size u ys ∧ Cur w0 c v xs w' ∧ w.grownBy w' (some c)
set_option maxRecDepth 100000 in
theorem once_any (w0 : World) (c : Nat) (v : Value) (xs : List Int) (w : World) (hC : Cur w0 c v xs w) (n : Int) (h1 : 1 ≤ n) (h2 : n ≤ 256) :
    Calls Tryz.prog 55 #[.pointer (some ⟨c, 0, none⟩), .int .i64 n] w (DrawnBool w0 c v xs w) := by
  go_enter Tryz.func55, Tryz.ntmps55
  go_wp2_with fail
  refine (below_any w0 c v xs _ hC n h1 (by omega)).mono ?_
  rintro e w1 ⟨x, x0, x1, rfl, hC1, hg1⟩
  go_wp2
  go_ret
  exact ⟨⟨_, rfl⟩, hC1, hg1⟩
def anys : List Int := [-1, 0, 23, 24]
theorem anys_in : ∀ x ∈ anys, -1 ≤ x ∧ x ≤ 24 := by decide
/-- Two lists are drawn. -/
def Two (w : World) (e : Ending) (w' : World) : Prop :=
  ∃ (u t : Value) (a b : List Int), a.length ≤ 7 ∧ b.length ≤ 7 ∧ e = .returned (.tuple #[u, t]) ∧ OwnsN w' w.heap.size u a ∧ OwnsN w' w.heap.size t b ∧ Below w.heap.size w w'
end Go.Proofs.YteelgogfpidcdaaGreatDoor
namespace Go.Proofs.YteelgogfpidcdaaGreatDoor
open Go.RowKit
set_option linter.unusedVariables false
set_option linter.unusedSimpArgs false
/-- The cursor goes on from w to wr; of what was there only the cursor turned. -/
structure Dr (w0 : World) (c : Nat) (v : Value) (xs : List Int) (w wr : World) : Prop where
  cur : Cur w0 c v xs wr
  gr : w.grownBy wr (some c)
  lt : c < w.heap.size
  low : w0.heap.size ≤ w.heap.size
theorem grownBy_refl (w : World) (r : Option Nat) : w.grownBy w r := ⟨rfl, rfl, rfl, Nat.le_refl _, fun _ _ _ => rfl⟩
theorem Dr.start {w0 : World} {c : Nat} {v : Value} {xs : List Int} {w : World} (h : Cur w0 c v xs w) : Dr w0 c v xs w w := ⟨h, grownBy_refl _ _, cur_lt h, h.old.size⟩
theorem Dr.alloc {w0 : World} {c : Nat} {v : Value} {xs : List Int} {w wr : World} (h : Dr w0 c v xs w wr) (o : Obj) : Dr w0 c v xs w (wr.alloc o) := ⟨cur_alloc h.cur o, grown_chain h.gr (World.grownBy_alloc wr o _), h.lt, h.low⟩
theorem Dr.call {w0 : World} {c : Nat} {v : Value} {xs : List Int} {w wr w' : World} (h : Dr w0 c v xs w wr) (hC : Cur w0 c v xs w') (hg : wr.grownBy w' (some c)) : Dr w0 c v xs w w' := ⟨hC, grown_chain h.gr hg, h.lt, h.low⟩
theorem Dr.below {w0 : World} {c : Nat} {v : Value} {xs : List Int} {w wr w' : World} {B : Nat} (h : Dr w0 c v xs w wr) (hb : Below B wr w') (hB : w.heap.size ≤ B) : Dr w0 c v xs w w' :=
  ⟨cur_below h.cur (Nat.lt_of_lt_of_le h.lt hB) (Nat.le_trans h.low hB) hb, grown_below h.gr (hb.mono hB), h.lt, h.low⟩
theorem Dr.set {w0 : World} {c : Nat} {v : Value} {xs : List Int} {w wr : World} (h : Dr w0 c v xs w wr) {R : Nat} (hR : w.heap.size ≤ R) (j : Nat) (u : Value) : Dr w0 c v xs w (wr.setCell ⟨R, j, none⟩ u) :=
  h.below ((Below.refl w.heap.size wr).setCell (p := ⟨R, j, none⟩) hR u) (Nat.le_refl _)
theorem Dr.size {w0 : World} {c : Nat} {v : Value} {xs : List Int} {w wr : World} (h : Dr w0 c v xs w wr) : w.heap.size ≤ wr.heap.size := h.gr.size
theorem Dr.ne {w0 : World} {c : Nat} {v : Value} {xs : List Int} {w wr : World} (h : Dr w0 c v xs w wr) {R : Nat} (hR : w.heap.size ≤ R) : R ≠ c := by have := h.lt; omega
/-- What the cursor's turning leaves alone. -/
theorem keep {w w' : World} {c k : Nat} {o : Obj} (hg : w.grownBy w' (some c)) (hne : k ≠ c) (h : w.heap[k]? = some o) : w'.heap[k]? = some o := (hg.block k (Array.getElem?_eq_some_iff.1 h).1 (fun e => hne (Option.some.inj e))).trans h
theorem keepA {w : World} {k : Nat} {o : Obj} (x : Obj) (h : w.heap[k]? = some o) : (w.alloc x).heap[k]? = some o := (Below.heap_alloc _ _ _ (Array.getElem?_eq_some_iff.1 h).1).trans h
theorem keepB {w w' : World} {B k : Nat} {o : Obj} (hb : Below B w w') (hk : k < B) (h : w.heap[k]? = some o) : w'.heap[k]? = some o := (hb.block k hk).trans h
def wides : List Int := [3, 6, 100]
theorem wides_in : ∀ x ∈ wides, 3 ≤ x ∧ x ≤ 100 := by decide
/-- A row is drawn, in new memory. -/
def DrawnRow (w0 : World) (c : Nat) (v : Value) (xs : List Int) (w : World) (e : Ending) (w' : World) : Prop :=
  ∃ (id : Int) (u : Value) (ys : List Int), e = .returned (.agg #[.int .i64 id, u]) ∧ OwnsN w' w.heap.size u ys ∧ ys.length ≤ 4 ∧ Dr w0 c v xs w w'
def DrawnRow3 (w0 : World) (c : Nat) (v : Value) (xs : List Int) (w : World) (e : Ending) (w' : World) : Prop :=
  ∃ (id : Int) (u : Value) (ys : List Int), e = .returned (.agg #[.int .i64 id, u]) ∧ OwnsN w' w.heap.size u ys ∧ ys.length = 3 ∧ Dr w0 c v xs w w'
set_option maxHeartbeats 4000000 in
set_option maxRecDepth 100000 in
theorem row_any (w0 : World) (c : Nat) (v : Value) (xs : List Int) (w : World) (hC : Cur w0 c v xs w) (id : Int) :
    Calls Tryz.prog 72 #[.pointer (some ⟨c, 0, none⟩), .int .i64 id] w (DrawnRow3 w0 c v xs w) := by
  have hD := (((Dr.start hC).alloc (.cells #[.int .i64 0, .slice none 0 0] 36)).alloc (.cells #[.int .i64 id, .slice none 0 0] 36)).alloc (.cells (wides.map (Value.int .i64)).toArray 3 (0, 0))
  have hz := keepA (.cells (wides.map (Value.int .i64)).toArray 3 (0, 0)) (keepA (.cells #[.int .i64 id, .slice none 0 0] 36) (heap_alloc_new w (.cells #[.int .i64 0, .slice none 0 0] 36)))
  have hb := keepA (.cells (wides.map (Value.int .i64)).toArray 3 (0, 0)) (heap_alloc_new (w.alloc (.cells #[.int .i64 0, .slice none 0 0] 36)) (.cells #[.int .i64 id, .slice none 0 0] 36))
  have hl := heap_alloc_new ((w.alloc (.cells #[.int .i64 0, .slice none 0 0] 36)).alloc (.cells #[.int .i64 id, .slice none 0 0] 36)) (.cells (wides.map (Value.int .i64)).toArray 3 (0, 0))
  simp only [World.size_alloc] at hb hl
  have hne : w.heap.size + 1 + 1 ≠ c := hD.ne (by omega)
  have HP := Lib.hid (pick_any w0 c v xs _ hD.cur (w.heap.size + 1 + 1) wides 3 100 wides_in (by decide) (by decide) hl hne)
  have HD := Lib.hid hD
  have HZ := Lib.hid hz
  have HB := Lib.hid hb
  clear hD hz hb hl hne hC
  go_enter Tryz.func72, Tryz.ntmps72
  go_wp2_with fail
  refine Calls.mono HP.out ?_
  rintro e w1 ⟨wd, d0, d1, rfl, hC1, hg1⟩
  have D1 := HD.out.call hC1 hg1
  have z1 := keep hg1 (HD.out.ne (Nat.le_refl _)) HZ.out
  have b1 := keep hg1 (HD.out.ne (by omega)) HB.out
  have s1 : w.heap.size + 1 + 1 ≤ w1.heap.size := by have := hg1.size; simp only [World.size_alloc] at this; omega
  clear hC1 hg1 HP HD HZ HB
  go_wp2
  go_loopw [7] (fun i wr => ∃ (k : Nat) (u : Value) (ys : List Int), k ≤ 3 ∧ ys.length = k ∧ i = .int .i64 k ∧ wr.heap[w.heap.size + 1]? = some (.cells #[.int .i64 id, u] 36 (0, 0)) ∧ wr.heap[w.heap.size]? = some (.cells #[.int .i64 0, .slice none 0 0] 36 (0, 0)) ∧ OwnsN wr (w.heap.size + 1 + 1) u ys ∧ Dr w0 c v xs w wr) (fun i _ => 3 - (intOf i).toNat)
  case atStart => exact ⟨0, .slice none 0 0, [], by omega, rfl, rfl, b1, z1, ownsN_nil _ _, D1⟩
  case round =>
    obtain ⟨k, u, ys, hk, hyl, rfl, hb, hz, hown, hD⟩ := hrel
    clear D1 b1 z1
    have HL := Lib.hid hyl
    clear hyl
    obtain ⟨ua, ucap, rfl⟩ := ints_len (ownsN_ints hown)
    have hsz : w.heap.size + 1 + 1 ≤ wr.heap.size := by have := (Array.getElem?_eq_some_iff.1 hb).1; omega
    by_cases hlt : k < 3
    · go_wp2_with fail
      refine (below_any w0 c v xs _ hD.cur wd (by omega) (by omega)).mono ?_
      rintro e w2 ⟨x, x0, x1, rfl, hC2, hg2⟩
      have D2 := hD.call hC2 hg2
      have b2 := keep hg2 (hD.ne (by omega)) hb
      have z2 := keep hg2 (hD.ne (Nat.le_refl _)) hz
      have o2 := ownsN_grown hown hg2 (by have := hD.lt; omega)
      have s2 := Nat.le_trans hsz hg2.size
      clear hD hC2 hg2 hb hz hown hsz
      have al : Below w2.heap.size w2 (w2.alloc (.cells #[.int .i64 x] 3)) := (Below.refl _ _).alloc (Nat.le_refl _) _
      have q7 := (cell_lit w2 #[.int .i64 x] 3 0).trans (show _ = some (Value.int .i64 x) from rfl)
      have l7 : w2.heap.size < (w2.alloc (.cells #[.int .i64 x] 3)).heap.size := by simp
      have p1 := (cell_of_row w2 _ 1 _ _ _ b2).trans (show _ = some (Value.slice ua ys.length ucap) from rfl)
      have HI7 : Hid (Ints (w2.alloc (.cells #[.int .i64 x] 3)) (.slice (some ⟨w2.heap.size, 0, none⟩) 1 1) [x]) := Lib.hid (Or.inr ⟨w2.heap.size, 0, 1, rfl, by simp, l7, fun j hj => by
        have : j = 0 := by simp at hj; omega
        subst this
        simp⟩)
      have o3 := ownsN_below o2 al
      have D3 := D2.alloc (.cells #[.int .i64 x] 3)
      have b3 := keepA (.cells #[.int .i64 x] 3) b2
      have z3 := keepA (.cells #[.int .i64 x] 3) z2
      have s3 := Nat.le_trans s2 al.size
      clear o2 D2 b2 z2 s2 al q7 l7
      go_wp2_with (at_builtin; refine wpl_append_ints rfl (.tmp 22) (.tmp 24) rfl (w.heap.size + 1 + 1) _ _ ys [x] rfl rfl o3 HI7.out s3 (by have := HL.out; simp; omega) ?_; intro u4 w4 o4 bl4; obtain ⟨ua4, ucap4, rfl⟩ := ints_len (ownsN_ints o4); have D4 := D3.below bl4 (by omega); have b4 := keepB bl4 (by omega) b3; have z4 := keepB bl4 (by omega) z3; have y1 := (cell_of_row w4 _ 1 _ _ _ b4).trans (show _ = some (Value.slice ua ys.length ucap) from rfl); have f1 := frozen_of_row w4 _ 1 _ _ b4; clear o3 D3 b3 z3 bl4)
      have r1 := heap_setCell_same w4 (w.heap.size + 1) 1 _ _ (.slice ua4 (ys ++ [x]).length ucap4) b4
      have zz := (heap_setCell_other w4 ⟨w.heap.size + 1, 1, none⟩ w.heap.size (.slice ua4 (ys ++ [x]).length ucap4) (by simp)).trans z4
      have D5 := D4.set (R := w.heap.size + 1) (by omega) 1 (.slice ua4 (ys ++ [x]).length ucap4)
      have o5 := ownsN_low o4 (b := w.heap.size + 1) (by omega) 1 (.slice ua4 (ys ++ [x]).length ucap4)
      go_roundw
      case rel => exact ⟨k + 1, .slice ua4 (ys ++ [x]).length ucap4, ys ++ [x], by omega, by simp; exact HL.out, by go_num, by simpa using r1, by simpa using zz, by simpa using o5, by simpa using D5⟩
      case measure => simp [intOf]; omega
    · obtain rfl : k = 3 := by omega
      have q0 := (cell_of_row wr _ 0 _ _ _ hb).trans (show _ = some (Value.int .i64 id) from rfl)
      have q1 := (cell_of_row wr _ 1 _ _ _ hb).trans (show _ = some (Value.slice ua ys.length ucap) from rfl)
      have y0 := (cell_of_row wr _ 0 _ _ _ hz).trans (show _ = some (Value.int .i64 0) from rfl)
      have y1 := (cell_of_row wr _ 1 _ _ _ hz).trans (show _ = some (Value.slice none 0 0) from rfl)
      have f0 := frozen_of_row wr _ 0 _ _ hz
      have f1 := frozen_of_row wr _ 1 _ _ hz
      go_wp2
      have r1 := heap_setCell_same wr w.heap.size 0 _ _ (.int .i64 id) hz
      have r2 := heap_setCell_same _ w.heap.size 1 _ _ (.slice ua ys.length ucap) r1
      have D5 := (hD.set (R := w.heap.size) (Nat.le_refl _) 0 (.int .i64 id)).set (R := w.heap.size) (Nat.le_refl _) 1 (.slice ua ys.length ucap)
      have o5 := ownsN_low (ownsN_low hown (b := w.heap.size) (by omega) 0 (.int .i64 id)) (b := w.heap.size) (by omega) 1 (.slice ua ys.length ucap)
      have e0 := cell_of_row _ _ 0 _ _ _ r2
      have e1 := cell_of_row _ _ 1 _ _ _ r2
      simp at e0 e1
      refine bodyPost_ret (v := .agg #[.int .i64 id, .slice ua ys.length ucap]) ?_ rfl ?_
      · simp [results, Tryz.f72, go_sem, e0, e1]
      · exact ⟨id, _, ys, rfl, ownsN_up o5 (by omega), HL.out, D5⟩
end Go.Proofs.YteelgogfpidcdaaGreatDoor
namespace Go.Proofs.YteelgogfpidcdaaGreatDoor
open Go.RowKit
set_option linter.unusedVariables false
set_option linter.unusedSimpArgs false
def ids3 : List Int := [-1, 999, 1000]
def vals3 : List Int := [-1, 99, 100]
theorem ownsN_off {w : World} {B : Nat} {v : Value} {xs : List Int} (h : OwnsN w B v xs) {b : Nat} (hne : v.ownBlock ≠ some b) (j : Nat) (u : Value) : OwnsN (w.setCell ⟨b, j, none⟩ u) B v xs := by
  refine ⟨h.1, ?_⟩
  rcases h.2 with hn | ⟨g, cap, cur, rfl, hb', hg, rest⟩
  · exact .inl hn
  · refine .inr ⟨g, cap, cur, rfl, hb', ?_, rest⟩
    have hgb : ¬ b = g := fun e => hne (by rw [e]; rfl)
    exact (heap_setCell_other w ⟨b, j, none⟩ g u (by simpa using fun e => hgb e.symm)).trans hg
theorem ownsN_apart {w : World} {B R : Nat} {v : Value} {xs : List Int} {vals : Array Value} {T : TypeId} {fr : Nat × Nat} (h : OwnsN w B v xs) (hb : w.heap[R]? = some (.cells vals T fr)) (hT : T ≠ 3) : v.ownBlock ≠ some R := by
  intro e
  rcases h.2 with ⟨rfl, _⟩ | ⟨g, cap, cur, rfl, _, hg, _⟩
  · simp [Value.ownBlock] at e
  · have : g = R := by simpa [Value.ownBlock] using e
    subst this
    rw [hg] at hb
    simp only [Option.some.injEq, Obj.cells.injEq] at hb
    exact hT hb.2.1.symm
theorem wpl_append_one {w : World} {ops : Array Oper} {rest : List Oper} {o : Oper} {a : Act} {Q : Exit → Act → World → Prop} (hgd : o.guard = none) (s x : Operand)
    (ho : o.op = .call { callee := .builtin .append, args := #[s, x], argTypes := #[25, 25] })
    (B : Nat) (v : Value) (xs : List Int) (b : Nat) (y : Int) (hs : a.eval s = v) (hx : a.eval x = .slice (some ⟨b, 0, none⟩) 1 1) (hown : OwnsN w B v xs) (hu : w.cell? ⟨b, 0, none⟩ = some (.int .i64 y)) (hB : B ≤ w.heap.size) (h63 : xs.length ≤ 1048576)
    (h : ∀ v' w', OwnsN w' B v' (xs ++ [y]) → w.grownBy w' v.ownBlock → wpList Tryz.prog ops Q rest (a.put o.dst v') w') : wpList Tryz.prog ops Q (o :: rest) a w := by
  obtain ⟨i0, hi, hz0, hz1, hz2⟩ := info_parts Tryz.infoI64
  refine wpList_plain hgd fun K hK => ?_
  obtain ⟨v', w', hr, h2, h3, h4⟩ := run_append_own (P := Tryz.prog) w B 25 o.type 3 i0 (.int .i64 0) 1 8 Tryz.underlying25 hi hz0 hz1 hz2 rfl (by decide) v xs.length _ hown ⟨b, 0, none⟩ 1 1 [Value.int .i64 y] (by simp) (by
    intro j q hj
    rw [Go.WideShapes.add_plain]
    have : j = 0 := by
      by_cases e : j = 0
      · exact e
      · rw [List.getElem?_eq_none (by simp; omega)] at hj; simp at hj
    subst this
    simp at hj
    rw [← hj]; exact hu) (by intro q hq; simp at hq; rw [hq]; rfl) (by unfold maxLen; omega) (by omega) hB
  unfold Oper.wp
  simp [execOp, ho, resolve, invoke, builtin, hs, hx, hr, Result.andThen]
  refine hK _ _ (h v' w' ?_ h3)
  unfold OwnsN
  simpa using h2
set_option maxHeartbeats 8000000 in
set_option maxRecDepth 100000 in
theorem rowAny_any (w0 : World) (c : Nat) (v : Value) (xs : List Int) (w : World) (hC : Cur w0 c v xs w) :
    Calls Tryz.prog 37 #[.pointer (some ⟨c, 0, none⟩)] w (DrawnRow w0 c v xs w) := by
  have D0 := (Dr.start hC).alloc (.cells #[.int .i64 0, .slice none 0 0] 36)
  have z0 := heap_alloc_new w (.cells #[.int .i64 0, .slice none 0 0] 36)
  have s0 : (w.alloc (.cells #[.int .i64 0, .slice none 0 0] 36)).heap.size = w.heap.size + 1 := by simp
  have HD0 := Lib.hid D0
  have HZ0 := Lib.hid z0
  have HS0 := Lib.hid s0
  clear D0 z0 s0 hC
  go_enter Tryz.func37, Tryz.ntmps37
  go_wp2_with fail
  generalize w.alloc (.cells #[.int .i64 0, .slice none 0 0] 36) = W at *
  refine (below_any w0 c v xs _ HD0.out.cur 9 (by omega) (by omega)).mono ?_
  rintro e w1 ⟨x, x0, x1, rfl, hC1, hg1⟩
  have D1 := HD0.out.call hC1 hg1
  have z1 := keep hg1 (D1.ne (Nat.le_refl _)) HZ0.out
  have s1 : w.heap.size + 1 ≤ w1.heap.size := by rw [← HS0.out]; exact hg1.size
  clear HD0 HZ0 HS0 hC1 hg1
  go_wp2_with fail
  refine (row_any w0 c v xs _ D1.cur x).mono ?_
  rintro e w2 ⟨id, u, ys, rfl, ou, hyl, d2⟩
  have D2 := D1.call d2.cur d2.gr
  have z2 := keep d2.gr (D1.ne (Nat.le_refl _)) z1
  have s2 := Nat.le_trans s1 d2.size
  obtain ⟨g, ucap, rfl⟩ : ∃ g ucap, u = .slice (some ⟨g, 0, none⟩) ys.length ucap := by
    rcases ownsN_form ou with ⟨_, e⟩ | ⟨g, cap, e, _⟩
    · rw [e] at hyl; simp at hyl
    · exact ⟨g, cap, e⟩
  have HYL := Lib.hid hyl
  have hgl := ou.lt g rfl
  clear D1 z1 hyl
  have D3 := D2.alloc (.cells #[.int .i64 id, .slice (some ⟨g, 0, none⟩) ys.length ucap] 36)
  have z3 := keepA (.cells #[.int .i64 id, .slice (some ⟨g, 0, none⟩) ys.length ucap] 36) z2
  have b3 := heap_alloc_new w2 (.cells #[.int .i64 id, .slice (some ⟨g, 0, none⟩) ys.length ucap] 36)
  have o3 : OwnsN _ w1.heap.size _ ys := ou.alloc (.cells #[.int .i64 id, .slice (some ⟨g, 0, none⟩) ys.length ucap] 36)
  have HOU := Lib.hid o3
  have HD3 := Lib.hid D3
  have HZ3 := Lib.hid z3
  have HB3 := Lib.hid b3
  have HG := Lib.hid hgl
  have HS1 := Lib.hid s1
  have HS2 := Lib.hid s2
  clear D2 z2 D3 z3 b3 o3 ou hgl s1 s2 d2
  go_wp2_with fail
  generalize w2.alloc (.cells #[.int .i64 id, .slice (some ⟨g, 0, none⟩) ys.length ucap] 36) = W3 at *
  refine (below_any w0 c v xs _ HD3.out.cur 8 (by omega) (by omega)).mono ?_
  rintro e w4 ⟨d, d0, d1, rfl, hC4, hg4⟩
  have D4 := HD3.out.call hC4 hg4
  have z4 := keep hg4 (HD3.out.ne (Nat.le_refl _)) HZ3.out
  have b4 := keep hg4 (HD3.out.ne (by have := HS2.out; omega)) HB3.out
  have o4 := ownsN_grown HOU.out hg4 (by have := HD3.out.lt; have := HS1.out; omega)
  clear HOU HD3 HZ3 HB3 hC4 hg4
  by_cases hd0 : d = 0
  · have t0 : (d == 0) = true := by rw [beq_iff_eq]; exact hd0
    clear hd0
    have HP := Lib.hid (pick_any w0 c v xs (w4.alloc (.cells (ids3.map (Value.int .i64)).toArray 3 (0, 0))) (cur_alloc D4.cur _) w4.heap.size ids3 (-1) 1000 (by decide) (by decide) (by decide) (heap_alloc_new w4 _) (D4.ne D4.size))
    have D5 := D4.alloc (.cells (ids3.map (Value.int .i64)).toArray 3 (0, 0))
    have z5 := keepA (.cells (ids3.map (Value.int .i64)).toArray 3 (0, 0)) z4
    have b5 := keepA (.cells (ids3.map (Value.int .i64)).toArray 3 (0, 0)) b4
    have o5 : OwnsN _ w1.heap.size _ ys := o4.alloc (.cells (ids3.map (Value.int .i64)).toArray 3 (0, 0))
    go_wp2_with fail
    refine Calls.mono HP.out ?_
    rintro e w6 ⟨y, yl, yh, rfl, hC6, hg6⟩
    have D6 := D5.call hC6 hg6
    have z6 := keep hg6 (D5.ne (Nat.le_refl _)) z5
    have b6 := keep hg6 (D5.ne (by have := HS2.out; omega)) b5
    have o6 := ownsN_grown o5 hg6 (by have := D5.lt; have := HS1.out; omega)
    have hn1 : ¬ w2.heap.size = w.heap.size := by have := HS2.out; omega
    have hn2 : ¬ w.heap.size = w2.heap.size := by have := HS2.out; omega
    have hn3 : ¬ g = w2.heap.size := by have := HG.out; omega
    have hn4 : ¬ w2.heap.size = g := by have := HG.out; omega
    have hn5 : ¬ g = w.heap.size := by have := HG.out; have := HS1.out; omega
    have hn6 : ¬ w.heap.size = g := by have := HG.out; have := HS1.out; omega
    have p0 := (cell_of_row w6 _ 0 _ _ _ b6).trans (show _ = some (Value.int .i64 id) from rfl)
    have p1 := (cell_of_row w6 _ 1 _ _ _ b6).trans (show _ = some (Value.slice (some ⟨g, 0, none⟩) ys.length ucap) from rfl)
    have g0 := frozen_of_row w6 _ 0 _ _ b6
    have b7 := heap_setCell_same w6 w2.heap.size 0 _ _ (.int .i64 y) b6
    have z7 := (heap_setCell_other w6 ⟨w2.heap.size, 0, none⟩ w.heap.size (.int .i64 y) (by simpa using hn2)).trans z6
    have D7 := D6.set (R := w2.heap.size) (by have := HS2.out; omega) 0 (.int .i64 y)
    have o7 := ownsN_off o6 (b := w2.heap.size) (by simp [Value.ownBlock, hn3]) 0 (.int .i64 y)
    clear D5 z5 b5 o5 D6 o6 HP D4 z4 b4 o4 hC6 hg6
    have q0 := (cell_of_row (w6.setCell ⟨w2.heap.size, 0, none⟩ (.int .i64 y)) _ 0 _ _ _ b7).trans (show _ = some (Value.int .i64 y) from rfl)
    have q1 := (cell_of_row (w6.setCell ⟨w2.heap.size, 0, none⟩ (.int .i64 y)) _ 1 _ _ _ b7).trans (show _ = some (Value.slice (some ⟨g, 0, none⟩) ys.length ucap) from rfl)
    have y0 := (cell_of_row (w6.setCell ⟨w2.heap.size, 0, none⟩ (.int .i64 y)) _ 0 _ _ _ z7).trans (show _ = some (Value.int .i64 0) from rfl)
    have y1 := (cell_of_row (w6.setCell ⟨w2.heap.size, 0, none⟩ (.int .i64 y)) _ 1 _ _ _ z7).trans (show _ = some (Value.slice none 0 0) from rfl)
    have f0 := frozen_of_row (w6.setCell ⟨w2.heap.size, 0, none⟩ (.int .i64 y)) _ 0 _ _ z7
    have f1 := frozen_of_row (w6.setCell ⟨w2.heap.size, 0, none⟩ (.int .i64 y)) _ 1 _ _ z7
    go_wp2
    have r1 := heap_setCell_same (w6.setCell ⟨w2.heap.size, 0, none⟩ (.int .i64 y)) w.heap.size 0 _ _ (.int .i64 y) z7
    have r2 := heap_setCell_same _ w.heap.size 1 _ _ (.slice (some ⟨g, 0, none⟩) ys.length ucap) r1
    have D9 := (D7.set (R := w.heap.size) (Nat.le_refl _) 0 (.int .i64 y)).set (R := w.heap.size) (Nat.le_refl _) 1 (.slice (some ⟨g, 0, none⟩) ys.length ucap)
    have o9 := ownsN_low (ownsN_low o7 (b := w.heap.size) (by have := HS1.out; omega) 0 (.int .i64 y)) (b := w.heap.size) (by have := HS1.out; omega) 1 (.slice (some ⟨g, 0, none⟩) ys.length ucap)
    have e0 := cell_of_row _ _ 0 _ _ _ r2
    have e1 := cell_of_row _ _ 1 _ _ _ r2
    simp at e0 e1
    refine bodyPost_ret (v := .agg #[.int .i64 y, .slice (some ⟨g, 0, none⟩) ys.length ucap]) ?_ rfl ?_
    · simp [results, Tryz.f37, go_sem, e0, e1]
    · exact ⟨y, _, _, rfl, ownsN_up o9 (by have := HS1.out; omega), by have := HYL.out; omega, D9⟩
  · by_cases hd1 : d = 1
    · have t0 : (d == 0) = false := by rw [beq_eq_false_iff_ne]; exact hd0
      have t1 : (d == 1) = true := by rw [beq_iff_eq]; exact hd1
      clear hd0 hd1
      have hn1 : ¬ w2.heap.size = w.heap.size := by have := HS2.out; omega
      have hn2 : ¬ w.heap.size = w2.heap.size := by have := HS2.out; omega
      have hn3 : ¬ g = w2.heap.size := by have := HG.out; omega
      have hn4 : ¬ w2.heap.size = g := by have := HG.out; omega
      have hn5 : ¬ g = w.heap.size := by have := HG.out; have := HS1.out; omega
      have hn6 : ¬ w.heap.size = g := by have := HG.out; have := HS1.out; omega
      have p1 := (cell_of_row w4 _ 1 _ _ _ b4).trans (show _ = some (Value.slice (some ⟨g, 0, none⟩) ys.length ucap) from rfl)
      have n0 : (0 : Int) < (ys.length : Int) := by have := HYL.out; omega
      have n1 : 0 < ys.length := by have := HYL.out; omega
      have D4d : Dr w0 c v xs w w4.drew := D4.below (below_drew (Below.refl w4.heap.size w4)) D4.size
      have o4d : OwnsN w4.drew w1.heap.size _ ys := ownsN_below o4 (below_drew (Below.refl w4.heap.size w4))
      have z4d : w4.drew.heap[w.heap.size]? = some _ := z4
      have b4d : w4.drew.heap[w2.heap.size]? = some _ := b4
      clear D4 o4 z4 b4
      go_wp2
      refine wp_region_held_drew (S := fun w' => w'.cell? ⟨w2.heap.size, 1, none⟩ = some (.slice (some ⟨g, 0, none⟩) ys.length ucap)) (by kernel_rfl) p1 (fun hHeld => ?_)
      refine take_runs (i := 0) (v := ?_) (by simp only [List.getElem?_toArray, List.getElem?_cons_succ, List.getElem?_cons_zero]; rfl) (by kernel_rfl) (by kernel_rfl) (by kernel_rfl) rfl (by exact fun _ _ _ h => h) (by rfl) ?_ (by assumption) ?_
      rotate_left
      · intro w hSw; (try dsimp only at hSw); go_simp; try (with_reducible rfl)
      try simp only [Act.put, List.setIfInBounds_toArray, List.set_cons_zero, List.set_cons_succ]
      refine take_runs (i := 1) (v := ?_) (by simp only [List.getElem?_toArray, List.getElem?_cons_succ, List.getElem?_cons_zero]; rfl) (by kernel_rfl) (by kernel_rfl) (by kernel_rfl) rfl (by exact fun _ _ _ h => h) (by rfl) ?_ (by assumption) ?_
      rotate_left
      · intro w hSw; (try dsimp only at hSw); go_simp; try (with_reducible rfl)
      try simp only [Act.put, List.setIfInBounds_toArray, List.set_cons_zero, List.set_cons_succ]
      refine take_runs (i := 2) (v := ?_) (by simp only [List.getElem?_toArray, List.getElem?_cons_succ, List.getElem?_cons_zero]; rfl) (by kernel_rfl) (by kernel_rfl) (by kernel_rfl) rfl (by exact fun _ _ _ h => h) (by rfl) ?_ (by assumption) ?_
      rotate_left
      · intro w hSw; (try dsimp only at hSw); go_simp; try (with_reducible rfl)
      try simp only [Act.put, List.setIfInBounds_toArray, List.set_cons_zero, List.set_cons_succ]
      refine wpAnyH_ready (rs := [3]) (by kernel_rfl) (by simp) ?_
      refine (AllReadyH.cons (o := _) (by simp only [List.getElem?_toArray, List.getElem?_cons_succ, List.getElem?_cons_zero]; rfl) (fun K hK => ?_) AllReadyH.nil)
      go_simp
      have D5 := D4d.alloc (.cells (vals3.map (Value.int .i64)).toArray 3 (0, 0))
      have z5 := keepA (.cells (vals3.map (Value.int .i64)).toArray 3 (0, 0)) z4d
      have b5 := keepA (.cells (vals3.map (Value.int .i64)).toArray 3 (0, 0)) b4d
      have o5 : OwnsN _ w1.heap.size _ ys := o4d.alloc (.cells (vals3.map (Value.int .i64)).toArray 3 (0, 0))
      have l5 := heap_alloc_new w4.drew (.cells (vals3.map (Value.int .i64)).toArray 3 (0, 0))
      have s_b5 := (cell_of_row (w4.drew.alloc (.cells (vals3.map (Value.int .i64)).toArray 3 (0, 0))) _ 1 _ _ _ b5).trans (show _ = some (Value.slice (some ⟨g, 0, none⟩) ys.length ucap) from rfl)
      have HP := Lib.hid (pick_any w0 c v xs (w4.drew.alloc (.cells (vals3.map (Value.int .i64)).toArray 3 (0, 0))) D5.cur w4.drew.heap.size vals3 (-1) 100 (by decide) (by decide) (by decide) l5 (D4d.ne D4d.size))
      refine hK.out _ _ (s_b5) (fun hHeld => ?_)
      clear hK K
      try simp only [Act.put, List.setIfInBounds_toArray, List.set_cons_zero, List.set_cons_succ]
      refine wpAnyH_ready (rs := [4]) (by kernel_rfl) (by simp) ?_
      refine (AllReadyH.cons (o := _) (by simp only [List.getElem?_toArray, List.getElem?_cons_succ, List.getElem?_cons_zero]; rfl) (fun K hK => ?_) AllReadyH.nil)
      go_simp
      refine Calls.mono HP.out ?_
      rintro e w6 ⟨y, yl, yh, rfl, hC6, hg6⟩
      have D6 := D5.call hC6 hg6
      have z6 := keep hg6 (D5.ne (Nat.le_refl _)) z5
      have b6 := keep hg6 (D5.ne (by have := HS2.out; omega)) b5
      have o6 := ownsN_grown o5 hg6 (by have := D5.lt; have := HS1.out; omega)
      have s_b6 := (cell_of_row w6 _ 1 _ _ _ b6).trans (show _ = some (Value.slice (some ⟨g, 0, none⟩) ys.length ucap) from rfl)
      refine hK.out _ _ (s_b6) (fun hHeld => ?_)
      clear hK K
      try simp only [Act.put, List.setIfInBounds_toArray, List.set_cons_zero, List.set_cons_succ]
      refine take_runs (i := 5) (v := ?_) (by simp only [List.getElem?_toArray, List.getElem?_cons_succ, List.getElem?_cons_zero]; rfl) (by kernel_rfl) (by kernel_rfl) (by kernel_rfl) rfl (by exact fun _ _ _ h => h) (by rfl) ?_ (by assumption) ?_
      rotate_left
      · intro w hSw; (try dsimp only at hSw); go_simp; try (with_reducible rfl)
      try simp only [Act.put, List.setIfInBounds_toArray, List.set_cons_zero, List.set_cons_succ]
      have x0c := ownsN_cell o6 (j := 0) (List.getElem?_eq_getElem n1)
      have x0f := ownsN_frozen o6 0
      refine wpAnyH_ready (rs := [6]) (by kernel_rfl) (by simp) ?_
      refine (AllReadyH.cons (o := _) (by simp only [List.getElem?_toArray, List.getElem?_cons_succ, List.getElem?_cons_zero]; rfl) (fun K hK => ?_) AllReadyH.nil)
      go_simp
      have b7 := (heap_setCell_other w6 ⟨g, 0, none⟩ w2.heap.size (.int .i64 y) (by simpa using hn4)).trans b6
      have z7 := (heap_setCell_other w6 ⟨g, 0, none⟩ w.heap.size (.int .i64 y) (by simpa using hn6)).trans z6
      have D7 := D6.set (R := g) (by have := HG.out; have := HS1.out; omega) 0 (.int .i64 y)
      have o7 := ownsN_store o6 0 y
      have s_b7 := (cell_of_row (w6.setCell ⟨g, 0, none⟩ (.int .i64 y)) _ 1 _ _ _ b7).trans (show _ = some (Value.slice (some ⟨g, 0, none⟩) ys.length ucap) from rfl)
      refine hK.out _ _ (s_b7) (fun hHeld => ?_)
      clear hK K
      try simp only [Act.put, List.setIfInBounds_toArray, List.set_cons_zero, List.set_cons_succ]
      refine wpAnyH_done (by kernel_rfl) ?_ _
      have hls : (ys.set 0 y).length = ys.length := List.length_set ..
      clear D4d z4d b4d o4d D5 z5 b5 o5 l5 HP D6 z6 b6 o6 hC6 hg6 s_b5 s_b6 s_b7 hHeld x0c x0f p1
      have q0 := (cell_of_row (w6.setCell ⟨g, 0, none⟩ (.int .i64 y)) _ 0 _ _ _ b7).trans (show _ = some (Value.int .i64 id) from rfl)
      have q1 := (cell_of_row (w6.setCell ⟨g, 0, none⟩ (.int .i64 y)) _ 1 _ _ _ b7).trans (show _ = some (Value.slice (some ⟨g, 0, none⟩) ys.length ucap) from rfl)
      have y0 := (cell_of_row (w6.setCell ⟨g, 0, none⟩ (.int .i64 y)) _ 0 _ _ _ z7).trans (show _ = some (Value.int .i64 0) from rfl)
      have y1 := (cell_of_row (w6.setCell ⟨g, 0, none⟩ (.int .i64 y)) _ 1 _ _ _ z7).trans (show _ = some (Value.slice none 0 0) from rfl)
      have f0 := frozen_of_row (w6.setCell ⟨g, 0, none⟩ (.int .i64 y)) _ 0 _ _ z7
      have f1 := frozen_of_row (w6.setCell ⟨g, 0, none⟩ (.int .i64 y)) _ 1 _ _ z7
      go_wp2
      have r1 := heap_setCell_same (w6.setCell ⟨g, 0, none⟩ (.int .i64 y)) w.heap.size 0 _ _ (.int .i64 id) z7
      have r2 := heap_setCell_same _ w.heap.size 1 _ _ (.slice (some ⟨g, 0, none⟩) ys.length ucap) r1
      have D9 := (D7.set (R := w.heap.size) (Nat.le_refl _) 0 (.int .i64 id)).set (R := w.heap.size) (Nat.le_refl _) 1 (.slice (some ⟨g, 0, none⟩) ys.length ucap)
      have o9 := ownsN_low (ownsN_low o7 (b := w.heap.size) (by have := HS1.out; omega) 0 (.int .i64 id)) (b := w.heap.size) (by have := HS1.out; omega) 1 (.slice (some ⟨g, 0, none⟩) ys.length ucap)
      have e0 := cell_of_row _ _ 0 _ _ _ r2
      have e1 := cell_of_row _ _ 1 _ _ _ r2
      simp at e0 e1
      refine bodyPost_ret (v := .agg #[.int .i64 id, .slice (some ⟨g, 0, none⟩) ys.length ucap]) ?_ rfl ?_
      · simp [results, Tryz.f37, go_sem, e0, e1]
      · exact ⟨id, _, _, rfl, ownsN_up o9 (by have := HS1.out; omega), by rw [hls]; have := HYL.out; omega, D9⟩
    · by_cases hd2 : d = 2
      · have t0 : (d == 0) = false := by rw [beq_eq_false_iff_ne]; exact hd0
        have t1 : (d == 1) = false := by rw [beq_eq_false_iff_ne]; exact hd1
        have t2 : (d == 2) = true := by rw [beq_iff_eq]; exact hd2
        clear hd0 hd1 hd2
        have hn1 : ¬ w2.heap.size = w.heap.size := by have := HS2.out; omega
        have hn2 : ¬ w.heap.size = w2.heap.size := by have := HS2.out; omega
        have hn3 : ¬ g = w2.heap.size := by have := HG.out; omega
        have hn4 : ¬ w2.heap.size = g := by have := HG.out; omega
        have hn5 : ¬ g = w.heap.size := by have := HG.out; have := HS1.out; omega
        have hn6 : ¬ w.heap.size = g := by have := HG.out; have := HS1.out; omega
        have p1 := (cell_of_row w4 _ 1 _ _ _ b4).trans (show _ = some (Value.slice (some ⟨g, 0, none⟩) ys.length ucap) from rfl)
        have b5 := keepA (.cells #[.int .i64 1] 3) b4
        have z5 := keepA (.cells #[.int .i64 1] 3) z4
        have D5 := D4.alloc (.cells #[.int .i64 1] 3)
        have o5 : OwnsN _ w1.heap.size _ ys := o4.alloc (.cells #[.int .i64 1] 3)
        have u5 := (cell_lit w4 #[.int .i64 1] 3 0).trans (show _ = some (Value.int .i64 1) from rfl)
        have s5 : w1.heap.size ≤ (w4.alloc (.cells #[.int .i64 1] 3)).heap.size := by have := (o4.lt g rfl); simp; omega
        clear D4 z4 b4 o4
        go_wp2_with (at_builtin; refine wpl_append_one rfl (.tmp 27) (.tmp 28) rfl w1.heap.size (.slice (some ⟨g, 0, none⟩) ys.length ucap) ys w4.heap.size 1 rfl rfl o5 u5 s5 (by have := HYL.out; omega) ?_)
        intro u6 w6 o6 g6
        obtain ⟨ub, ucap6, rfl⟩ := ints_len (ownsN_ints o6)
        have o7 : OwnsN w6 w1.heap.size (.slice ub (ys.length + 1) ucap6) (ys ++ [1]) := by simpa using o6
        have bl6 := (Below.refl w1.heap.size _).grown g6 s5 (fun k hk => (o5.lt k hk).1)
        have D6 := D5.below bl6 (by have := HS1.out; omega)
        have b6 := (g6.block w2.heap.size (Array.getElem?_eq_some_iff.1 b5).1 (by simp [Value.ownBlock, hn4])).trans b5
        have z6 := (g6.block w.heap.size (Array.getElem?_eq_some_iff.1 z5).1 (by simp [Value.ownBlock, hn6])).trans z5
        have h1 := (cell_of_row w6 _ 1 _ _ _ b6).trans (show _ = some (Value.slice (some ⟨g, 0, none⟩) ys.length ucap) from rfl)
        have k1 := frozen_of_row w6 _ 1 _ _ b6
        have b7 := heap_setCell_same w6 w2.heap.size 1 _ _ (.slice ub (ys.length + 1) ucap6) b6
        have z7 := (heap_setCell_other w6 ⟨w2.heap.size, 1, none⟩ w.heap.size (.slice ub (ys.length + 1) ucap6) (by simpa using hn2)).trans z6
        simp only [List.length_append, List.length_cons, List.length_nil, Nat.zero_add]
        have q0 := (cell_of_row (w6.setCell ⟨w2.heap.size, 1, none⟩ (.slice ub (ys.length + 1) ucap6)) _ 0 _ _ _ b7).trans (show _ = some (Value.int .i64 id) from rfl)
        have q1 := (cell_of_row (w6.setCell ⟨w2.heap.size, 1, none⟩ (.slice ub (ys.length + 1) ucap6)) _ 1 _ _ _ b7).trans (show _ = some (Value.slice ub (ys.length + 1) ucap6) from rfl)
        have y0 := (cell_of_row (w6.setCell ⟨w2.heap.size, 1, none⟩ (.slice ub (ys.length + 1) ucap6)) _ 0 _ _ _ z7).trans (show _ = some (Value.int .i64 0) from rfl)
        have y1 := (cell_of_row (w6.setCell ⟨w2.heap.size, 1, none⟩ (.slice ub (ys.length + 1) ucap6)) _ 1 _ _ _ z7).trans (show _ = some (Value.slice none 0 0) from rfl)
        have f0 := frozen_of_row (w6.setCell ⟨w2.heap.size, 1, none⟩ (.slice ub (ys.length + 1) ucap6)) _ 0 _ _ z7
        have f1 := frozen_of_row (w6.setCell ⟨w2.heap.size, 1, none⟩ (.slice ub (ys.length + 1) ucap6)) _ 1 _ _ z7
        clear D5 z5 b5 o5 u5 s5 bl6 o6 g6 p1
        go_wp2
        have D8 := D6.set (R := w2.heap.size) (by have := HS2.out; omega) 1 (.slice ub (ys.length + 1) ucap6)
        have o8 : OwnsN (w6.setCell ⟨w2.heap.size, 1, none⟩ (.slice ub (ys.length + 1) ucap6)) w1.heap.size (.slice ub (ys.length + 1) ucap6) (ys ++ [1]) := ownsN_off o7 (ownsN_apart o7 b6 (by decide)) 1 _
        have r1 := heap_setCell_same (w6.setCell ⟨w2.heap.size, 1, none⟩ (.slice ub (ys.length + 1) ucap6)) w.heap.size 0 _ _ (.int .i64 id) z7
        have r2 := heap_setCell_same _ w.heap.size 1 _ _ (.slice ub (ys.length + 1) ucap6) r1
        have D9 := (D8.set (R := w.heap.size) (Nat.le_refl _) 0 (.int .i64 id)).set (R := w.heap.size) (Nat.le_refl _) 1 (.slice ub (ys.length + 1) ucap6)
        have o9 := ownsN_low (ownsN_low o8 (b := w.heap.size) (by have := HS1.out; omega) 0 (.int .i64 id)) (b := w.heap.size) (by have := HS1.out; omega) 1 (.slice ub (ys.length + 1) ucap6)
        have e0 := cell_of_row _ _ 0 _ _ _ r2
        have e1 := cell_of_row _ _ 1 _ _ _ r2
        simp at e0 e1
        refine bodyPost_ret (v := .agg #[.int .i64 id, .slice ub (ys.length + 1) ucap6]) ?_ rfl ?_
        · simp [results, Tryz.f37, go_sem, e0, e1]
        · exact ⟨id, _, _, rfl, ownsN_up o9 (by have := HS1.out; omega), by have := HYL.out; simp; omega, D9⟩
      · have t0 : (d == 0) = false := by rw [beq_eq_false_iff_ne]; exact hd0
        have t1 : (d == 1) = false := by rw [beq_eq_false_iff_ne]; exact hd1
        have t2 : (d == 2) = false := by rw [beq_eq_false_iff_ne]; exact hd2
        clear hd0 hd1 hd2
        have hn1 : ¬ w2.heap.size = w.heap.size := by have := HS2.out; omega
        have hn2 : ¬ w.heap.size = w2.heap.size := by have := HS2.out; omega
        have q0 := (cell_of_row w4 _ 0 _ _ _ b4).trans (show _ = some (Value.int .i64 id) from rfl)
        have q1 := (cell_of_row w4 _ 1 _ _ _ b4).trans (show _ = some (Value.slice (some ⟨g, 0, none⟩) ys.length ucap) from rfl)
        have y0 := (cell_of_row w4 _ 0 _ _ _ z4).trans (show _ = some (Value.int .i64 0) from rfl)
        have y1 := (cell_of_row w4 _ 1 _ _ _ z4).trans (show _ = some (Value.slice none 0 0) from rfl)
        have f0 := frozen_of_row w4 _ 0 _ _ z4
        have f1 := frozen_of_row w4 _ 1 _ _ z4
        go_wp2
        have r1 := heap_setCell_same w4 w.heap.size 0 _ _ (.int .i64 id) z4
        have r2 := heap_setCell_same _ w.heap.size 1 _ _ (.slice (some ⟨g, 0, none⟩) ys.length ucap) r1
        have D9 := (D4.set (R := w.heap.size) (Nat.le_refl _) 0 (.int .i64 id)).set (R := w.heap.size) (Nat.le_refl _) 1 (.slice (some ⟨g, 0, none⟩) ys.length ucap)
        have o9 := ownsN_low (ownsN_low o4 (b := w.heap.size) (by have := HS1.out; omega) 0 (.int .i64 id)) (b := w.heap.size) (by have := HS1.out; omega) 1 (.slice (some ⟨g, 0, none⟩) ys.length ucap)
        have e0 := cell_of_row _ _ 0 _ _ _ r2
        have e1 := cell_of_row _ _ 1 _ _ _ r2
        simp at e0 e1
        refine bodyPost_ret (v := .agg #[.int .i64 id, .slice (some ⟨g, 0, none⟩) ys.length ucap]) ?_ rfl ?_
        · simp [results, Tryz.f37, go_sem, e0, e1]
        · exact ⟨id, _, _, rfl, ownsN_up o9 (by have := HS1.out; omega), by have := HYL.out; omega, D9⟩
theorem kept_low {w w' : World} {B c : Nat} {e : TypeId} {size : Nat} {v : Value} {n : Nat} {xs : List Value} (h : w.ownsRow B e size v n xs) (hg : w.grownBy w' (some c)) (hc : c < B) : w'.ownsRow B e size v n xs := by
  refine h.kept hg ?_
  cases hv : v.ownBlock with
  | none => exact Or.inl rfl
  | some k => exact Or.inr (by intro e; have := (h.lt k hv).1; simp at e; omega)
theorem ownsR_grown {w w' : World} {B c : Nat} {v : Value} {rs : List RowD} (h : OwnsR w B v rs) (hg : w.grownBy w' (some c)) (hc : c < B) : OwnsR w' B v rs := by
  obtain ⟨cs, vs, h1, h2, h3⟩ := h
  exact ⟨cs, vs, kept_low h1 hg hc, fun j hj => ⟨(h2 j hj).1, (h2 j hj).2.1, ownsN_grown (h2 j hj).2.2.1 hg hc, (h2 j hj).2.2.2⟩, h3⟩
theorem ownsR_next {wa wb : World} {B c : Nat} {v uu : Value} {rs : List RowD} {id : Int} {ys : List Int} (h : OwnsR wa B v rs) (hg : wa.grownBy wb (some c)) (hc : c < B) (hB : B ≤ wa.heap.size) (hu : OwnsN wb wa.heap.size uu ys) :
    ∃ cs, RowsC wb B v rs.length cs ∧ ∀ wc wd v', Below wb.heap.size wb wc → wc.grownBy wd v.ownBlock → RowsC wd B v' (rs.length + 1) (cs ++ [.int .i64 id, uu]) → (v'.ownBlock = v.ownBlock ∨ v'.ownBlock = some wc.heap.size) → OwnsR wd B v' (rs ++ [(id, ys)]) := by
  obtain ⟨cs, vs, h1, h2, h3⟩ := h
  have H1 : RowsC wb B v rs.length cs := kept_low h1 hg hc
  exact ⟨cs, H1, fun wc wd v' hb hg' hx hat => append_owns (r := (id, ys)) H1 (fun j hj => ⟨(h2 j hj).1, (h2 j hj).2.1, ownsN_grown (h2 j hj).2.2.1 hg hc, (h2 j hj).2.2.2⟩) h3 (fun j hj q e => ((h2 j hj).2.2.1.lt q e).2) (fun q e => (h1.lt q e).2) hB hu hb hg' hx hat⟩
/-- Rows are drawn, in new memory. -/
def DrawnRows (w0 : World) (c : Nat) (v : Value) (xs : List Int) (w : World) (e : Ending) (w' : World) : Prop :=
  ∃ (u : Value) (rs : List RowD), e = .returned u ∧ OwnsR w' w.heap.size u rs ∧ rs.length ≤ 9 ∧ (∀ r ∈ rs, r.2.length ≤ 4) ∧ Dr w0 c v xs w w'
set_option maxHeartbeats 8000000 in
set_option maxRecDepth 100000 in
theorem rows_any (w0 : World) (c : Nat) (v : Value) (xs : List Int) (w : World) (hC : Cur w0 c v xs w) :
    Calls Tryz.prog 54 #[.pointer (some ⟨c, 0, none⟩), .int .i64 8] w fun e w' => ∃ (u : Value) (rs : List RowD), e = .returned u ∧ OwnsR w' w.heap.size u rs ∧ rs.length ≤ 8 ∧ (∀ r ∈ rs, r.2.length ≤ 4) ∧ Dr w0 c v xs w w' := by
  have D0 := (Dr.start hC).alloc (.cells #[] 36)
  have o0 : OwnsR (w.alloc (.cells #[] 36)) w.heap.size (.slice (some ⟨w.heap.size, 0, none⟩) 0 0) [] := ownsR_empty w
  have hcB := cur_lt hC
  clear hC
  go_enter Tryz.func54, Tryz.ntmps54
  go_wp2_with fail
  generalize w.alloc (.cells #[] 36) = W at *
  refine (below_any w0 c v xs _ D0.cur 3 (by omega) (by omega)).mono ?_
  rintro e w1 ⟨x, x0, x1, rfl, hC1, hg1⟩
  have D1 := D0.call hC1 hg1
  have o1 := ownsR_grown o0 hg1 hcB
  clear D0 o0 hC1 hg1
  go_wp2_with fail
  refine (below_any w0 c v xs _ D1.cur 9 (by omega) (by omega)).mono ?_
  rintro e w2 ⟨n, n0, n1, rfl, hC2, hg2⟩
  obtain ⟨n, rfl⟩ := Int.eq_ofNat_of_zero_le n0
  have D2 := D1.call hC2 hg2
  have o2 := ownsR_grown o1 hg2 hcB
  clear D1 o1 hC2 hg2
  go_wp2_with fail
  go_loopw [5, 6, 7] (fun l y i wr => ∃ (m : Nat) (z : Int) (rs : List RowD), rs.length + m ≤ 8 ∧ 0 ≤ z ∧ z + 3 * (m : Int) ≤ 26 ∧ y = .int .i64 z ∧ i = .int .i64 m ∧ OwnsR wr w.heap.size l rs ∧ Hid (∀ r ∈ rs, r.2.length ≤ 4) ∧ Dr w0 c v xs w wr) (fun _ _ i _ => (intOf i).toNat)
  case atStart => exact ⟨n, x, [], by simp; omega, x0, by omega, rfl, rfl, o2, Lib.hid (fun r hr => by simp at hr), D2⟩
  case round =>
    obtain ⟨m, z, rs, hrm, z0, z1, rfl, rfl, hown, hall, hD⟩ := hrel
    clear D2 o2
    by_cases hlt : 0 < m
    · go_wp2_with fail
      refine (row_any w0 c v xs _ hD.cur z).mono ?_
      rintro e w3 ⟨id, u, ys, rfl, ou, hyl, d3⟩
      obtain ⟨ua, ucap, rfl⟩ := ints_len (ownsN_ints ou)
      have D3 := hD.call d3.cur d3.gr
      obtain ⟨cs, oX, hnext⟩ := ownsR_next (id := id) hown d3.gr hcB hD.size ou
      have HN := Lib.hid hnext
      have HRM : Hid (rs.length + m ≤ 8) := Lib.hid hrm
      have HALL : Hid (∀ r ∈ rs ++ [(id, ys)], r.2.length ≤ 4) := Lib.hid (by
        intro r hr
        rcases List.mem_append.1 hr with h | h
        · exact hall.out r h
        · simp at h; rw [h]; simp only; omega)
      have al : Below w3.heap.size w3 (w3.alloc (.cells #[.int .i64 id, .slice ua ys.length ucap] 36)) := (Below.refl _ _).alloc (Nat.le_refl _) _
      have oX4 := rowsC_kept oX al
      have D4 := D3.alloc (.cells #[.int .i64 id, .slice ua ys.length ucap] 36)
      have HAL := Lib.hid al
      have HD4 := Lib.hid D4
      clear hown hnext hall d3 D3 oX al ou hD hyl D4
      go_wp2_with (at_builtin; refine append_rows rfl (.tmp 19) (.tmp 23) rfl w.heap.size _ _ _ rfl oX4 HD4.out.size ⟨w3.heap.size, 0, none⟩ 1 1 [.int .i64 id, .slice ua ys.length ucap] rfl rfl (fun j u hj => by rw [Go.WideShapes.add_plain, Nat.zero_add, cell_lit]; simpa using hj) (by intro u hu; simp at hu; rcases hu with rfl | rfl <;> rfl) (by have := HRM.out; omega) ?_)
      intro u5 w5 o5 g5 _ hat
      have oR5 := HN.out _ w5 u5 HAL.out g5 o5 (by simpa [World.size_alloc] using hat)
      have D5 := HD4.out.below ((Below.refl w.heap.size _).grown g5 HD4.out.size (fun k hk => (oX4.lt k hk).1)) (Nat.le_refl _)
      clear o5 g5 hat oX4 HN HAL HD4
      go_wp2_with fail
      refine (below_any w0 c v xs _ D5.cur 3 (by omega) (by omega)).mono ?_
      rintro e w6 ⟨p, p0, p1, rfl, hC6, hg6⟩
      have D6 := D5.call hC6 hg6
      have o6 := ownsR_grown oR5 hg6 hcB
      clear D5 oR5 hC6 hg6
      go_wp2
      go_roundw
      case rel => exact ⟨m - 1, z + 1 + p, rs ++ [(id, ys)], by have := HRM.out; simp; omega, by omega, by omega, by go_num, by go_num, o6, HALL, D6⟩
      case measure => simp [intOf]; omega
    · obtain rfl : m = 0 := by omega
      go_wp2
      go_ret
      exact ⟨_, rs, rfl, hown, by omega, hall.out, hD⟩
set_option maxHeartbeats 8000000 in
set_option maxRecDepth 100000 in
theorem anyRows_any (w0 : World) (c : Nat) (v : Value) (xs : List Int) (w : World) (hC : Cur w0 c v xs w) :
    Calls Tryz.prog 24 #[.pointer (some ⟨c, 0, none⟩)] w (DrawnRows w0 c v xs w) := by
  have hcB := cur_lt hC
  go_enter Tryz.func24, Tryz.ntmps24
  go_wp2_with fail
  refine (rows_any w0 c v xs _ hC).mono ?_
  rintro e w1 ⟨u, rs, rfl, o1, hl, hall, D1⟩
  go_wp2_with fail
  refine (once_any w0 c v xs _ D1.cur 6 (by omega) (by omega)).mono ?_
  rintro e w2 ⟨⟨b, rfl⟩, hC2, hg2⟩
  have D2 := D1.call hC2 hg2
  have o2 := ownsR_grown o1 hg2 hcB
  clear D1 o1 hC2 hg2 hC
  cases b with
  | false =>
    go_wp2
    go_ret
    exact ⟨_, rs, rfl, o2, by omega, hall, D2⟩
  | true =>
    have HALL0 := Lib.hid hall
    clear hall
    go_wp2_with fail
    refine (rowAny_any w0 c v xs _ D2.cur).mono ?_
    rintro e w3 ⟨id, u3, ys, rfl, ou, hyl, d3⟩
    obtain ⟨ua, ucap, rfl⟩ := ints_len (ownsN_ints ou)
    have D3 := D2.call d3.cur d3.gr
    obtain ⟨cs, oX, hnext⟩ := ownsR_next (id := id) o2 d3.gr hcB D2.size ou
    have HN := Lib.hid hnext
    have HRM : Hid (rs.length ≤ 8) := Lib.hid hl
    have HALL : Hid (∀ r ∈ rs ++ [(id, ys)], r.2.length ≤ 4) := Lib.hid (by
      intro r hr
      rcases List.mem_append.1 hr with h | h
      · exact HALL0.out r h
      · simp at h; rw [h]; simp only; omega)
    have al : Below w3.heap.size w3 (w3.alloc (.cells #[.int .i64 id, .slice ua ys.length ucap] 36)) := (Below.refl _ _).alloc (Nat.le_refl _) _
    have oX4 := rowsC_kept oX al
    have D4 := D3.alloc (.cells #[.int .i64 id, .slice ua ys.length ucap] 36)
    have HAL := Lib.hid al
    have HD4 := Lib.hid D4
    clear o2 hnext d3 D3 oX al ou D2 hyl D4 hl
    go_wp2_with (at_builtin; refine append_rows rfl (.tmp 8) (.tmp 11) rfl w.heap.size _ _ _ rfl oX4 HD4.out.size ⟨w3.heap.size, 0, none⟩ 1 1 [.int .i64 id, .slice ua ys.length ucap] rfl rfl (fun j u hj => by rw [Go.WideShapes.add_plain, Nat.zero_add, cell_lit]; simpa using hj) (by intro u hu; simp at hu; rcases hu with rfl | rfl <;> rfl) (by have := HRM.out; omega) ?_)
    intro u5 w5 o5 g5 _ hat
    have oR5 := HN.out _ w5 u5 HAL.out g5 o5 (by simpa [World.size_alloc] using hat)
    have D5 := HD4.out.below ((Below.refl w.heap.size _).grown g5 HD4.out.size (fun k hk => (oX4.lt k hk).1)) (Nat.le_refl _)
    clear o5 g5 hat oX4 HN HAL HD4
    go_wp2
    go_ret
    exact ⟨_, _, rfl, oR5, by have := HRM.out; simp; omega, HALL.out, D5⟩
end Go.Proofs.YteelgogfpidcdaaGreatDoor
namespace Go.Proofs.YteelgogfpidcdaaGreatDoor
open Go.RowKit
set_option linter.unusedVariables false
set_option linter.unusedSimpArgs false
theorem owns_belowC {w w' : World} {B C : Nat} {e : TypeId} {size : Nat} {v : Value} {n : Nat} {xs : List Value} (h : w.ownsRow B e size v n xs) (hb : Below C w w') (hC : ∀ b, v.ownBlock = some b → b < C) : w'.ownsRow B e size v n xs := by
  refine ⟨h.1, ?_⟩
  rcases h.2 with hn | ⟨g, cap, cur, rfl, hb', hg, rest⟩
  · exact .inl hn
  · exact .inr ⟨g, cap, cur, rfl, hb', (hb.block g (hC g rfl)).trans hg, rest⟩
/-- A query is drawn, in new memory. -/
def DrawnQ (w0 : World) (c : Nat) (v : Value) (xs : List Int) (w : World) (e : Ending) (w' : World) : Prop :=
  ∃ (id tn : Int) (cs : List CondD) (os : List Int) (cv ov : Value), e = .returned (qV id tn cv ov) ∧ OwnsC w' w.heap.size cv cs ∧ OwnsN w' w.heap.size ov os ∧ cs.length ≤ 4 ∧ os.length ≤ 4 ∧ Dr w0 c v xs w w'
def DrawnQ3 (w0 : World) (c : Nat) (v : Value) (xs : List Int) (w : World) (e : Ending) (w' : World) : Prop :=
  ∃ (id tn : Int) (cs : List CondD) (os : List Int) (cv ov : Value), e = .returned (qV id tn cv ov) ∧ OwnsC w' w.heap.size cv cs ∧ OwnsN w' w.heap.size ov os ∧ cs.length ≤ 3 ∧ os.length ≤ 3 ∧ (∀ b, cv.ownBlock = some b → ov.ownBlock ≠ some b) ∧ Dr w0 c v xs w w'
set_option maxHeartbeats 16000000 in
set_option maxRecDepth 100000 in
theorem query_drawn (w0 : World) (c : Nat) (v : Value) (xs : List Int) (w : World) (hC : Cur w0 c v xs w) (id : Int) :
    Calls Tryz.prog 51 #[.pointer (some ⟨c, 0, none⟩), .int .i64 id] w (DrawnQ3 w0 c v xs w) := by
  have D0 := (Dr.start hC).alloc (.cells #[.int .i64 0, .int .i64 0, .slice none 0 0, .slice none 0 0] 27)
  have z0 := heap_alloc_new w (.cells #[.int .i64 0, .int .i64 0, .slice none 0 0, .slice none 0 0] 27)
  have s0 : (w.alloc (.cells #[.int .i64 0, .int .i64 0, .slice none 0 0, .slice none 0 0] 27)).heap.size = w.heap.size + 1 := by simp
  have hcB := cur_lt hC
  clear hC
  go_enter Tryz.func51, Tryz.ntmps51
  go_wp2_with fail
  generalize w.alloc (.cells #[.int .i64 0, .int .i64 0, .slice none 0 0, .slice none 0 0] 27) = W at *
  refine (below_any w0 c v xs _ D0.cur 4 (by omega) (by omega)).mono ?_
  rintro e w1 ⟨tn, x0, x1, rfl, hC1, hg1⟩
  have D1 := D0.call hC1 hg1
  have z1 := keep hg1 (D0.ne (Nat.le_refl _)) z0
  have s1 : w.heap.size + 1 ≤ w1.heap.size := by rw [← s0]; exact hg1.size
  clear D0 z0 s0 hC1 hg1
  have D2 := (D1.alloc (.cells #[.int .i64 id, .int .i64 tn, .slice none 0 0, .slice none 0 0] 27)).alloc (.cells (wides.map (Value.int .i64)).toArray 3 (0, 0))
  have z2 := keepA (.cells (wides.map (Value.int .i64)).toArray 3 (0, 0)) (keepA (.cells #[.int .i64 id, .int .i64 tn, .slice none 0 0, .slice none 0 0] 27) z1)
  have b2 := keepA (.cells (wides.map (Value.int .i64)).toArray 3 (0, 0)) (heap_alloc_new w1 (.cells #[.int .i64 id, .int .i64 tn, .slice none 0 0, .slice none 0 0] 27))
  have l2 := heap_alloc_new (w1.alloc (.cells #[.int .i64 id, .int .i64 tn, .slice none 0 0, .slice none 0 0] 27)) (.cells (wides.map (Value.int .i64)).toArray 3 (0, 0))
  have s2 : ((w1.alloc (.cells #[.int .i64 id, .int .i64 tn, .slice none 0 0, .slice none 0 0] 27)).alloc (.cells (wides.map (Value.int .i64)).toArray 3 (0, 0))).heap.size = w1.heap.size + 1 + 1 := by simp
  simp only [World.size_alloc] at l2
  have hne : w1.heap.size + 1 ≠ c := D1.ne (by omega)
  have HP := Lib.hid (pick_any w0 c v xs _ D2.cur (w1.heap.size + 1) wides 3 100 wides_in (by decide) (by decide) l2 hne)
  have HS1 := Lib.hid s1
  have HD2 := Lib.hid D2
  have HZ2 := Lib.hid z2
  have HB2 := Lib.hid b2
  have HS2 := Lib.hid s2
  clear D1 z1 D2 z2 b2 l2 s2 s1 hne
  go_wp2_with fail
  refine Calls.mono HP.out ?_
  rintro e w3 ⟨wd, wd0, wd1, rfl, hC3, hg3⟩
  obtain ⟨R, hR⟩ : ∃ R, w1.heap.size = R := ⟨_, rfl⟩
  have D3 := HD2.out.call hC3 hg3
  have z3 := keep hg3 (HD2.out.ne (Nat.le_refl _)) HZ2.out
  have b3 := keep hg3 (HD2.out.ne (by have := HS1.out; omega)) HB2.out
  have s3 : w1.heap.size + 1 ≤ w3.heap.size := by have h2 := hg3.size; rw [HS2.out] at h2; omega
  rw [hR] at b3 s3 HS1 ⊢
  clear HP HD2 HZ2 HB2 HS2 hC3 hg3 hR
  go_wp2
  go_loopw [7] (fun i wr => ∃ (k : Nat) (cv : Value) (cs : List CondD), k ≤ 3 ∧ Hid (cs.length ≤ k) ∧ i = .int .i64 k ∧ wr.heap[R]? = some (.cells #[.int .i64 id, .int .i64 tn, cv, .slice none 0 0] 27 (0, 0)) ∧ wr.heap[w.heap.size]? = some (.cells #[.int .i64 0, .int .i64 0, .slice none 0 0, .slice none 0 0] 27 (0, 0)) ∧ OwnsC wr (R + 1) cv cs ∧ Dr w0 c v xs w wr) (fun i _ => 3 - (intOf i).toNat)
  case atStart => exact ⟨0, .slice none 0 0, [], by omega, Lib.hid (by simp), rfl, b3, z3, ownsC_nil _ _, D3⟩
  case round =>
    obtain ⟨k, cv, cs, hk, hcl, rfl, hb, hz, hown, hD⟩ := hrel
    clear D3 b3 z3 s3
    obtain ⟨ca, ccap, rfl⟩ := ownsC_len hown
    have hRl := (Array.getElem?_eq_some_iff.1 hb).1
    by_cases hlt : k < 3
    · go_wp2_with fail
      refine (once_any w0 c v xs _ hD.cur 2 (by omega) (by omega)).mono ?_
      rintro e w4 ⟨⟨b, rfl⟩, hC4, hg4⟩
      have D4 := hD.call hC4 hg4
      have b4 := keep hg4 (hD.ne (by have := HS1.out; omega)) hb
      have z4 := keep hg4 (hD.ne (Nat.le_refl _)) hz
      have o4 : OwnsC w4 (R + 1) _ cs := kept_low hown hg4 (by have := hD.lt; have := HS1.out; omega)
      have l4 := Nat.lt_of_lt_of_le hRl hg4.size
      clear hD hC4 hg4 hb hz hown hRl
      cases b with
      | false =>
        go_wp2
        go_roundw
        case rel => exact ⟨k + 1, _, cs, by omega, Lib.hid (by have := hcl.out; omega), by go_num, b4, z4, o4, D4⟩
        case measure => simp [intOf]; omega
      | true =>
        go_wp2_with fail
        refine (below_any w0 c v xs _ D4.cur wd (by omega) (by omega)).mono ?_
        rintro e w5 ⟨lo, lo0, lo1, rfl, hC5, hg5⟩
        have D5 := D4.call hC5 hg5
        have b5 := keep hg5 (D4.ne (by have := HS1.out; omega)) b4
        have z5 := keep hg5 (D4.ne (Nat.le_refl _)) z4
        have o5 : OwnsC w5 (R + 1) _ cs := kept_low o4 hg5 (by have := D4.lt; have := HS1.out; omega)
        have l5 := Nat.lt_of_lt_of_le l4 hg5.size
        clear D4 hC5 hg5 b4 z4 o4 l4
        go_wp2_with fail
        refine (below_any w0 c v xs _ D5.cur wd (by omega) (by omega)).mono ?_
        rintro e w6 ⟨x, xl, xh, rfl, hC6, hg6⟩
        have D6 := D5.call hC6 hg6
        have b6 := keep hg6 (D5.ne (by have := HS1.out; omega)) b5
        have z6 := keep hg6 (D5.ne (Nat.le_refl _)) z5
        have o6 : OwnsC w6 (R + 1) _ cs := kept_low o5 hg6 (by have := D5.lt; have := HS1.out; omega)
        have l6 := Nat.lt_of_lt_of_le l5 hg6.size
        clear D5 hC6 hg6 b5 z5 o5 l5
        have wsum : IntKind.i64.wrap (lo + x) = lo + x := IntWalk.i64_in _ (by omega)
        go_wp2_with fail
        generalize min 99 (lo + x) = hi at *
        clear wsum
        refine (once_any w0 c v xs _ D6.cur 3 (by omega) (by omega)).mono ?_
        rintro e w7 ⟨⟨b7', rfl⟩, hC7, hg7⟩
        have D7 := D6.call hC7 hg7
        have b7 := keep hg7 (D6.ne (by have := HS1.out; omega)) b6
        have z7 := keep hg7 (D6.ne (Nat.le_refl _)) z6
        have o7 : OwnsC w7 (R + 1) _ cs := kept_low o6 hg7 (by have := D6.lt; have := HS1.out; omega)
        have l7 := Nat.lt_of_lt_of_le l6 hg7.size
        clear D6 hC7 hg7 b6 z6 o6 l6
        cases b7' with
        | false =>
          have al : Below w7.heap.size w7 (w7.alloc (.cells #[.int .i64 (k : Int), .int .i64 lo, .int .i64 hi] 67)) := (Below.refl _ _).alloc (Nat.le_refl _) _
          have q7 : (w7.alloc (.cells #[.int .i64 (k : Int), .int .i64 lo, .int .i64 hi] 67)).cell? ⟨w7.heap.size, 0, none⟩ = some (.int .i64 (k : Int)) ∧ (w7.alloc (.cells #[.int .i64 (k : Int), .int .i64 lo, .int .i64 hi] 67)).cell? ⟨w7.heap.size, 1, none⟩ = some (.int .i64 lo) ∧ (w7.alloc (.cells #[.int .i64 (k : Int), .int .i64 lo, .int .i64 hi] 67)).cell? ⟨w7.heap.size, 2, none⟩ = some (.int .i64 hi) := ⟨(cell_lit w7 #[.int .i64 (k : Int), .int .i64 lo, .int .i64 hi] 67 0).trans rfl, (cell_lit w7 #[.int .i64 (k : Int), .int .i64 lo, .int .i64 hi] 67 1).trans rfl, (cell_lit w7 #[.int .i64 (k : Int), .int .i64 lo, .int .i64 hi] 67 2).trans rfl⟩
          have l8 : w7.heap.size < (w7.alloc (.cells #[.int .i64 (k : Int), .int .i64 lo, .int .i64 hi] 67)).heap.size := by simp
          have HC7 := Lib.hid (conds_one q7 l8)
          have b8 := keepA (.cells #[.int .i64 (k : Int), .int .i64 lo, .int .i64 hi] 67) b7
          have z8 := keepA (.cells #[.int .i64 (k : Int), .int .i64 lo, .int .i64 hi] 67) z7
          have o8 := ownsC_below o7 al
          have D8 := D7.alloc (.cells #[.int .i64 (k : Int), .int .i64 lo, .int .i64 hi] 67)
          have s8 := Nat.le_trans (Nat.succ_le_of_lt l7) al.size
          have p2 := (cell_of_row w7 _ 2 _ _ _ b7).trans (show _ = some (Value.slice ca cs.length ccap) from rfl)
          clear al q7 l8 b7 z7 o7 D7 l7
          go_wp2_with (at_builtin; refine wpl_append_conds rfl (.tmp 38) (.tmp 43) rfl (R + 1) _ _ cs [((k : Int), lo, hi)] rfl rfl o8 HC7.out s8 (by have := hcl.out; simp; omega) ?_)
          intro u9 w9 o9 bl9
          obtain ⟨ub, ubc, rfl⟩ := ownsC_len o9
          have o9c : OwnsC w9 (R + 1) (.slice ub (cs.length + 1) ubc) (cs ++ [((k : Int), lo, hi)]) := by simpa using o9
          have b9 := keepB bl9 (Nat.lt_succ_self _) b8
          have z9 := keepB bl9 (by have := HS1.out; omega) z8
          have D9 := D8.below bl9 (by have := HS1.out; omega)
          simp only [List.length_append, List.length_cons, List.length_nil, Nat.zero_add]
          have y2 := (cell_of_row w9 _ 2 _ _ _ b9).trans (show _ = some (Value.slice ca cs.length ccap) from rfl)
          have f2 := frozen_of_row w9 _ 2 _ _ b9
          clear o8 b8 z8 D8 s8 bl9 o9 p2
          go_wp2
          have r9 := heap_setCell_same w9 R 2 _ _ (.slice ub (cs.length + 1) ubc) b9
          have zz := (heap_setCell_other w9 ⟨R, 2, none⟩ w.heap.size (.slice ub (cs.length + 1) ubc) (by have := HS1.out; simp; omega)).trans z9
          have D10 := D9.set (R := R) (by have := HS1.out; omega) 2 (.slice ub (cs.length + 1) ubc)
          have o10 := ownsC_low o9c (b := R) (Nat.lt_succ_self _) 2 (.slice ub (cs.length + 1) ubc)
          go_roundw
          case rel => exact ⟨k + 1, _, _, by omega, Lib.hid (by have := hcl.out; simp; omega), by go_num, r9, zz, o10, D10⟩
          case measure => simp [intOf]; omega
        | true =>
          have al : Below w7.heap.size w7 (w7.alloc (.cells #[.int .i64 (k : Int), .int .i64 lo, .int .i64 lo] 67)) := (Below.refl _ _).alloc (Nat.le_refl _) _
          have q7 : (w7.alloc (.cells #[.int .i64 (k : Int), .int .i64 lo, .int .i64 lo] 67)).cell? ⟨w7.heap.size, 0, none⟩ = some (.int .i64 (k : Int)) ∧ (w7.alloc (.cells #[.int .i64 (k : Int), .int .i64 lo, .int .i64 lo] 67)).cell? ⟨w7.heap.size, 1, none⟩ = some (.int .i64 lo) ∧ (w7.alloc (.cells #[.int .i64 (k : Int), .int .i64 lo, .int .i64 lo] 67)).cell? ⟨w7.heap.size, 2, none⟩ = some (.int .i64 lo) := ⟨(cell_lit w7 #[.int .i64 (k : Int), .int .i64 lo, .int .i64 lo] 67 0).trans rfl, (cell_lit w7 #[.int .i64 (k : Int), .int .i64 lo, .int .i64 lo] 67 1).trans rfl, (cell_lit w7 #[.int .i64 (k : Int), .int .i64 lo, .int .i64 lo] 67 2).trans rfl⟩
          have l8 : w7.heap.size < (w7.alloc (.cells #[.int .i64 (k : Int), .int .i64 lo, .int .i64 lo] 67)).heap.size := by simp
          have HC7 := Lib.hid (conds_one q7 l8)
          have b8 := keepA (.cells #[.int .i64 (k : Int), .int .i64 lo, .int .i64 lo] 67) b7
          have z8 := keepA (.cells #[.int .i64 (k : Int), .int .i64 lo, .int .i64 lo] 67) z7
          have o8 := ownsC_below o7 al
          have D8 := D7.alloc (.cells #[.int .i64 (k : Int), .int .i64 lo, .int .i64 lo] 67)
          have s8 := Nat.le_trans (Nat.succ_le_of_lt l7) al.size
          have p2 := (cell_of_row w7 _ 2 _ _ _ b7).trans (show _ = some (Value.slice ca cs.length ccap) from rfl)
          clear al q7 l8 b7 z7 o7 D7 l7
          go_wp2_with (at_builtin; refine wpl_append_conds rfl (.tmp 38) (.tmp 43) rfl (R + 1) _ _ cs [((k : Int), lo, lo)] rfl rfl o8 HC7.out s8 (by have := hcl.out; simp; omega) ?_)
          intro u9 w9 o9 bl9
          obtain ⟨ub, ubc, rfl⟩ := ownsC_len o9
          have o9c : OwnsC w9 (R + 1) (.slice ub (cs.length + 1) ubc) (cs ++ [((k : Int), lo, lo)]) := by simpa using o9
          have b9 := keepB bl9 (Nat.lt_succ_self _) b8
          have z9 := keepB bl9 (by have := HS1.out; omega) z8
          have D9 := D8.below bl9 (by have := HS1.out; omega)
          simp only [List.length_append, List.length_cons, List.length_nil, Nat.zero_add]
          have y2 := (cell_of_row w9 _ 2 _ _ _ b9).trans (show _ = some (Value.slice ca cs.length ccap) from rfl)
          have f2 := frozen_of_row w9 _ 2 _ _ b9
          clear o8 b8 z8 D8 s8 bl9 o9 p2
          go_wp2
          have r9 := heap_setCell_same w9 R 2 _ _ (.slice ub (cs.length + 1) ubc) b9
          have zz := (heap_setCell_other w9 ⟨R, 2, none⟩ w.heap.size (.slice ub (cs.length + 1) ubc) (by have := HS1.out; simp; omega)).trans z9
          have D10 := D9.set (R := R) (by have := HS1.out; omega) 2 (.slice ub (cs.length + 1) ubc)
          have o10 := ownsC_low o9c (b := R) (Nat.lt_succ_self _) 2 (.slice ub (cs.length + 1) ubc)
          go_roundw
          case rel => exact ⟨k + 1, _, _, by omega, Lib.hid (by have := hcl.out; simp; omega), by go_num, r9, zz, o10, D10⟩
          case measure => simp [intOf]; omega
    · obtain rfl : k = 3 := by omega
      go_wp2_with fail
      refine (below_any w0 c v xs _ hD.cur 3 (by omega) (by omega)).mono ?_
      rintro e w4 ⟨n, n0, n1, rfl, hC4, hg4⟩
      obtain ⟨n, rfl⟩ := Int.eq_ofNat_of_zero_le n0
      have D4 := hD.call hC4 hg4
      have b4 := keep hg4 (hD.ne (by have := HS1.out; omega)) hb
      have z4 := keep hg4 (hD.ne (Nat.le_refl _)) hz
      have o4 : OwnsC w4 (R + 1) _ cs := kept_low hown hg4 (by have := hD.lt; have := HS1.out; omega)
      have HL4 := Lib.hid (Nat.lt_of_lt_of_le hRl hg4.size)
      have HCB := Lib.hid (fun b (hb : (Value.slice ca cs.length ccap).ownBlock = some b) => o4.lt b hb)
      have HCL := Lib.hid hcl.out
      clear hD hC4 hg4 hb hz hown hRl hcl hlt hk
      obtain ⟨C, hCC⟩ : ∃ C, w4.heap.size = C := ⟨_, rfl⟩
      have HCS : Hid (C ≤ w4.heap.size) := Lib.hid (by omega)
      rw [hCC] at HL4 HCB
      clear hCC
      have wn : IntKind.i64.wrap (1 + (n : Int)) = ((n + 1 : Nat) : Int) := by rw [IntWalk.i64_in _ (by omega)]; omega
      go_wp2
      clear wn
      go_loopw [10] (fun i wr => ∃ (m : Nat) (ov : Value) (os : List Int), Hid (os.length + m ≤ 3) ∧ i = .int .i64 m ∧ wr.heap[R]? = some (.cells #[.int .i64 id, .int .i64 tn, .slice ca cs.length ccap, ov] 27 (0, 0)) ∧ wr.heap[w.heap.size]? = some (.cells #[.int .i64 0, .int .i64 0, .slice none 0 0, .slice none 0 0] 27 (0, 0)) ∧ OwnsC wr (R + 1) (.slice ca cs.length ccap) cs ∧ OwnsN wr C ov os ∧ Hid (C ≤ wr.heap.size) ∧ Dr w0 c v xs w wr) (fun i _ => (intOf i).toNat)
      case atStart => exact ⟨n + 1, .slice none 0 0, [], Lib.hid (by simp; omega), by simp, b4, z4, o4, ownsN_nil _ _, HCS, D4⟩
      case round =>
        obtain ⟨m, ov, os, hom, rfl, hb, hz, hoc, hon, hCs, hD⟩ := hrel
        clear D4 b4 z4 o4 HCS
        obtain ⟨oa, ocap, rfl⟩ := ints_len (ownsN_ints hon)
        by_cases hlt : 0 < m
        · have hm4 : m ≤ 3 := by have := hom.out; omega
          go_wp2_with fail
          refine (below_any w0 c v xs _ hD.cur 3 (by omega) (by omega)).mono ?_
          rintro e w5 ⟨f, fl, fh, rfl, hC5, hg5⟩
          have D5 := hD.call hC5 hg5
          have b5 := keep hg5 (hD.ne (by have := HS1.out; omega)) hb
          have z5 := keep hg5 (hD.ne (Nat.le_refl _)) hz
          have oc5 : OwnsC w5 (R + 1) _ cs := kept_low hoc hg5 (by have := hD.lt; have := HS1.out; omega)
          have on5 := ownsN_grown hon hg5 (by have := hD.lt; have := HS1.out; have := HL4.out; omega)
          have s5 := Nat.le_trans hCs.out hg5.size
          clear hD hC5 hg5 hb hz hoc hon hCs
          have al : Below w5.heap.size w5 (w5.alloc (.cells #[.int .i64 f] 3)) := (Below.refl _ _).alloc (Nat.le_refl _) _
          have q7 := (cell_lit w5 #[.int .i64 f] 3 0).trans (show _ = some (Value.int .i64 f) from rfl)
          have b6 := keepA (.cells #[.int .i64 f] 3) b5
          have z6 := keepA (.cells #[.int .i64 f] 3) z5
          have oc6 := ownsC_below oc5 al
          have on6 := ownsN_below on5 al
          have D6 := D5.alloc (.cells #[.int .i64 f] 3)
          have s6 := Nat.le_trans s5 al.size
          have p3 := (cell_of_row w5 _ 3 _ _ _ b5).trans (show _ = some (Value.slice oa os.length ocap) from rfl)
          clear D5 b5 z5 oc5 on5 s5 al
          go_wp2_with (at_builtin; refine wpl_append_one rfl (.tmp 56) (.tmp 58) rfl C (.slice oa os.length ocap) os w5.heap.size f rfl rfl on6 q7 s6 (by have := hom.out; omega) ?_)
          intro u9 w9 o9 g9
          obtain ⟨ub, ubc, rfl⟩ := ints_len (ownsN_ints o9)
          have on9 : OwnsN w9 C (.slice ub (os.length + 1) ubc) (os ++ [f]) := by simpa using o9
          have bl9 := (Below.refl C _).grown g9 s6 (fun q hq => (on6.lt q hq).1)
          have b9 := keepB bl9 HL4.out b6
          have z9 := keepB bl9 (by have := HS1.out; have := HL4.out; omega) z6
          have D9 := D6.below bl9 (by have := HS1.out; have := HL4.out; omega)
          have oc9 : OwnsC w9 (R + 1) _ cs := owns_belowC oc6 bl9 (fun q hq => (HCB.out q hq).2)
          simp only [List.length_append, List.length_cons, List.length_nil, Nat.zero_add]
          have y3 := (cell_of_row w9 _ 3 _ _ _ b9).trans (show _ = some (Value.slice oa os.length ocap) from rfl)
          have f3 := frozen_of_row w9 _ 3 _ _ b9
          have s9 := Nat.le_trans s6 g9.size
          clear o9 g9 b6 z6 oc6 on6 D6 s6 p3 q7 bl9
          go_wp2
          have r9 := heap_setCell_same w9 R 3 _ _ (.slice ub (os.length + 1) ubc) b9
          have zz := (heap_setCell_other w9 ⟨R, 3, none⟩ w.heap.size (.slice ub (os.length + 1) ubc) (by have := HS1.out; simp; omega)).trans z9
          have D10 := D9.set (R := R) (by have := HS1.out; omega) 3 (.slice ub (os.length + 1) ubc)
          have oc10 := ownsC_low oc9 (b := R) (Nat.lt_succ_self _) 3 (.slice ub (os.length + 1) ubc)
          have on10 := ownsN_low on9 (b := R) HL4.out 3 (.slice ub (os.length + 1) ubc)
          go_roundw
          case rel => exact ⟨m - 1, _, _, Lib.hid (by have := hom.out; simp; omega), by go_num, r9, zz, oc10, on10, Lib.hid (by simpa [World.setCell] using s9), D10⟩
          case measure => simp [intOf]; omega
        · obtain rfl : m = 0 := by omega
          have q0 := (cell_of_row wr _ 0 _ _ _ hb).trans (show _ = some (Value.int .i64 id) from rfl)
          have y0 := (cell_of_row wr _ 0 _ _ _ hz).trans (show _ = some (Value.int .i64 0) from rfl)
          have f0 := frozen_of_row wr _ 0 _ _ hz
          have q1 := (cell_of_row wr _ 1 _ _ _ hb).trans (show _ = some (Value.int .i64 tn) from rfl)
          have y1 := (cell_of_row wr _ 1 _ _ _ hz).trans (show _ = some (Value.int .i64 0) from rfl)
          have f1 := frozen_of_row wr _ 1 _ _ hz
          have q2 := (cell_of_row wr _ 2 _ _ _ hb).trans (show _ = some (Value.slice ca cs.length ccap) from rfl)
          have y2 := (cell_of_row wr _ 2 _ _ _ hz).trans (show _ = some (Value.slice none 0 0) from rfl)
          have f2 := frozen_of_row wr _ 2 _ _ hz
          have q3 := (cell_of_row wr _ 3 _ _ _ hb).trans (show _ = some (Value.slice oa os.length ocap) from rfl)
          have y3 := (cell_of_row wr _ 3 _ _ _ hz).trans (show _ = some (Value.slice none 0 0) from rfl)
          have f3 := frozen_of_row wr _ 3 _ _ hz
          go_wp2
          have r1 := heap_setCell_same wr w.heap.size 0 _ _ (.int .i64 id) hz
          have r2 := heap_setCell_same _ w.heap.size 1 _ _ (.int .i64 tn) r1
          have r3 := heap_setCell_same _ w.heap.size 2 _ _ (.slice ca cs.length ccap) r2
          have r4 := heap_setCell_same _ w.heap.size 3 _ _ (.slice oa os.length ocap) r3
          have D9 := ((((hD.set (R := w.heap.size) (Nat.le_refl _) 0 (.int .i64 id)).set (R := w.heap.size) (Nat.le_refl _) 1 (.int .i64 tn)).set (R := w.heap.size) (Nat.le_refl _) 2 (.slice ca cs.length ccap)).set (R := w.heap.size) (Nat.le_refl _) 3 (.slice oa os.length ocap))
          have oc9 := (ownsC_low (ownsC_low (ownsC_low (ownsC_low hoc (b := w.heap.size) (by have := HS1.out; omega) 0 (.int .i64 id)) (b := w.heap.size) (by have := HS1.out; omega) 1 (.int .i64 tn)) (b := w.heap.size) (by have := HS1.out; omega) 2 (.slice ca cs.length ccap)) (b := w.heap.size) (by have := HS1.out; omega) 3 (.slice oa os.length ocap))
          have on9 := (ownsN_low (ownsN_low (ownsN_low (ownsN_low hon (b := w.heap.size) (by have := HS1.out; have := HL4.out; omega) 0 (.int .i64 id)) (b := w.heap.size) (by have := HS1.out; have := HL4.out; omega) 1 (.int .i64 tn)) (b := w.heap.size) (by have := HS1.out; have := HL4.out; omega) 2 (.slice ca cs.length ccap)) (b := w.heap.size) (by have := HS1.out; have := HL4.out; omega) 3 (.slice oa os.length ocap))
          have e0 := cell_of_row _ _ 0 _ _ _ r4
          have e1 := cell_of_row _ _ 1 _ _ _ r4
          have e2 := cell_of_row _ _ 2 _ _ _ r4
          have e3 := cell_of_row _ _ 3 _ _ _ r4
          simp at e0 e1 e2 e3
          have hap : ∀ b, (Value.slice ca cs.length ccap).ownBlock = some b → (Value.slice oa os.length ocap).ownBlock ≠ some b := fun b h1 h2 => by have := (HCB.out b h1).2; have := (hon.lt b h2).1; omega
          refine bodyPost_ret (v := qV id tn (.slice ca cs.length ccap) (.slice oa os.length ocap)) ?_ rfl ?_
          · simp [results, Tryz.f51, go_sem, e0, e1, e2, e3, qV]
          · exact ⟨id, tn, cs, os, _, _, rfl, ownsC_up oc9 (by have := HS1.out; omega), ownsN_up on9 (by have := HS1.out; have := HL4.out; omega), HCL.out, by have := hom.out; omega, hap, D9⟩
end Go.Proofs.YteelgogfpidcdaaGreatDoor
