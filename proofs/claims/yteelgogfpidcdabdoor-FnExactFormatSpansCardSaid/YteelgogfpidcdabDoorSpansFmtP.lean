/-
  The program's FormatSpans: it returns the text 'fmtSp'.
-/
import Derived.Test.YteelgogfpidcdabDoorSpansFmt
import Derived.Test.YteelgogfpidcdabDoorSpanOwn
import Derived.Test.YteelgogfpidcdabDoorMaskFmt
import Derived.Test.YteelgogfpidcdabDoorStrs
import Derived.Test.YteelgogfpidcdabDoorRangeP
namespace Go.Proofs.YteelgogfpidcdabDoor
open Go.RowKit
set_option linter.unusedVariables false
set_option linter.unusedSimpArgs false
theorem fieldRange_is (l h : Int) (w : World) : Calls Tryd.prog 22 #[.int .i64 l, .int .i64 h] w fun e w' => e = .returned (.bool (decide (0 ≤ l ∧ l ≤ h) && decide (h ≤ 99))) ∧ w' = w := by
  obtain ⟨r, hr⟩ : ∃ r, (decide (0 ≤ l ∧ l ≤ h) && decide (h ≤ 99)) = r := ⟨_, rfl⟩
  rw [hr]
  by_cases h2 : 0 ≤ l
  · by_cases h3 : l ≤ h
    · by_cases h4 : h ≤ 99
      · have HX := trivial
        have HT : Hid (r = true) := Lib.hid (by rw [← hr, decide_eq_true (And.intro h2 h3), decide_eq_true h4]; rfl)
        clear HX hr
        go_enter Tryd.func22, Tryd.ntmps22
        go_wp2
        go_ret
        exact ⟨ret_b HT.out.symm, rfl⟩
      · have HX := trivial
        have HT : Hid (r = false) := Lib.hid (by rw [← hr, decide_eq_false h4, Bool.and_false])
        clear HX hr
        go_enter Tryd.func22, Tryd.ntmps22
        go_wp2
        go_ret
        exact ⟨ret_b HT.out.symm, rfl⟩
    · have HX := trivial
      have HT : Hid (r = false) := Lib.hid (by rw [← hr, decide_eq_false (fun g => h3 g.2), Bool.false_and])
      clear HX hr
      go_enter Tryd.func22, Tryd.ntmps22
      go_wp2
      go_ret
      exact ⟨ret_b HT.out.symm, rfl⟩
  · have HX := trivial
    have HT : Hid (r = false) := Lib.hid (by rw [← hr, decide_eq_false (fun g => h2 g.1), Bool.false_and])
    clear HX hr
    go_enter Tryd.func22, Tryd.ntmps22
    go_wp2
    go_ret
    exact ⟨ret_b HT.out.symm, rfl⟩
set_option maxHeartbeats 4000000 in
set_option maxRecDepth 100000 in
theorem isSpan_any (f t : Int) (v : Value) (xs : List Int) (w : World) (h : Ints w v xs) (hn : xs.length ≤ 1048576) :
    Calls Tryd.prog 14 #[.agg #[.int .i64 f, .int .i64 t, v]] w fun e w' => e = .returned (.bool (spanB (f, t, xs))) ∧ Below w.heap.size w w' := by
  obtain ⟨va, vcap, rfl⟩ := ints_len h
  have hb : Below w.heap.size w (w.alloc (.cells #[.int .i64 f, .int .i64 t, .slice va xs.length vcap] 34)) := (Below.refl _ w).alloc (Nat.le_refl _) _
  have HR := Lib.hid (fun w => fieldRange_is f t w)
  have HS := Lib.hid (fun w h => implIsSet (.slice va xs.length vcap) xs w h hn)
  have HV := Lib.hid (ints_below h hb)
  obtain ⟨r, hr⟩ : ∃ r, (decide (0 ≤ f ∧ f ≤ t) && decide (t ≤ 99)) = r := ⟨_, rfl⟩
  have HE : Hid (spanB (f, t, xs) = (r && setB xs)) := Lib.hid (by rw [← hr]; rfl)
  rw [hr] at HR
  rw [HE.out]
  clear h hn hr HE
  cases r with
  | false =>
    go_enter Tryd.func14, Tryd.ntmps14
    go_wp2_with fail
    refine (HR.out _).mono ?_
    rintro e w1 ⟨rfl, rfl⟩
    go_wp2
    go_ret
    exact ⟨rfl, hb⟩
  | true =>
    generalize setB xs = s at *
    go_enter Tryd.func14, Tryd.ntmps14
    go_wp2_with fail
    refine (HR.out _).mono ?_
    rintro e w1 ⟨rfl, rfl⟩
    go_wp2_with fail
    generalize w.alloc (.cells #[.int .i64 f, .int .i64 t, .slice va xs.length vcap] 34) = W at *
    refine (HS.out _ HV.out).mono ?_
    rintro e w1 ⟨rfl, b1⟩
    have b2 := hb.trans (b1.mono hb.size)
    go_wp2
    go_ret
    exact ⟨by rw [Bool.true_and]; rfl, b2⟩
def txtR (r : SpanD) : ByteArray := strB (spanT r)
theorem textsR_step (rs : List SpanD) (k : Nat) (h : k < rs.length) : ((rs.take k).map txtR ++ List.replicate (rs.length - k) (⟨#[]⟩ : ByteArray)).set k (txtR (rs.getD k p0D)) = (rs.take (k + 1)).map txtR ++ List.replicate (rs.length - (k + 1)) (⟨#[]⟩ : ByteArray) := by
  have hk : ((rs.take k).map txtR).length = k := by rw [List.length_map, List.length_take]; omega
  rw [List.set_append_right _ _ (by omega), hk, Nat.sub_self, show rs.length - k = (rs.length - (k + 1)) + 1 by omega, List.replicate_succ, List.set_cons_zero, List.take_succ_eq_append_getElem h, List.map_append, List.append_assoc]
  simp [List.getD, h]
theorem join_snoc (sep x : List UInt8) : ∀ l : List (List UInt8), Lib.join (l ++ [x]) sep = (if l.length = 0 then [] else Lib.join l sep ++ sep) ++ x
  | [] => by simp [Lib.join_one]
  | a :: r => by
    rw [List.cons_append, Lib.join_cons, Lib.join_cons]
    simp [Lib.joinTail]
theorem join_spans (rs : List SpanD) : ∀ k, k ≤ rs.length → Lib.join ((rs.take k).map spanT) [59, 32] = glueTo rs k
  | 0, _ => by simp [glueTo, Lib.join_nil]
  | k + 1, hk => by
    have ih := join_spans rs k (by omega)
    have e : rs.getD k p0D = rs[k] := by simp [List.getD, show k < rs.length by omega]
    rw [List.take_succ_eq_append_getElem (by omega), List.map_append, List.map_cons, List.map_nil, join_snoc, ih]
    show _ = (if k = 0 then glueTo rs k else glueTo rs k ++ [59, 32]) ++ spanT (rs.getD k p0D)
    rw [e, List.length_map, List.length_take, Nat.min_eq_left (by omega)]
    by_cases c : k = 0
    · subst c; simp [glueTo]
    · rw [if_neg c, if_neg c]
theorem join_txtR (rs : List SpanD) : Lib.join ((rs.map txtR).map (·.data.toList)) (⟨#[59, 32]⟩ : ByteArray).data.toList = glueTo rs rs.length := by
  have h := join_spans rs rs.length (Nat.le_refl _)
  rw [List.take_length] at h
  rw [← h, List.map_map]
  rfl
set_option maxHeartbeats 16000000 in
set_option maxRecDepth 100000 in
theorem implFormatSpans (va : Value) (rs : List SpanD) (w : World) (h : SpansR w va rs) (hs : zpL rs ≤ 1048576) (hTZ : TabZ w) (hT : Tab w) :
    Calls Tryd.prog 7 #[va] w fun e w' => e = .returned (.string (strB (fmtSp rs))) ∧ Below w.heap.size w w' := by
  obtain ⟨i0, hi, hz0, hz1, hz2⟩ := info_parts Tryd.infoStr
  have HI := Lib.hid hi; have HZ0 := Lib.hid hz0; have HZ1 := Lib.hid hz1; have HZ2 := Lib.hid hz2
  clear hi hz0 hz1 hz2
  have H := Lib.hid h
  have HS := Lib.hid hs
  have HT := Lib.hid hT
  have HTZ := Lib.hid hTZ
  have hlen := zpL_len hs
  obtain ⟨a, cap, rfl⟩ := spansR_len h
  clear h hs hT hTZ
  by_cases h0 : rs.length = 0
  · have HF := Lib.hid (fmtSp_none h0)
    have hq : ((rs.length : Int) == 0) = true := by rw [h0]; rfl
    go_enter Tryd.func7, Tryd.ntmps7
    go_wp2
    go_ret
    exact ⟨ret_s HF.out.symm, Below.refl _ _⟩
  · have hq : ((rs.length : Int) == 0) = false := by rw [beq_eq_false_iff_ne]; omega
    have HP : Hid (0 < rs.length) := Lib.hid (by omega)
    clear h0
    go_enter Tryd.func7, Tryd.ntmps7
    go_wp2_with (at_make; refine wpList_make_full _ rfl (.tmp 10) (.tmp 10) 38 rfl w.heap.size 9 i0 (.string ⟨#[]⟩) 1 Tryd.underlying38 HI.out HZ0.out HZ1.out _ _ _ _ rs.length rfl rfl rfl rfl (by rw [HZ2.out]; omega) (by unfold maxLen; omega) (Nat.le_refl _) ?_)
    intro w1 hown0 hg0
    have hown1 := ownsS_made (by simpa using hown0)
    have hbel1 := (Below.refl w.heap.size w).grown hg0 (Nat.le_refl _) (fun k hk => by cases hk)
    clear hown0 hg0 hq
    go_wp2
    go_loopw [14] (fun i wr => ∃ k : Nat, k ≤ rs.length ∧ i = .int .i64 k ∧ Hid (∀ j, j < k → spanB (rs.getD j p0D) = true) ∧ OwnsS wr w.heap.size (.slice (some ⟨w.heap.size, 0, none⟩) rs.length rs.length) ((rs.take k).map txtR ++ List.replicate (rs.length - k) (⟨#[]⟩ : ByteArray)) ∧ Below w.heap.size w wr) (fun i _ => rs.length - (intOf i).toNat)
    case atStart => exact ⟨0, Nat.zero_le _, rfl, Lib.hid (fun j hj => by omega), by simpa using hown1, hbel1⟩
    case round =>
      obtain ⟨k, hk, rfl, hall, hown, hbel⟩ := hrel
      clear hown1 hbel1
      by_cases hlt : k < rs.length
      · obtain ⟨b, off, cap', vv, hv, hbl, hc1, hc2, hc3, hI⟩ := spansR_at (spansR_below H.out hbel) hlt
        simp only [Value.slice.injEq] at hv
        obtain ⟨rfl, _, rfl⟩ := hv
        obtain ⟨ua, uc, rfl⟩ := ints_len hI
        have HXL := Lib.hid (zpL_span HS.out hlt)
        have i1 : (0 : Int) ≤ (k : Int) := by omega
        have i2 : (k : Int) < (rs.length : Int) := by omega
        have HBAD := Lib.hid (fmtSp_bad (rs := rs) hlt)
        have HALL : Hid (spanB (rs.getD k p0D) = true → ∀ j, j < k + 1 → spanB (rs.getD j p0D) = true) := Lib.hid (fun he j hj => by
          by_cases e : j = k
          · exact e ▸ he
          · exact hall.out j (by omega))
        have HSET := Lib.hid (textsR_step rs k hlt)
        have HLL : Hid (((rs.take k).map txtR ++ List.replicate (rs.length - k) (⟨#[]⟩ : ByteArray)).length = rs.length) := Lib.hid (by simp; omega)
        have HNE : Hid (w.heap.size ≠ wr.heap.size) := Lib.hid (by have := (ownsS_ge hown).2; omega)
        clear hall
        generalize (rs.take k).map txtR ++ List.replicate (rs.length - k) (⟨#[]⟩ : ByteArray) = us at *
        generalize rs.getD k p0D = r at *
        obtain ⟨sf, st, xs⟩ := r
        simp only at hc1 hc2 hc3 hI HXL
        have HSP := Lib.hid (fun w h => isSpan_any sf st (.slice ua xs.length uc) xs w h HXL.out)
        have HFS := Lib.hid (fun w h hT => implFormatSet (.slice ua xs.length uc) xs w h hT HXL.out)
        have hW : Below wr.heap.size wr (wr.alloc (.cells #[.int .i64 sf, .int .i64 st, .slice ua xs.length uc] 34)) := (Below.refl _ wr).alloc (Nat.le_refl _) _
        have g0 := heap_alloc_new wr (.cells #[.int .i64 sf, .int .i64 st, .slice ua xs.length uc] 34)
        have hlW : wr.heap.size < (wr.alloc (.cells #[.int .i64 sf, .int .i64 st, .slice ua xs.length uc] 34)).heap.size := by simp
        have HIA := Lib.hid (ints_below hI hW)
        have HOA := Lib.hid (ownsS_below hown hW)
        have HBA := Lib.hid (hbel.trans (hW.mono hbel.size))
        clear hI hown hbel hW
        go_wp2_with fail
        generalize wr.alloc (.cells #[.int .i64 sf, .int .i64 st, .slice ua xs.length uc] 34) = W0 at *
        refine (HSP.out _ HIA.out).mono ?_
        rintro e W ⟨rfl, bw⟩
        have g1 := (bw.block _ hlW).trans g0
        have hl2 : wr.heap.size < W.heap.size := Nat.lt_of_lt_of_le hlW bw.size
        have HIW := Lib.hid (ints_below HIA.out bw)
        have hoW := ownsS_below HOA.out bw
        have bW := HBA.out.trans (bw.mono HBA.out.size)
        have q0 := (cell_of_row W _ 0 _ _ _ g1).trans (show _ = some (Value.int .i64 sf) from rfl)
        have q1 := (cell_of_row W _ 1 _ _ _ g1).trans (show _ = some (Value.int .i64 st) from rfl)
        have q2 := (cell_of_row W _ 2 _ _ _ g1).trans (show _ = some (Value.slice ua xs.length uc) from rfl)
        clear g0 g1 hlW bw HIA HOA HBA hc1 hc2 hc3
        cases hb : spanB (sf, st, xs) with
        | false =>
          have HF := Lib.hid (HBAD.out hb)
          clear hb HBAD HALL HSET
          go_wp2
          go_ret
          exact ⟨ret_s HF.out.symm, bW⟩
        | true =>
          have HA := Lib.hid (HALL.out hb)
          obtain ⟨n0, n1, n2, n3⟩ := span_parts hb
          simp only at n0 n1 n2 n3
          have HFR := Lib.hid (fun w h => formatRange_any sf st w n0 (by omega) (by omega) (by omega) h)
          have l1 := Lib.itoa_length_le sf (by omega) (by omega)
          have l2 := Lib.itoa_length_le st (by omega) (by omega)
          have l3 := fmtSet_len n3 (setS_range n3)
          have hxl := HXL.out
          have hT : txtR (sf, st, xs) = strB ((Lib.itoa sf ++ [46, 46] ++ Lib.itoa st) ++ [32] ++ fmtSet xs) := by unfold txtR spanT; simp only [List.append_assoc]
          rw [hT] at HSET
          generalize fmtSet xs = tx at *
          have hrl : (Lib.itoa sf ++ [46, 46] ++ Lib.itoa st).length ≤ 50 := by simp only [List.length_append, List.length_cons, List.length_nil]; omega
          generalize Lib.itoa sf ++ [46, 46] ++ Lib.itoa st = ta at *
          have d1 : ∀ w, (Op.stringOp .add (strB ta) ⟨#[32]⟩).run Tryd.prog w = .ok (.string (strB (ta ++ [32]))) w := strB_add ta [32] (by simp only [List.length_append, List.length_cons, List.length_nil]; omega)
          have d2 : ∀ w, (Op.stringOp .add (strB (ta ++ [32])) (strB tx)).run Tryd.prog w = .ok (.string (strB (ta ++ [32] ++ tx))) w := strB_add (ta ++ [32]) tx (by simp only [List.length_append, List.length_cons, List.length_nil]; omega)
          generalize ta ++ [32] ++ tx = ty at *
          generalize ta ++ [32] = tz at *
          clear hb HBAD HALL hT l1 l2 l3 hrl n0 n1 n2 n3 hxl
          go_wp2
          refine wp_region_held_drew (S := fun w' => w'.cell? ⟨wr.heap.size, 0, none⟩ = some (.int .i64 sf) ∧ w'.cell? ⟨wr.heap.size, 1, none⟩ = some (.int .i64 st) ∧ w'.cell? ⟨wr.heap.size, 2, none⟩ = some (.slice ua xs.length uc)) (by kernel_rfl) ⟨q0, q1, q2⟩ (fun hHeld => ?_)
          have e0 := below_drew (Below.refl W.heap.size W)
          refine take_runs (i := 0) (v := ?_) (by simp only [List.getElem?_toArray, List.getElem?_cons_succ, List.getElem?_cons_zero]; rfl) (by kernel_rfl) (by kernel_rfl) (by kernel_rfl) rfl (by exact fun _ _ _ h => h) (by rfl) ?_ (by assumption) ?_
          rotate_left
          · intro w hSw; (try dsimp only at hSw); go_simp; try (with_reducible rfl)
          try simp only [Act.put, List.setIfInBounds_toArray, List.set_cons_zero, List.set_cons_succ]
          refine take_runs (i := 1) (v := ?_) (by simp only [List.getElem?_toArray, List.getElem?_cons_succ, List.getElem?_cons_zero]; rfl) (by kernel_rfl) (by kernel_rfl) (by kernel_rfl) rfl (by exact fun _ _ _ h => h) (by rfl) ?_ (by assumption) ?_
          rotate_left
          · intro w hSw; (try dsimp only at hSw); go_simp; try (with_reducible rfl)
          try simp only [Act.put, List.setIfInBounds_toArray, List.set_cons_zero, List.set_cons_succ]
          refine take_runs (i := 2) (v := ?_) (by simp only [List.getElem?_toArray, List.getElem?_cons_succ, List.getElem?_cons_zero]; rfl) (by kernel_rfl) (by kernel_rfl) (by kernel_rfl) rfl (by exact fun _ _ _ h => h) (by rfl) ?_ (by assumption) ?_
          rotate_left
          · intro w hSw; (try dsimp only at hSw); go_simp; try (with_reducible rfl)
          try simp only [Act.put, List.setIfInBounds_toArray, List.set_cons_zero, List.set_cons_succ]
          refine take_runs (i := 3) (v := ?_) (by simp only [List.getElem?_toArray, List.getElem?_cons_succ, List.getElem?_cons_zero]; rfl) (by kernel_rfl) (by kernel_rfl) (by kernel_rfl) rfl (by exact fun _ _ _ h => h) (by rfl) ?_ (by assumption) ?_
          rotate_left
          · intro w hSw; (try dsimp only at hSw); go_simp; try (with_reducible rfl)
          try simp only [Act.put, List.setIfInBounds_toArray, List.set_cons_zero, List.set_cons_succ]
          refine take_runs (i := 4) (v := ?_) (by simp only [List.getElem?_toArray, List.getElem?_cons_succ, List.getElem?_cons_zero]; rfl) (by kernel_rfl) (by kernel_rfl) (by kernel_rfl) rfl (by exact fun _ _ _ h => h) (by rfl) ?_ (by assumption) ?_
          rotate_left
          · intro w hSw; (try dsimp only at hSw); go_simp; try (with_reducible rfl)
          try simp only [Act.put, List.setIfInBounds_toArray, List.set_cons_zero, List.set_cons_succ]
          refine take_runs (i := 5) (v := ?_) (by simp only [List.getElem?_toArray, List.getElem?_cons_succ, List.getElem?_cons_zero]; rfl) (by kernel_rfl) (by kernel_rfl) (by kernel_rfl) rfl (by exact fun _ _ _ h => h) (by rfl) ?_ (by assumption) ?_
          rotate_left
          · intro w hSw; (try dsimp only at hSw); go_simp; try (with_reducible rfl)
          try simp only [Act.put, List.setIfInBounds_toArray, List.set_cons_zero, List.set_cons_succ]
          refine take_runs (i := 8) (v := ?_) (by simp only [List.getElem?_toArray, List.getElem?_cons_succ, List.getElem?_cons_zero]; rfl) (by kernel_rfl) (by kernel_rfl) (by kernel_rfl) rfl (by exact fun _ _ _ h => h) (by rfl) ?_ (by assumption) ?_
          rotate_left
          · intro w hSw; (try dsimp only at hSw); go_simp; try (with_reducible rfl)
          try simp only [Act.put, List.setIfInBounds_toArray, List.set_cons_zero, List.set_cons_succ]
          refine take_runs (i := 9) (v := ?_) (by simp only [List.getElem?_toArray, List.getElem?_cons_succ, List.getElem?_cons_zero]; rfl) (by kernel_rfl) (by kernel_rfl) (by kernel_rfl) rfl (by exact fun _ _ _ h => h) (by rfl) ?_ (by assumption) ?_
          rotate_left
          · intro w hSw; (try dsimp only at hSw); go_simp; try (with_reducible rfl)
          try simp only [Act.put, List.setIfInBounds_toArray, List.set_cons_zero, List.set_cons_succ]
          refine wpAnyH_ready (rs := [6]) (by kernel_rfl) (by simp) ?_
          refine (AllReadyH.cons (o := _) (by simp only [List.getElem?_toArray, List.getElem?_cons_succ, List.getElem?_cons_zero]; rfl) (fun K hK => ?_) AllReadyH.nil)
          go_simp
          refine (HFR.out _ (HT.out.on (bW.trans (e0.mono bW.size)))).mono ?_
          rintro e x1 ⟨rfl, k1⟩
          have e1 : Below W.heap.size W x1 := e0.trans (k1.mono e0.size)
          refine hK.out _ _ ⟨(e1.cell (p := ⟨wr.heap.size, 0, none⟩) hl2).trans q0, (e1.cell (p := ⟨wr.heap.size, 1, none⟩) hl2).trans q1, (e1.cell (p := ⟨wr.heap.size, 2, none⟩) hl2).trans q2⟩ (fun hHeld => ?_)
          clear hK K
          try simp only [Act.put, List.setIfInBounds_toArray, List.set_cons_zero, List.set_cons_succ]
          refine take_runs (i := 7) (v := ?_) (by simp only [List.getElem?_toArray, List.getElem?_cons_succ, List.getElem?_cons_zero]; rfl) (by kernel_rfl) (by kernel_rfl) (by kernel_rfl) rfl (by exact fun _ _ _ h => h) (by rfl) ?_ (by assumption) ?_
          rotate_left
          · intro w hSw; (try dsimp only at hSw); go_simp; try (with_reducible rfl)
          try simp only [Act.put, List.setIfInBounds_toArray, List.set_cons_zero, List.set_cons_succ]
          refine wpAnyH_ready (rs := [10]) (by kernel_rfl) (by simp) ?_
          refine (AllReadyH.cons (o := _) (by simp only [List.getElem?_toArray, List.getElem?_cons_succ, List.getElem?_cons_zero]; rfl) (fun K hK => ?_) AllReadyH.nil)
          go_simp
          refine (HFS.out _ (ints_below HIW.out e1) (HTZ.out.on (bW.trans (e1.mono bW.size)))).mono ?_
          rintro e x2 ⟨rfl, k2⟩
          have e2 : Below W.heap.size W x2 := e1.trans (k2.mono e1.size)
          refine hK.out _ _ ⟨(e2.cell (p := ⟨wr.heap.size, 0, none⟩) hl2).trans q0, (e2.cell (p := ⟨wr.heap.size, 1, none⟩) hl2).trans q1, (e2.cell (p := ⟨wr.heap.size, 2, none⟩) hl2).trans q2⟩ (fun hHeld => ?_)
          clear hK K
          try simp only [Act.put, List.setIfInBounds_toArray, List.set_cons_zero, List.set_cons_succ]
          refine take_runs (i := 11) (v := ?_) (by simp only [List.getElem?_toArray, List.getElem?_cons_succ, List.getElem?_cons_zero]; rfl) (by kernel_rfl) (by kernel_rfl) (by kernel_rfl) rfl (by exact fun _ _ _ h => h) (by rfl) ?_ (by assumption) ?_
          rotate_left
          · intro w hSw; (try dsimp only at hSw); go_simp; try (with_reducible rfl)
          try simp only [Act.put, List.setIfInBounds_toArray, List.set_cons_zero, List.set_cons_succ]
          refine take_runs (i := 12) (v := ?_) (by simp only [List.getElem?_toArray, List.getElem?_cons_succ, List.getElem?_cons_zero]; rfl) (by kernel_rfl) (by kernel_rfl) (by kernel_rfl) rfl (by exact fun _ _ _ h => h) (by rfl) ?_ (by assumption) ?_
          rotate_left
          · intro w hSw; (try dsimp only at hSw); go_simp; try (with_reducible rfl)
          try simp only [Act.put, List.setIfInBounds_toArray, List.set_cons_zero, List.set_cons_succ]
          have ho := ownsS_below hoW e2
          obtain ⟨s0, s1⟩ : (∃ x, x2.cell? ⟨w.heap.size, k, none⟩ = some x) ∧ x2.frozen? ⟨w.heap.size, k, none⟩ = false := ⟨⟨_, ownsS_cell ho (List.getElem?_eq_getElem (by have := HLL.out; omega))⟩, ownsS_frozen ho k⟩
          obtain ⟨x0, s0⟩ := s0
          have hst := Lib.hid (ownsS_store ho k (strB ty))
          rw [HSET.out] at hst
          have b3 := bW.trans (e2.mono bW.size)
          have B3 := b3.setCell (p := ⟨w.heap.size, k, none⟩) (Nat.le_refl _) (.string (strB ty))
          have z : ∀ j, (x2.setCell ⟨w.heap.size, k, none⟩ (.string (strB ty))).cell? ⟨wr.heap.size, j, none⟩ = x2.cell? ⟨wr.heap.size, j, none⟩ := fun j => World.cell?_of_block ((grow_set x2 w.heap.size k (.string (strB ty))).block _ (Nat.lt_of_lt_of_le hl2 e2.size) (fun q => HNE.out (Option.some.inj q).symm))
          refine wpAnyH_ready (rs := [13]) (by kernel_rfl) (by simp) ?_
          refine (AllReadyH.cons (o := _) (by simp only [List.getElem?_toArray, List.getElem?_cons_succ, List.getElem?_cons_zero]; rfl) (fun K hK => ?_) AllReadyH.nil)
          go_simp
          refine hK.out _ _ ⟨(z 0).trans ((e2.cell (p := ⟨wr.heap.size, 0, none⟩) hl2).trans q0), (z 1).trans ((e2.cell (p := ⟨wr.heap.size, 1, none⟩) hl2).trans q1), (z 2).trans ((e2.cell (p := ⟨wr.heap.size, 2, none⟩) hl2).trans q2)⟩ (fun hHeld => ?_)
          clear hK K
          try simp only [Act.put, List.setIfInBounds_toArray, List.set_cons_zero, List.set_cons_succ]
          refine wpAnyH_done (by kernel_rfl) ?_ _
          clear hHeld z s0 s1 ho
          go_wp2
          go_roundw
          case rel => exact ⟨k + 1, by omega, by go_num, HA, hst.out, B3⟩
          case measure => simp [intOf]; omega
      · obtain rfl : k = rs.length := by omega
        have HF := Lib.hid (fmtSp_all HP.out hall.out)
        have HGL := Lib.hid (glueTo_max HS.out (Nat.le_refl _) hall.out)
        have HE : Hid ((rs.take rs.length).map txtR ++ List.replicate (rs.length - rs.length) (⟨#[]⟩ : ByteArray) = rs.map txtR) := Lib.hid (by simp)
        rw [HE.out] at hown
        have hB := hbel.size
        have hl3 : (rs.map txtR).length = rs.length := List.length_map txtR
        have HJ := Lib.hid (Tryd.strings_Join w.heap.size 0 rs.length (rs.map txtR) ⟨#[59, 32]⟩ wr (fun j x hx => by
          have := ownsS_cell hown hx
          rw [Nat.zero_add]; exact this) (ownsS_ge hown).2 (by omega) (by omega) (by rw [join_txtR]; have := HGL.out; omega))
        rw [join_txtR, hl3] at HJ
        clear hown HE hl3 hall
        go_wp2_with fail
        refine HJ.out.mono ?_
        rintro e w5 ⟨rfl, b5⟩
        have b6 := hbel.trans (b5.mono hB)
        clear b5 hbel
        go_wp2
        go_ret
        exact ⟨ret_s HF.out.symm, b6⟩
end Go.Proofs.YteelgogfpidcdabDoor
