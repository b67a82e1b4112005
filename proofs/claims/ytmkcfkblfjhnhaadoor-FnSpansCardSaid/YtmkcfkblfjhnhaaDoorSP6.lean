/-
  Texts of the proof, merged: SpansFmtP, Cur, Draw, Draws, SetDraw, RowDraw, RowsDraw, QueryDraw.
-/
import Derived.Test.YtmkcfkblfjhnhaaDoorSP5
import Derived.Test.YtmkcfkblfjhnhaaDoorRows
import Derived.WalkKit
import Derived.Below
import Derived.Lib.Hide
import Derived.BigQuiet
import Derived.Deep.QuietTactic
import Derived.Laws.BitsAllLaws
import Derived.Outline
import Derived.WalkSpells
import Derived.Lib.MinMax
namespace Go.Proofs.YtmkcfkblfjhnhaaDoor
open Go.RowKit
set_option linter.unusedVariables false
set_option linter.unusedSimpArgs false
theorem fieldRange_is (l h : Int) (w : World) : Calls Tryd.prog 48 #[.int .i64 l, .int .i64 h] w fun e w' => e = .returned (.bool (decide (0 ≤ l ∧ l ≤ h) && decide (h ≤ 99))) ∧ w' = w := by
  obtain ⟨r, hr⟩ : ∃ r, (decide (0 ≤ l ∧ l ≤ h) && decide (h ≤ 99)) = r := ⟨_, rfl⟩
  rw [hr]
  by_cases h2 : 0 ≤ l
  · by_cases h3 : l ≤ h
    · by_cases h4 : h ≤ 99
      · have HX := trivial
        have HT : Hid (r = true) := Lib.hid (by rw [← hr, decide_eq_true (And.intro h2 h3), decide_eq_true h4]; rfl)
        clear HX hr
        go_enter Tryd.func48, Tryd.ntmps48
        go_wp2
        go_ret
        exact ⟨ret_b HT.out.symm, rfl⟩
      · have HX := trivial
        have HT : Hid (r = false) := Lib.hid (by rw [← hr, decide_eq_false h4, Bool.and_false])
        clear HX hr
        go_enter Tryd.func48, Tryd.ntmps48
        go_wp2
        go_ret
        exact ⟨ret_b HT.out.symm, rfl⟩
    · have HX := trivial
      have HT : Hid (r = false) := Lib.hid (by rw [← hr, decide_eq_false (fun g => h3 g.2), Bool.false_and])
      clear HX hr
      go_enter Tryd.func48, Tryd.ntmps48
      go_wp2
      go_ret
      exact ⟨ret_b HT.out.symm, rfl⟩
  · have HX := trivial
    have HT : Hid (r = false) := Lib.hid (by rw [← hr, decide_eq_false (fun g => h2 g.1), Bool.false_and])
    clear HX hr
    go_enter Tryd.func48, Tryd.ntmps48
    go_wp2
    go_ret
    exact ⟨ret_b HT.out.symm, rfl⟩
set_option maxHeartbeats 4000000 in
set_option maxRecDepth 100000 in
theorem isSpan_any (f t : Int) (v : Value) (xs : List Int) (w : World) (h : Ints w v xs) (hn : xs.length ≤ 1048576) :
    Calls Tryd.prog 28 #[.agg #[.int .i64 f, .int .i64 t, v]] w fun e w' => e = .returned (.bool (spanB (f, t, xs))) ∧ Below w.heap.size w w' := by
  obtain ⟨va, vcap, rfl⟩ := ints_len h
  have hb : Below w.heap.size w (w.alloc (.cells #[.int .i64 f, .int .i64 t, .slice va xs.length vcap] 34)) := (Below.refl _ w).alloc (Nat.le_refl _) _
  have HR := Lib.hid (fun w => fieldRange_is f t w)
  have HS := Lib.hid (fun w h => implIsSet (.slice va xs.length vcap) xs w h hn)
  have HV := Lib.hid (ints_below h hb)
  obtain ⟨r, hr⟩ : ∃ r, (decide (0 ≤ f ∧ f ≤ t) && decide (t ≤ 99)) = r := ⟨_, rfl⟩
  have HE : Hid (spanB (f, t, xs) = (r && setB xs)) := Lib.hid (by rw [← hr]; rfl)
  rw [hr] at HR
  rw [HE.out]
  clear h hn hr HE
  cases r with
  | false =>
    go_enter Tryd.func28, Tryd.ntmps28
    go_wp2_with fail
    refine (HR.out _).mono ?_
    rintro e w1 ⟨rfl, rfl⟩
    go_wp2
    go_ret
    exact ⟨rfl, hb⟩
  | true =>
    generalize setB xs = s at *
    go_enter Tryd.func28, Tryd.ntmps28
    go_wp2_with fail
    refine (HR.out _).mono ?_
    rintro e w1 ⟨rfl, rfl⟩
    go_wp2_with fail
    generalize w.alloc (.cells #[.int .i64 f, .int .i64 t, .slice va xs.length vcap] 34) = W at *
    refine (HS.out _ HV.out).mono ?_
    rintro e w1 ⟨rfl, b1⟩
    have b2 := hb.trans (b1.mono hb.size)
    go_wp2
    go_ret
    exact ⟨by rw [Bool.true_and]; rfl, b2⟩
def txtR (r : SpanD) : ByteArray := strB (spanT r)
theorem textsR_step (rs : List SpanD) (k : Nat) (h : k < rs.length) : ((rs.take k).map txtR ++ List.replicate (rs.length - k) (⟨#[]⟩ : ByteArray)).set k (txtR (rs.getD k p0D)) = (rs.take (k + 1)).map txtR ++ List.replicate (rs.length - (k + 1)) (⟨#[]⟩ : ByteArray) := by
  have hk : ((rs.take k).map txtR).length = k := by rw [List.length_map, List.length_take]; omega
  rw [List.set_append_right _ _ (by omega), hk, Nat.sub_self, show rs.length - k = (rs.length - (k + 1)) + 1 by omega, List.replicate_succ, List.set_cons_zero, List.take_succ_eq_append_getElem h, List.map_append, List.append_assoc]
  simp [List.getD, h]
theorem join_snoc (sep x : List UInt8) : ∀ l : List (List UInt8), Lib.join (l ++ [x]) sep = (if l.length = 0 then [] else Lib.join l sep ++ sep) ++ x
  | [] => by simp [Lib.join_one]
  | a :: r => by
    rw [List.cons_append, Lib.join_cons, Lib.join_cons]
    simp [Lib.joinTail]
theorem join_spans (rs : List SpanD) : ∀ k, k ≤ rs.length → Lib.join ((rs.take k).map spanT) [59, 32] = glueTo rs k
  | 0, _ => by simp [glueTo, Lib.join_nil]
  | k + 1, hk => by
    have ih := join_spans rs k (by omega)
    have e : rs.getD k p0D = rs[k] := by simp [List.getD, show k < rs.length by omega]
    rw [List.take_succ_eq_append_getElem (by omega), List.map_append, List.map_cons, List.map_nil, join_snoc, ih]
    show _ = (if k = 0 then glueTo rs k else glueTo rs k ++ [59, 32]) ++ spanT (rs.getD k p0D)
    rw [e, List.length_map, List.length_take, Nat.min_eq_left (by omega)]
    by_cases c : k = 0
    · subst c; simp [glueTo]
    · rw [if_neg c, if_neg c]
theorem join_txtR (rs : List SpanD) : Lib.join ((rs.map txtR).map (·.data.toList)) (⟨#[59, 32]⟩ : ByteArray).data.toList = glueTo rs rs.length := by
  have h := join_spans rs rs.length (Nat.le_refl _)
  rw [List.take_length] at h
  rw [← h, List.map_map]
  rfl
set_option maxHeartbeats 16000000 in
set_option maxRecDepth 100000 in
theorem implFormatSpans (va : Value) (rs : List SpanD) (w : World) (h : SpansR w va rs) (hs : zpL rs ≤ 1048576) (hTZ : TabZ w) (hT : Tab w) :
    Calls Tryd.prog 10 #[va] w fun e w' => e = .returned (.string (strB (fmtSp rs))) ∧ Below w.heap.size w w' := by
  obtain ⟨i0, hi, hz0, hz1, hz2⟩ := info_parts Tryd.infoStr
  have HI := Lib.hid hi; have HZ0 := Lib.hid hz0; have HZ1 := Lib.hid hz1; have HZ2 := Lib.hid hz2
  clear hi hz0 hz1 hz2
  have H := Lib.hid h
  have HS := Lib.hid hs
  have HT := Lib.hid hT
  have HTZ := Lib.hid hTZ
  have hlen := zpL_len hs
  obtain ⟨a, cap, rfl⟩ := spansR_len h
  clear h hs hT hTZ
  by_cases h0 : rs.length = 0
  · have HF := Lib.hid (fmtSp_none h0)
    have hq : ((rs.length : Int) == 0) = true := by rw [h0]; rfl
    go_enter Tryd.func10, Tryd.ntmps10
    go_wp2
    go_ret
    exact ⟨ret_s HF.out.symm, Below.refl _ _⟩
  · have hq : ((rs.length : Int) == 0) = false := by rw [beq_eq_false_iff_ne]; omega
    have HP : Hid (0 < rs.length) := Lib.hid (by omega)
    clear h0
    go_enter Tryd.func10, Tryd.ntmps10
    go_wp2_with (at_make; refine wpList_make_full _ rfl (.tmp 10) (.tmp 10) 50 rfl w.heap.size 9 i0 (.string ⟨#[]⟩) 1 Tryd.underlying50 HI.out HZ0.out HZ1.out _ _ _ _ rs.length rfl rfl rfl rfl (by rw [HZ2.out]; omega) (by unfold maxLen; omega) (Nat.le_refl _) ?_)
    intro w1 hown0 hg0
    have hown1 := ownsS_made (by simpa using hown0)
    have hbel1 := (Below.refl w.heap.size w).grown hg0 (Nat.le_refl _) (fun k hk => by cases hk)
    clear hown0 hg0 hq
    go_wp2
    go_loopw [14] (fun i wr => ∃ k : Nat, k ≤ rs.length ∧ i = .int .i64 k ∧ Hid (∀ j, j < k → spanB (rs.getD j p0D) = true) ∧ OwnsS wr w.heap.size (.slice (some ⟨w.heap.size, 0, none⟩) rs.length rs.length) ((rs.take k).map txtR ++ List.replicate (rs.length - k) (⟨#[]⟩ : ByteArray)) ∧ Below w.heap.size w wr) (fun i _ => rs.length - (intOf i).toNat)
    case atStart => exact ⟨0, Nat.zero_le _, rfl, Lib.hid (fun j hj => by omega), by simpa using hown1, hbel1⟩
    case round =>
      obtain ⟨k, hk, rfl, hall, hown, hbel⟩ := hrel
      clear hown1 hbel1
      by_cases hlt : k < rs.length
      · obtain ⟨b, off, cap', vv, hv, hbl, hc1, hc2, hc3, hI⟩ := spansR_at (spansR_below H.out hbel) hlt
        simp only [Value.slice.injEq] at hv
        obtain ⟨rfl, _, rfl⟩ := hv
        obtain ⟨ua, uc, rfl⟩ := ints_len hI
        have HXL := Lib.hid (zpL_span HS.out hlt)
        have i1 : (0 : Int) ≤ (k : Int) := by omega
        have i2 : (k : Int) < (rs.length : Int) := by omega
        have HBAD := Lib.hid (fmtSp_bad (rs := rs) hlt)
        have HALL : Hid (spanB (rs.getD k p0D) = true → ∀ j, j < k + 1 → spanB (rs.getD j p0D) = true) := Lib.hid (fun he j hj => by
          by_cases e : j = k
          · exact e ▸ he
          · exact hall.out j (by omega))
        have HSET := Lib.hid (textsR_step rs k hlt)
        have HLL : Hid (((rs.take k).map txtR ++ List.replicate (rs.length - k) (⟨#[]⟩ : ByteArray)).length = rs.length) := Lib.hid (by simp; omega)
        have HNE : Hid (w.heap.size ≠ wr.heap.size) := Lib.hid (by have := (ownsS_ge hown).2; omega)
        clear hall
        generalize (rs.take k).map txtR ++ List.replicate (rs.length - k) (⟨#[]⟩ : ByteArray) = us at *
        generalize rs.getD k p0D = r at *
        obtain ⟨sf, st, xs⟩ := r
        simp only at hc1 hc2 hc3 hI HXL
        have HSP := Lib.hid (fun w h => isSpan_any sf st (.slice ua xs.length uc) xs w h HXL.out)
        have HFS := Lib.hid (fun w h hT => implFormatSet (.slice ua xs.length uc) xs w h hT HXL.out)
        have hW : Below wr.heap.size wr (wr.alloc (.cells #[.int .i64 sf, .int .i64 st, .slice ua xs.length uc] 34)) := (Below.refl _ wr).alloc (Nat.le_refl _) _
        have g0 := heap_alloc_new wr (.cells #[.int .i64 sf, .int .i64 st, .slice ua xs.length uc] 34)
        have hlW : wr.heap.size < (wr.alloc (.cells #[.int .i64 sf, .int .i64 st, .slice ua xs.length uc] 34)).heap.size := by simp
        have HIA := Lib.hid (ints_below hI hW)
        have HOA := Lib.hid (ownsS_below hown hW)
        have HBA := Lib.hid (hbel.trans (hW.mono hbel.size))
        clear hI hown hbel hW
        go_wp2_with fail
        generalize wr.alloc (.cells #[.int .i64 sf, .int .i64 st, .slice ua xs.length uc] 34) = W0 at *
        refine (HSP.out _ HIA.out).mono ?_
        rintro e W ⟨rfl, bw⟩
        have g1 := (bw.block _ hlW).trans g0
        have hl2 : wr.heap.size < W.heap.size := Nat.lt_of_lt_of_le hlW bw.size
        have HIW := Lib.hid (ints_below HIA.out bw)
        have hoW := ownsS_below HOA.out bw
        have bW := HBA.out.trans (bw.mono HBA.out.size)
        have q0 := (cell_of_row W _ 0 _ _ _ g1).trans (show _ = some (Value.int .i64 sf) from rfl)
        have q1 := (cell_of_row W _ 1 _ _ _ g1).trans (show _ = some (Value.int .i64 st) from rfl)
        have q2 := (cell_of_row W _ 2 _ _ _ g1).trans (show _ = some (Value.slice ua xs.length uc) from rfl)
        clear g0 g1 hlW bw HIA HOA HBA hc1 hc2 hc3
        cases hb : spanB (sf, st, xs) with
        | false =>
          have HF := Lib.hid (HBAD.out hb)
          clear hb HBAD HALL HSET
          go_wp2
          go_ret
          exact ⟨ret_s HF.out.symm, bW⟩
        | true =>
          have HA := Lib.hid (HALL.out hb)
          obtain ⟨n0, n1, n2, n3⟩ := span_parts hb
          simp only at n0 n1 n2 n3
          have HFR := Lib.hid (fun w h => formatRange_any sf st w n0 (by omega) (by omega) (by omega) h)
          have l1 := Lib.itoa_length_le sf (by omega) (by omega)
          have l2 := Lib.itoa_length_le st (by omega) (by omega)
          have l3 := fmtSet_len n3 (setS_range n3)
          have hxl := HXL.out
          have hT : txtR (sf, st, xs) = strB ((Lib.itoa sf ++ [46, 46] ++ Lib.itoa st) ++ [32] ++ fmtSet xs) := by unfold txtR spanT; simp only [List.append_assoc]
          rw [hT] at HSET
          generalize fmtSet xs = tx at *
          have hrl : (Lib.itoa sf ++ [46, 46] ++ Lib.itoa st).length ≤ 50 := by simp only [List.length_append, List.length_cons, List.length_nil]; omega
          generalize Lib.itoa sf ++ [46, 46] ++ Lib.itoa st = ta at *
          have d1 : ∀ w, (Op.stringOp .add (strB ta) ⟨#[32]⟩).run Tryd.prog w = .ok (.string (strB (ta ++ [32]))) w := strB_add ta [32] (by simp only [List.length_append, List.length_cons, List.length_nil]; omega)
          have d2 : ∀ w, (Op.stringOp .add (strB (ta ++ [32])) (strB tx)).run Tryd.prog w = .ok (.string (strB (ta ++ [32] ++ tx))) w := strB_add (ta ++ [32]) tx (by simp only [List.length_append, List.length_cons, List.length_nil]; omega)
          generalize ta ++ [32] ++ tx = ty at *
          generalize ta ++ [32] = tz at *
          clear hb HBAD HALL hT l1 l2 l3 hrl n0 n1 n2 n3 hxl
          go_wp2
          refine wp_region_held_drew (S := fun w' => w'.cell? ⟨wr.heap.size, 0, none⟩ = some (.int .i64 sf) ∧ w'.cell? ⟨wr.heap.size, 1, none⟩ = some (.int .i64 st) ∧ w'.cell? ⟨wr.heap.size, 2, none⟩ = some (.slice ua xs.length uc)) (by kernel_rfl) ⟨q0, q1, q2⟩ (fun hHeld => ?_)
          have e0 := below_drew (Below.refl W.heap.size W)
          refine take_runs (i := 0) (v := ?_) (by simp only [List.getElem?_toArray, List.getElem?_cons_succ, List.getElem?_cons_zero]; rfl) (by kernel_rfl) (by kernel_rfl) (by kernel_rfl) rfl (by exact fun _ _ _ h => h) (by rfl) ?_ (by assumption) ?_
          rotate_left
          · intro w hSw; (try dsimp only at hSw); go_simp; try (with_reducible rfl)
          try simp only [Act.put, List.setIfInBounds_toArray, List.set_cons_zero, List.set_cons_succ]
          refine take_runs (i := 1) (v := ?_) (by simp only [List.getElem?_toArray, List.getElem?_cons_succ, List.getElem?_cons_zero]; rfl) (by kernel_rfl) (by kernel_rfl) (by kernel_rfl) rfl (by exact fun _ _ _ h => h) (by rfl) ?_ (by assumption) ?_
          rotate_left
          · intro w hSw; (try dsimp only at hSw); go_simp; try (with_reducible rfl)
          try simp only [Act.put, List.setIfInBounds_toArray, List.set_cons_zero, List.set_cons_succ]
          refine take_runs (i := 2) (v := ?_) (by simp only [List.getElem?_toArray, List.getElem?_cons_succ, List.getElem?_cons_zero]; rfl) (by kernel_rfl) (by kernel_rfl) (by kernel_rfl) rfl (by exact fun _ _ _ h => h) (by rfl) ?_ (by assumption) ?_
          rotate_left
          · intro w hSw; (try dsimp only at hSw); go_simp; try (with_reducible rfl)
          try simp only [Act.put, List.setIfInBounds_toArray, List.set_cons_zero, List.set_cons_succ]
          refine take_runs (i := 3) (v := ?_) (by simp only [List.getElem?_toArray, List.getElem?_cons_succ, List.getElem?_cons_zero]; rfl) (by kernel_rfl) (by kernel_rfl) (by kernel_rfl) rfl (by exact fun _ _ _ h => h) (by rfl) ?_ (by assumption) ?_
          rotate_left
          · intro w hSw; (try dsimp only at hSw); go_simp; try (with_reducible rfl)
          try simp only [Act.put, List.setIfInBounds_toArray, List.set_cons_zero, List.set_cons_succ]
          refine take_runs (i := 4) (v := ?_) (by simp only [List.getElem?_toArray, List.getElem?_cons_succ, List.getElem?_cons_zero]; rfl) (by kernel_rfl) (by kernel_rfl) (by kernel_rfl) rfl (by exact fun _ _ _ h => h) (by rfl) ?_ (by assumption) ?_
          rotate_left
          · intro w hSw; (try dsimp only at hSw); go_simp; try (with_reducible rfl)
          try simp only [Act.put, List.setIfInBounds_toArray, List.set_cons_zero, List.set_cons_succ]
          refine take_runs (i := 5) (v := ?_) (by simp only [List.getElem?_toArray, List.getElem?_cons_succ, List.getElem?_cons_zero]; rfl) (by kernel_rfl) (by kernel_rfl) (by kernel_rfl) rfl (by exact fun _ _ _ h => h) (by rfl) ?_ (by assumption) ?_
          rotate_left
          · intro w hSw; (try dsimp only at hSw); go_simp; try (with_reducible rfl)
          try simp only [Act.put, List.setIfInBounds_toArray, List.set_cons_zero, List.set_cons_succ]
          refine take_runs (i := 8) (v := ?_) (by simp only [List.getElem?_toArray, List.getElem?_cons_succ, List.getElem?_cons_zero]; rfl) (by kernel_rfl) (by kernel_rfl) (by kernel_rfl) rfl (by exact fun _ _ _ h => h) (by rfl) ?_ (by assumption) ?_
          rotate_left
          · intro w hSw; (try dsimp only at hSw); go_simp; try (with_reducible rfl)
          try simp only [Act.put, List.setIfInBounds_toArray, List.set_cons_zero, List.set_cons_succ]
          refine take_runs (i := 9) (v := ?_) (by simp only [List.getElem?_toArray, List.getElem?_cons_succ, List.getElem?_cons_zero]; rfl) (by kernel_rfl) (by kernel_rfl) (by kernel_rfl) rfl (by exact fun _ _ _ h => h) (by rfl) ?_ (by assumption) ?_
          rotate_left
          · intro w hSw; (try dsimp only at hSw); go_simp; try (with_reducible rfl)
          try simp only [Act.put, List.setIfInBounds_toArray, List.set_cons_zero, List.set_cons_succ]
          refine wpAnyH_ready (rs := [6]) (by kernel_rfl) (by simp) ?_
          refine (AllReadyH.cons (o := _) (by simp only [List.getElem?_toArray, List.getElem?_cons_succ, List.getElem?_cons_zero]; rfl) (fun K hK => ?_) AllReadyH.nil)
          go_simp
          refine (HFR.out _ (HT.out.on (bW.trans (e0.mono bW.size)))).mono ?_
          rintro e x1 ⟨rfl, k1⟩
          have e1 : Below W.heap.size W x1 := e0.trans (k1.mono e0.size)
          refine hK.out _ _ ⟨(e1.cell (p := ⟨wr.heap.size, 0, none⟩) hl2).trans q0, (e1.cell (p := ⟨wr.heap.size, 1, none⟩) hl2).trans q1, (e1.cell (p := ⟨wr.heap.size, 2, none⟩) hl2).trans q2⟩ (fun hHeld => ?_)
          clear hK K
          try simp only [Act.put, List.setIfInBounds_toArray, List.set_cons_zero, List.set_cons_succ]
          refine take_runs (i := 7) (v := ?_) (by simp only [List.getElem?_toArray, List.getElem?_cons_succ, List.getElem?_cons_zero]; rfl) (by kernel_rfl) (by kernel_rfl) (by kernel_rfl) rfl (by exact fun _ _ _ h => h) (by rfl) ?_ (by assumption) ?_
          rotate_left
          · intro w hSw; (try dsimp only at hSw); go_simp; try (with_reducible rfl)
          try simp only [Act.put, List.setIfInBounds_toArray, List.set_cons_zero, List.set_cons_succ]
          refine wpAnyH_ready (rs := [10]) (by kernel_rfl) (by simp) ?_
          refine (AllReadyH.cons (o := _) (by simp only [List.getElem?_toArray, List.getElem?_cons_succ, List.getElem?_cons_zero]; rfl) (fun K hK => ?_) AllReadyH.nil)
          go_simp
          refine (HFS.out _ (ints_below HIW.out e1) (HTZ.out.on (bW.trans (e1.mono bW.size)))).mono ?_
          rintro e x2 ⟨rfl, k2⟩
          have e2 : Below W.heap.size W x2 := e1.trans (k2.mono e1.size)
          refine hK.out _ _ ⟨(e2.cell (p := ⟨wr.heap.size, 0, none⟩) hl2).trans q0, (e2.cell (p := ⟨wr.heap.size, 1, none⟩) hl2).trans q1, (e2.cell (p := ⟨wr.heap.size, 2, none⟩) hl2).trans q2⟩ (fun hHeld => ?_)
          clear hK K
          try simp only [Act.put, List.setIfInBounds_toArray, List.set_cons_zero, List.set_cons_succ]
          refine take_runs (i := 11) (v := ?_) (by simp only [List.getElem?_toArray, List.getElem?_cons_succ, List.getElem?_cons_zero]; rfl) (by kernel_rfl) (by kernel_rfl) (by kernel_rfl) rfl (by exact fun _ _ _ h => h) (by rfl) ?_ (by assumption) ?_
          rotate_left
          · intro w hSw; (try dsimp only at hSw); go_simp; try (with_reducible rfl)
          try simp only [Act.put, List.setIfInBounds_toArray, List.set_cons_zero, List.set_cons_succ]
          refine take_runs (i := 12) (v := ?_) (by simp only [List.getElem?_toArray, List.getElem?_cons_succ, List.getElem?_cons_zero]; rfl) (by kernel_rfl) (by kernel_rfl) (by kernel_rfl) rfl (by exact fun _ _ _ h => h) (by rfl) ?_ (by assumption) ?_
          rotate_left
          · intro w hSw; (try dsimp only at hSw); go_simp; try (with_reducible rfl)
          try simp only [Act.put, List.setIfInBounds_toArray, List.set_cons_zero, List.set_cons_succ]
          have ho := ownsS_below hoW e2
          obtain ⟨s0, s1⟩ : (∃ x, x2.cell? ⟨w.heap.size, k, none⟩ = some x) ∧ x2.frozen? ⟨w.heap.size, k, none⟩ = false := ⟨⟨_, ownsS_cell ho (List.getElem?_eq_getElem (by have := HLL.out; omega))⟩, ownsS_frozen ho k⟩
          obtain ⟨x0, s0⟩ := s0
          have hst := Lib.hid (ownsS_store ho k (strB ty))
          rw [HSET.out] at hst
          have b3 := bW.trans (e2.mono bW.size)
          have B3 := b3.setCell (p := ⟨w.heap.size, k, none⟩) (Nat.le_refl _) (.string (strB ty))
          have z : ∀ j, (x2.setCell ⟨w.heap.size, k, none⟩ (.string (strB ty))).cell? ⟨wr.heap.size, j, none⟩ = x2.cell? ⟨wr.heap.size, j, none⟩ := fun j => World.cell?_of_block ((grow_set x2 w.heap.size k (.string (strB ty))).block _ (Nat.lt_of_lt_of_le hl2 e2.size) (fun q => HNE.out (Option.some.inj q).symm))
          refine wpAnyH_ready (rs := [13]) (by kernel_rfl) (by simp) ?_
          refine (AllReadyH.cons (o := _) (by simp only [List.getElem?_toArray, List.getElem?_cons_succ, List.getElem?_cons_zero]; rfl) (fun K hK => ?_) AllReadyH.nil)
          go_simp
          refine hK.out _ _ ⟨(z 0).trans ((e2.cell (p := ⟨wr.heap.size, 0, none⟩) hl2).trans q0), (z 1).trans ((e2.cell (p := ⟨wr.heap.size, 1, none⟩) hl2).trans q1), (z 2).trans ((e2.cell (p := ⟨wr.heap.size, 2, none⟩) hl2).trans q2)⟩ (fun hHeld => ?_)
          clear hK K
          try simp only [Act.put, List.setIfInBounds_toArray, List.set_cons_zero, List.set_cons_succ]
          refine wpAnyH_done (by kernel_rfl) ?_ _
          clear hHeld z s0 s1 ho
          go_wp2
          go_roundw
          case rel => exact ⟨k + 1, by omega, by go_num, HA, hst.out, B3⟩
          case measure => simp [intOf]; omega
      · obtain rfl : k = rs.length := by omega
        have HF := Lib.hid (fmtSp_all HP.out hall.out)
        have HGL := Lib.hid (glueTo_max HS.out (Nat.le_refl _) hall.out)
        have HE : Hid ((rs.take rs.length).map txtR ++ List.replicate (rs.length - rs.length) (⟨#[]⟩ : ByteArray) = rs.map txtR) := Lib.hid (by simp)
        rw [HE.out] at hown
        have hB := hbel.size
        have hl3 : (rs.map txtR).length = rs.length := List.length_map txtR
        have HJ := Lib.hid (Tryd.strings_Join w.heap.size 0 rs.length (rs.map txtR) ⟨#[59, 32]⟩ wr (fun j x hx => by
          have := ownsS_cell hown hx
          rw [Nat.zero_add]; exact this) (ownsS_ge hown).2 (by omega) (by omega) (by rw [join_txtR]; have := HGL.out; omega))
        rw [join_txtR, hl3] at HJ
        clear hown HE hl3 hall
        go_wp2_with fail
        refine HJ.out.mono ?_
        rintro e w5 ⟨rfl, b5⟩
        have b6 := hbel.trans (b5.mono hB)
        clear b5 hbel
        go_wp2
        go_ret
        exact ⟨ret_s HF.out.symm, b6⟩
end Go.Proofs.YtmkcfkblfjhnhaaDoor
namespace Go.Proofs.YtmkcfkblfjhnhaaDoor
open Go.RowKit
set_option linter.unusedVariables false
/-- The slice v reads as the bytes xs. -/
def Code (w : World) (v : Value) (xs : List Int) : Prop :=
  (xs = [] ∧ ∃ a cap, v = .slice a 0 cap) ∨ ∃ b off cap, v = .slice (some ⟨b, off, none⟩) xs.length cap ∧ xs.length ≤ cap ∧ b < w.heap.size ∧ ∀ j, j < xs.length → w.cell? ⟨b, off + j, none⟩ = some (.int .u8 (xs.getD j 0))
/-- The cursor in block c over the bytes. -/
structure Cur (w0 : World) (c : Nat) (v : Value) (xs : List Int) (w : World) : Prop where
  code : Code w0 v xs
  small : xs.length ≤ 1048576
  bytes : ∀ x ∈ xs, 0 ≤ x ∧ x ≤ 255
  new : w0.heap.size ≤ c
  cells : ∃ i : Nat, ∃ h : Int, i ≤ xs.length ∧ w.heap[c]? = some (.cells #[v, .int .i64 i, .int .i64 h] 94 (0, 0))
  old : Below w0.heap.size w0 w
theorem and255 (z : Int) : 0 ≤ bits .and .i64 z 255 ∧ bits .and .i64 z 255 ≤ 255 := by
  have h : (BitVec.ofInt 64 z &&& BitVec.ofInt 64 255).toNat ≤ 255 := by
    rw [BitVec.toNat_and]
    exact Nat.le_trans Nat.and_le_right (by decide)
  have e : bits .and .i64 z 255 = IntKind.i64.wrap (((BitVec.ofInt 64 z &&& BitVec.ofInt 64 255).toNat : Nat) : Int) := rfl
  rw [e, IntKind.wrap_i64]
  omega
/-- What one byte leaves. -/
def Drawn (w0 : World) (c : Nat) (v : Value) (xs : List Int) (w : World) (top : Int) (e : Ending) (w' : World) : Prop :=
  ∃ x : Int, 0 ≤ x ∧ x ≤ top ∧ e = .returned (.int .i64 x) ∧ Cur w0 c v xs w' ∧ w.grownBy w' (some c)
theorem grown_set2 {w : World} {c : Nat} {v : Value} {i h : Int} {T : TypeId} (hc : w.heap[c]? = some (.cells #[v, .int .i64 i, .int .i64 h] T (0, 0))) (h' : Int) :
    (w.setCell ⟨c, 2, none⟩ (.int .i64 h')).heap[c]? = some (.cells #[v, .int .i64 i, .int .i64 h'] T (0, 0)) := by
  rw [heap_setCell_same w c 2 _ T _ hc]; rfl
theorem grown_set1 {w : World} {c : Nat} {v : Value} {i h : Int} {T : TypeId} (hc : w.heap[c]? = some (.cells #[v, .int .i64 i, .int .i64 h] T (0, 0))) (i' : Int) :
    (w.setCell ⟨c, 1, none⟩ (.int .i64 i')).heap[c]? = some (.cells #[v, .int .i64 i', .int .i64 h] T (0, 0)) := by
  rw [heap_setCell_same w c 1 _ T _ hc]; rfl
theorem grownBy_setCell (w : World) (c j : Nat) (u : Value) : w.grownBy (w.setCell ⟨c, j, none⟩ u) (some c) :=
  ⟨rfl, rfl, rfl, by simp [World.setCell], fun k _ hk => heap_setCell_other w ⟨c, j, none⟩ k u (fun e => hk (by simp [e]))⟩
theorem below_like {B : Nat} {a w w' : World} (h : Below B a w) (h1 : w'.heap = w.heap) (h2 : w'.os = w.os) (h3 : w'.tape = w.tape) (h4 : w'.output = w.output) : Below B a w' :=
  ⟨h2.trans h.os, h3.trans h.tape, h4.trans h.output, by rw [h1]; exact h.size, fun k hk => by rw [h1]; exact h.block k hk⟩
theorem grown_like {a w w' : World} {r : Option Nat} (h : a.grownBy w r) (h1 : w'.heap = w.heap) (h2 : w'.os = w.os) (h3 : w'.tape = w.tape) (h4 : w'.output = w.output) : a.grownBy w' r :=
  ⟨h2.trans h.os, h3.trans h.tape, h4.trans h.output, by rw [h1]; exact h.size, fun k hk hn => by rw [h1]; exact h.block k hk hn⟩
theorem grown_chain {a b c : World} {r : Option Nat} (h : a.grownBy b r) (k : b.grownBy c r) : a.grownBy c r :=
  ⟨k.os.trans h.os, k.tape.trans h.tape, k.output.trans h.output, Nat.le_trans h.size k.size, fun i hi hne => (k.block i (Nat.lt_of_lt_of_le hi h.size) hne).trans (h.block i hi hne)⟩
set_option maxRecDepth 100000 in
theorem byte_any (w0 : World) (c : Nat) (v : Value) (xs : List Int) (w : World) (hC : Cur w0 c v xs w) :
    Calls Tryd.prog 61 #[.pointer (some ⟨c, 0, none⟩)] w (Drawn w0 c v xs w 255) := by
  obtain ⟨hcode, hsm, hby, hnew, ⟨i, h, hi, hc⟩, hold⟩ := hC
  have c0 := cell_of_row w c 0 _ _ _ hc
  have c1 := cell_of_row w c 1 _ _ _ hc
  have c2 := cell_of_row w c 2 _ _ _ hc
  have f1 := frozen_of_row w c 1 _ _ hc
  have f2 := frozen_of_row w c 2 _ _ hc
  simp at c0 c1 c2
  have HC := Lib.hid hc; clear hc
  by_cases hlt : i < xs.length
  · rcases hcode with ⟨rfl, _⟩ | ⟨b, off, cap, rfl, hcap, hbl, hb⟩
    · simp at hlt
    have hbi := hb i hlt
    have i1 : (0 : Int) ≤ (i : Int) := by omega
    have i2 : (i : Int) < (xs.length : Int) := by omega
    have HB := Lib.hid hb; clear hb
    have hcl := (Array.getElem?_eq_some_iff.1 HC.out).1
    have hcb : w.cell? ⟨b, off + i, none⟩ = some (.int .u8 (xs.getD i 0)) := (hold.cell hbl).trans hbi
    clear hbi
    generalize xs.getD i 0 = y at hcb
    go_enter Tryd.func61, Tryd.ntmps61
    go_wp2
    generalize wrap64 (wrap64 (h * 6364136223846793005) + 1442695040888963407) = g
    have hc2 := grown_set2 HC.out g
    have hg2 := grownBy_setCell w c 2 (.int .i64 g)
    have ho2 := hold.setCell (p := ⟨c, 2, none⟩) hnew (.int .i64 g)
    have hcb2 : (w.setCell ⟨c, 2, none⟩ (.int .i64 g)).cell? ⟨b, off + i, none⟩ = some (.int .u8 y) := by
      rw [World.cell?_of_block (w := w) (hg2.block b (by have := hold.size; omega) (by intro e; simp at e; omega))]; exact hcb
    generalize w.setCell ⟨c, 2, none⟩ (.int .i64 g) = w2 at *
    clear c0 c1 c2 f1 f2 hcb
    have c0 := cell_of_row w2 c 0 _ _ _ hc2
    have c1 := cell_of_row w2 c 1 _ _ _ hc2
    have c2 := cell_of_row w2 c 2 _ _ _ hc2
    have f1 := frozen_of_row w2 c 1 _ _ hc2
    simp at c0 c1 c2
    have HC2 := Lib.hid hc2; clear hc2
    go_quiet (fail)
    go_wp2
    go_quiet (fail)
    go_wp2
    go_quiet (fail)
    go_wp2
    go_ret
    refine ⟨_, (and255 _).1, (and255 _).2, rfl, ⟨Or.inr ⟨b, off, cap, rfl, hcap, hbl, HB.out⟩, hsm, hby, hnew, ⟨i + 1, g, by omega, ?_⟩, ?_⟩, grown_chain hg2 ?_⟩
    · exact grown_set1 HC2.out _
    · exact below_like (Below.setCell (w := w2) ho2 (p := ⟨c, 1, none⟩) hnew (.int .i64 ((i : Int) + 1))) rfl rfl rfl rfl
    · exact grown_like (grownBy_setCell w2 c 1 (.int .i64 ((i : Int) + 1))) rfl rfl rfl rfl
  · go_enter Tryd.func61, Tryd.ntmps61
    go_wp2
    generalize wrap64 (wrap64 (h * 6364136223846793005) + 1442695040888963407) = g
    have hc2 := grown_set2 HC.out g
    have hg2 := grownBy_setCell w c 2 (.int .i64 g)
    have ho2 := hold.setCell (p := ⟨c, 2, none⟩) hnew (.int .i64 g)
    generalize w.setCell ⟨c, 2, none⟩ (.int .i64 g) = w2 at *
    clear c0 c1 c2 f1 f2
    have c0 := cell_of_row w2 c 0 _ _ _ hc2
    have c1 := cell_of_row w2 c 1 _ _ _ hc2
    have c2 := cell_of_row w2 c 2 _ _ _ hc2
    have hlen : ∃ a cap, v = .slice a xs.length cap := by
      rcases hcode with ⟨rfl, a, cap, rfl⟩ | ⟨b, off, cap, rfl, _⟩
      · exact ⟨a, cap, rfl⟩
      · exact ⟨_, cap, rfl⟩
    obtain ⟨a, cap, rfl⟩ := hlen
    simp at c0 c1 c2
    have HC2 := Lib.hid hc2; clear hc2
    go_quiet (fail)
    go_wp2
    go_quiet (fail)
    go_wp2
    go_ret
    exact ⟨_, (and255 _).1, (and255 _).2, rfl, ⟨hcode, hsm, hby, hnew, ⟨i, g, hi, HC2.out⟩, below_like ho2 rfl rfl rfl rfl⟩, grown_like hg2 rfl rfl rfl rfl⟩
end Go.Proofs.YtmkcfkblfjhnhaaDoor
namespace Go.Proofs.YtmkcfkblfjhnhaaDoor
open Go.RowKit
set_option linter.unusedVariables false
theorem below_small (w0 : World) (c : Nat) (v : Value) (xs : List Int) (w : World) (hC : Cur w0 c v xs w) (n : Int) (h1 : 1 ≤ n) (h2 : n ≤ 256) :
    Calls Tryd.prog 42 #[.pointer (some ⟨c, 0, none⟩), .int .i64 n] w (Drawn w0 c v xs w (n - 1)) := by
  have hn : (n == 0) = false := by rw [beq_eq_false_iff_ne]; omega
  go_enter Tryd.func42, Tryd.ntmps42
  go_wp2_with (go_at_call 61; refine (byte_any _ _ _ _ _ (by assumption)).mono ?_; rintro e w1 ⟨x, x0, x1, rfl, hC1, hg1⟩)
  go_ret
  exact ⟨_, Int.emod_nonneg _ (by omega), by have := Int.emod_lt_of_pos x (show 0 < n by omega); omega, rfl, hC1, hg1⟩
theorem below_large (w0 : World) (c : Nat) (v : Value) (xs : List Int) (w : World) (hC : Cur w0 c v xs w) (n : Int) (h1 : 256 < n) (h2 : n ≤ 1000000000) :
    Calls Tryd.prog 42 #[.pointer (some ⟨c, 0, none⟩), .int .i64 n] w (Drawn w0 c v xs w (n - 1)) := by
  have hn : (n == 0) = false := by rw [beq_eq_false_iff_ne]; omega
  go_enter Tryd.func42, Tryd.ntmps42
  go_wp2_with fail
  refine (byte_any _ _ _ _ _ hC).mono ?_
  rintro e w1 ⟨x, x0, x1, rfl, hC1, hg1⟩
  go_wp2_with fail
  refine (byte_any _ _ _ _ _ hC1).mono ?_
  rintro e w2 ⟨y, y0, y1, rfl, hC2, hg2⟩
  go_wp2_with fail
  refine (byte_any _ _ _ _ _ hC2).mono ?_
  rintro e w3 ⟨z, z0, z1, rfl, hC3, hg3⟩
  go_wp2_with fail
  refine (byte_any _ _ _ _ _ hC3).mono ?_
  rintro e w4 ⟨t, t0, t1, rfl, hC4, hg4⟩
  go_wp2
  go_ret
  exact ⟨_, Int.emod_nonneg _ (by omega), by have := Int.emod_lt_of_pos (x * 16777216 + y * 65536 + z * 256 + t) (show 0 < n by omega); omega, rfl, hC4, grown_chain hg1 (grown_chain hg2 (grown_chain hg3 hg4))⟩
theorem below_any (w0 : World) (c : Nat) (v : Value) (xs : List Int) (w : World) (hC : Cur w0 c v xs w) (n : Int) (h1 : 1 ≤ n) (h2 : n ≤ 1000000000) :
    Calls Tryd.prog 42 #[.pointer (some ⟨c, 0, none⟩), .int .i64 n] w (Drawn w0 c v xs w (n - 1)) := by
  by_cases h : n ≤ 256
  · exact below_small w0 c v xs w hC n h1 h
  · exact below_large w0 c v xs w hC n (by omega) h2
/-- A number between lo and hi is drawn. -/
def DrawnIn (w0 : World) (c : Nat) (v : Value) (xs : List Int) (w : World) (lo hi : Int) (e : Ending) (w' : World) : Prop :=
  ∃ x : Int, lo ≤ x ∧ x ≤ hi ∧ e = .returned (.int .i64 x) ∧ Cur w0 c v xs w' ∧ w.grownBy w' (some c)
theorem pick_any (w0 : World) (c : Nat) (v : Value) (xs : List Int) (w : World) (hC : Cur w0 c v xs w) (g : Nat) (L : List Int) (lo hi : Int) (hL : ∀ x ∈ L, lo ≤ x ∧ x ≤ hi) (h1 : 1 ≤ L.length) (h2 : L.length ≤ 256)
    (hg : w.heap[g]? = some (.cells (L.map (Value.int .i64)).toArray 3 (0, 0))) (hne : g ≠ c) :
    Calls Tryd.prog 44 #[.pointer (some ⟨c, 0, none⟩), .slice (some ⟨g, 0, none⟩) L.length L.length] w (DrawnIn w0 c v xs w lo hi) := by
  have HL := Lib.hid hL; clear hL
  have HG := Lib.hid hg; clear hg
  go_enter Tryd.func44, Tryd.ntmps44
  go_wp2_with fail
  refine (below_any w0 c v xs _ hC L.length (by omega) (by omega)).mono ?_
  rintro e w1 ⟨x, x0, x1, rfl, hC1, hg1⟩
  obtain ⟨k, rfl⟩ := Int.eq_ofNat_of_zero_le x0
  have hk : k < L.length := by omega
  have hcell : w1.cell? ⟨g, k, none⟩ = some (.int .i64 L[k]) := by
    have hgl := (Array.getElem?_eq_some_iff.1 HG.out).1
    have := cell_of_row w1 g k _ _ _ ((hg1.block g hgl (by intro e; simp at e; exact hne e)).trans HG.out)
    rw [this]; simp [hk]
  have hm := HL.out L[k] (List.getElem_mem hk)
  obtain ⟨m0, m1⟩ := hm
  generalize L[k] = y at hcell m0 m1
  go_wp2
  go_ret
  exact ⟨y, m0, m1, rfl, hC1, hg1⟩
theorem cur_alloc {w0 : World} {c : Nat} {v : Value} {xs : List Int} {w : World} (h : Cur w0 c v xs w) (o : Obj) : Cur w0 c v xs (w.alloc o) := by
  obtain ⟨h1, h2, h3, h4, ⟨i, hh, h5, h6⟩, h7⟩ := h
  refine ⟨h1, h2, h3, h4, ⟨i, hh, h5, ?_⟩, h7.alloc h7.size o⟩
  rw [Below.heap_alloc w o c (Array.getElem?_eq_some_iff.1 h6).1]; exact h6
theorem cur_lt {w0 : World} {c : Nat} {v : Value} {xs : List Int} {w : World} (h : Cur w0 c v xs w) : c < w.heap.size := by
  obtain ⟨_, _, _, _, ⟨i, hh, h5, h6⟩, _⟩ := h
  exact (Array.getElem?_eq_some_iff.1 h6).1
theorem cur_below {w0 : World} {c : Nat} {v : Value} {xs : List Int} {w w' : World} {B : Nat} (h : Cur w0 c v xs w) (hc : c < B) (h0 : w0.heap.size ≤ B) (hb : Below B w w') : Cur w0 c v xs w' := by
  obtain ⟨h1, h2, h3, h4, ⟨i, hh, h5, h6⟩, h7⟩ := h
  exact ⟨h1, h2, h3, h4, ⟨i, hh, h5, (hb.block c hc).trans h6⟩, h7.trans (hb.mono h0)⟩
theorem grown_below {a b b' : World} {c : Nat} (h : a.grownBy b (some c)) (hb : Below a.heap.size b b') : a.grownBy b' (some c) :=
  ⟨hb.os.trans h.os, hb.tape.trans h.tape, hb.output.trans h.output, Nat.le_trans h.size hb.size, fun k hk hn => (hb.block k hk).trans (h.block k hk hn)⟩
end Go.Proofs.YtmkcfkblfjhnhaaDoor
namespace Go.Proofs.YtmkcfkblfjhnhaaDoor
open Go.RowKit
set_option linter.unusedVariables false
theorem code_below {W w : World} {v : Value} {xs : List Int} (h : Code W v xs) (hb : Below W.heap.size W w) : Code w v xs := by
  rcases h with h | ⟨b, off, cap, h1, h2, h3, h4⟩
  · exact Or.inl h
  · exact Or.inr ⟨b, off, cap, h1, h2, Nat.lt_of_lt_of_le h3 hb.size, fun j hj => (hb.cell (p := ⟨b, off + j, none⟩) h3).trans (h4 j hj)⟩
/-- A new cursor. -/
def NewCur (v : Value) (xs : List Int) (w : World) (e : Ending) (w' : World) : Prop :=
  e = .returned (.pointer (some ⟨w.heap.size, 0, none⟩)) ∧ Cur w w.heap.size v xs w'
set_option maxRecDepth 100000 in
theorem new_any (v : Value) (xs : List Int) (w : World) (hcode : Code w v xs) (hsm : xs.length ≤ 1048576) (hby : ∀ x ∈ xs, 0 ≤ x ∧ x ≤ 255) :
    Calls Tryd.prog 40 #[v] w (NewCur v xs w) := by
  have HCODE := Lib.hid hcode
  have HBY := Lib.hid hby; clear hby
  rcases hcode with ⟨rfl, ao, cap, rfl⟩ | ⟨b, off, cap, rfl, hcap, hbl, hb⟩
  · go_enter Tryd.func40, Tryd.ntmps40
    go_wp2
    go_loop [3, 4] (fun h i => ∃ z : Int, i = .int .i64 0 ∧ h = .int .i64 z) (fun _ _ => 0)
    case atStart => exact ⟨_, rfl, rfl⟩
    case round =>
      obtain ⟨z, rfl, rfl⟩ := hrel
      go_wp2
      go_ret
      exact ⟨rfl, HCODE.out, hsm, HBY.out, Nat.le_refl _, ⟨0, _, Nat.le_refl _, heap_alloc_new w _⟩, (Below.refl _ _).alloc (Nat.le_refl _) _⟩
  · have HB := Lib.hid hb; clear hb
    go_enter Tryd.func40, Tryd.ntmps40
    go_wp2
    go_loop [3, 4] (fun h i => ∃ k : Nat, ∃ z : Int, k ≤ xs.length ∧ k ≤ 4000 ∧ i = .int .i64 k ∧ h = .int .i64 z) (fun _ i => 4000 - (intOf i).toNat)
    case atStart => exact ⟨0, _, by omega, by omega, rfl, rfl⟩
    case round =>
      obtain ⟨k, z, hk, hk4, rfl, rfl⟩ := hrel
      by_cases hlt : k < xs.length
      · by_cases h4 : k < 4000
        · have hcell := HB.out k hlt
          have i1 : (0 : Int) ≤ (k : Int) := by omega
          have i2 : (k : Int) < (xs.length : Int) := by omega
          generalize xs.getD k 0 = y at hcell
          go_wp2
          go_round
          case rel => exact ⟨k + 1, _, by omega, by omega, by go_num, rfl⟩
          case measure => simp [intOf]; omega
        · go_wp2
          go_ret
          exact ⟨rfl, HCODE.out, hsm, HBY.out, Nat.le_refl _, ⟨0, _, Nat.zero_le _, heap_alloc_new w _⟩, (Below.refl _ _).alloc (Nat.le_refl _) _⟩
      · have hge : ¬ ((k : Int) < (xs.length : Int)) := by omega
        go_wp2
        go_ret
        exact ⟨rfl, HCODE.out, hsm, HBY.out, Nat.le_refl _, ⟨0, _, Nat.zero_le _, heap_alloc_new w _⟩, (Below.refl _ _).alloc (Nat.le_refl _) _⟩
end Go.Proofs.YtmkcfkblfjhnhaaDoor
namespace Go.Proofs.YtmkcfkblfjhnhaaDoor
open Go.RowKit
set_option linter.unusedVariables false
theorem ownsN_grown {w w' : World} {B c : Nat} {v : Value} {xs : List Int} (h : OwnsN w B v xs) (hg : w.grownBy w' (some c)) (hc : c < B) : OwnsN w' B v xs := by
  refine h.kept hg ?_
  cases hv : v.ownBlock with
  | none => exact Or.inl rfl
  | some k => exact Or.inr (by intro e; have := (h.lt k hv).1; simp at e; omega)
/-- A choice is drawn. -/
def DrawnBool (w0 : World) (c : Nat) (v : Value) (xs : List Int) (w : World) (e : Ending) (w' : World) : Prop :=
  (∃ b : Bool, e = .returned (.bool b)) ∧ Cur w0 c v xs w' ∧ w.grownBy w' (some c)
set_option maxRecDepth 100000 in
theorem once_any (w0 : World) (c : Nat) (v : Value) (xs : List Int) (w : World) (hC : Cur w0 c v xs w) (n : Int) (h1 : 1 ≤ n) (h2 : n ≤ 256) :
    Calls Tryd.prog 43 #[.pointer (some ⟨c, 0, none⟩), .int .i64 n] w (DrawnBool w0 c v xs w) := by
  go_enter Tryd.func43, Tryd.ntmps43
  go_wp2_with fail
  refine (below_any w0 c v xs _ hC n h1 (by omega)).mono ?_
  rintro e w1 ⟨x, x0, x1, rfl, hC1, hg1⟩
  go_wp2
  go_ret
  exact ⟨⟨_, rfl⟩, hC1, hg1⟩
/-- Two lists are drawn. -/
def Two (w : World) (e : Ending) (w' : World) : Prop :=
  ∃ (u t : Value) (a b : List Int), a.length ≤ 7 ∧ b.length ≤ 7 ∧ e = .returned (.tuple #[u, t]) ∧ OwnsN w' w.heap.size u a ∧ OwnsN w' w.heap.size t b ∧ Below w.heap.size w w'
end Go.Proofs.YtmkcfkblfjhnhaaDoor
namespace Go.Proofs.YtmkcfkblfjhnhaaDoor
open Go.RowKit
set_option linter.unusedVariables false
set_option linter.unusedSimpArgs false
/-- The cursor goes on from w to wr; of what was there only the cursor turned. -/
structure Dr (w0 : World) (c : Nat) (v : Value) (xs : List Int) (w wr : World) : Prop where
  cur : Cur w0 c v xs wr
  gr : w.grownBy wr (some c)
  lt : c < w.heap.size
  low : w0.heap.size ≤ w.heap.size
theorem grownBy_refl (w : World) (r : Option Nat) : w.grownBy w r := ⟨rfl, rfl, rfl, Nat.le_refl _, fun _ _ _ => rfl⟩
theorem Dr.start {w0 : World} {c : Nat} {v : Value} {xs : List Int} {w : World} (h : Cur w0 c v xs w) : Dr w0 c v xs w w := ⟨h, grownBy_refl _ _, cur_lt h, h.old.size⟩
theorem Dr.alloc {w0 : World} {c : Nat} {v : Value} {xs : List Int} {w wr : World} (h : Dr w0 c v xs w wr) (o : Obj) : Dr w0 c v xs w (wr.alloc o) := ⟨cur_alloc h.cur o, grown_chain h.gr (World.grownBy_alloc wr o _), h.lt, h.low⟩
theorem Dr.call {w0 : World} {c : Nat} {v : Value} {xs : List Int} {w wr w' : World} (h : Dr w0 c v xs w wr) (hC : Cur w0 c v xs w') (hg : wr.grownBy w' (some c)) : Dr w0 c v xs w w' := ⟨hC, grown_chain h.gr hg, h.lt, h.low⟩
theorem Dr.below {w0 : World} {c : Nat} {v : Value} {xs : List Int} {w wr w' : World} {B : Nat} (h : Dr w0 c v xs w wr) (hb : Below B wr w') (hB : w.heap.size ≤ B) : Dr w0 c v xs w w' :=
  ⟨cur_below h.cur (Nat.lt_of_lt_of_le h.lt hB) (Nat.le_trans h.low hB) hb, grown_below h.gr (hb.mono hB), h.lt, h.low⟩
theorem Dr.set {w0 : World} {c : Nat} {v : Value} {xs : List Int} {w wr : World} (h : Dr w0 c v xs w wr) {R : Nat} (hR : w.heap.size ≤ R) (j : Nat) (u : Value) : Dr w0 c v xs w (wr.setCell ⟨R, j, none⟩ u) :=
  h.below ((Below.refl w.heap.size wr).setCell (p := ⟨R, j, none⟩) hR u) (Nat.le_refl _)
theorem Dr.size {w0 : World} {c : Nat} {v : Value} {xs : List Int} {w wr : World} (h : Dr w0 c v xs w wr) : w.heap.size ≤ wr.heap.size := h.gr.size
theorem Dr.ne {w0 : World} {c : Nat} {v : Value} {xs : List Int} {w wr : World} (h : Dr w0 c v xs w wr) {R : Nat} (hR : w.heap.size ≤ R) : R ≠ c := by have := h.lt; omega
/-- What the cursor's turning leaves alone. -/
theorem keep {w w' : World} {c k : Nat} {o : Obj} (hg : w.grownBy w' (some c)) (hne : k ≠ c) (h : w.heap[k]? = some o) : w'.heap[k]? = some o := (hg.block k (Array.getElem?_eq_some_iff.1 h).1 (fun e => hne (Option.some.inj e))).trans h
theorem keepA {w : World} {k : Nat} {o : Obj} (x : Obj) (h : w.heap[k]? = some o) : (w.alloc x).heap[k]? = some o := (Below.heap_alloc _ _ _ (Array.getElem?_eq_some_iff.1 h).1).trans h
theorem keepB {w w' : World} {B k : Nat} {o : Obj} (hb : Below B w w') (hk : k < B) (h : w.heap[k]? = some o) : w'.heap[k]? = some o := (hb.block k hk).trans h
def wides : List Int := [3, 6, 100]
theorem wides_in : ∀ x ∈ wides, 3 ≤ x ∧ x ≤ 100 := by decide
end Go.Proofs.YtmkcfkblfjhnhaaDoor
namespace Go.Proofs.YtmkcfkblfjhnhaaDoor
open Go.RowKit
set_option linter.unusedVariables false
set_option linter.unusedSimpArgs false
theorem wpl_append_one {w : World} {ops : Array Oper} {rest : List Oper} {o : Oper} {a : Act} {Q : Exit → Act → World → Prop} (hgd : o.guard = none) (s x : Operand)
    (ho : o.op = .call { callee := .builtin .append, args := #[s, x], argTypes := #[32, 32] })
    (B : Nat) (v : Value) (xs : List Int) (b : Nat) (y : Int) (hs : a.eval s = v) (hx : a.eval x = .slice (some ⟨b, 0, none⟩) 1 1) (hown : OwnsN w B v xs) (hu : w.cell? ⟨b, 0, none⟩ = some (.int .i64 y)) (hB : B ≤ w.heap.size) (h63 : xs.length ≤ 1048576)
    (h : ∀ v' w', OwnsN w' B v' (xs ++ [y]) → w.grownBy w' v.ownBlock → wpList Tryd.prog ops Q rest (a.put o.dst v') w') : wpList Tryd.prog ops Q (o :: rest) a w := by
  obtain ⟨i0, hi, hz0, hz1, hz2⟩ := info_parts Tryd.infoI64
  refine wpList_plain hgd fun K hK => ?_
  obtain ⟨v', w', hr, h2, h3, h4⟩ := run_append_own (P := Tryd.prog) w B 32 o.type 3 i0 (.int .i64 0) 1 8 Tryd.underlying32 hi hz0 hz1 hz2 rfl (by decide) v xs.length _ hown ⟨b, 0, none⟩ 1 1 [Value.int .i64 y] (by simp) (by
    intro j q hj
    rw [Go.WideShapes.add_plain]
    have : j = 0 := by
      by_cases e : j = 0
      · exact e
      · rw [List.getElem?_eq_none (by simp; omega)] at hj; simp at hj
    subst this
    simp at hj
    rw [← hj]; exact hu) (by intro q hq; simp at hq; rw [hq]; rfl) (by unfold maxLen; omega) (by omega) hB
  unfold Oper.wp
  simp [execOp, ho, resolve, invoke, builtin, hs, hx, hr, Result.andThen]
  refine hK _ _ (h v' w' ?_ h3)
  unfold OwnsN
  simpa using h2
theorem kept_low {w w' : World} {B c : Nat} {e : TypeId} {size : Nat} {v : Value} {n : Nat} {xs : List Value} (h : w.ownsRow B e size v n xs) (hg : w.grownBy w' (some c)) (hc : c < B) : w'.ownsRow B e size v n xs := by
  refine h.kept hg ?_
  cases hv : v.ownBlock with
  | none => exact Or.inl rfl
  | some k => exact Or.inr (by intro e; have := (h.lt k hv).1; simp at e; omega)
end Go.Proofs.YtmkcfkblfjhnhaaDoor
namespace Go.Proofs.YtmkcfkblfjhnhaaDoor
open Go.RowKit
set_option linter.unusedVariables false
set_option linter.unusedSimpArgs false
theorem owns_belowC {w w' : World} {B C : Nat} {e : TypeId} {size : Nat} {v : Value} {n : Nat} {xs : List Value} (h : w.ownsRow B e size v n xs) (hb : Below C w w') (hC : ∀ b, v.ownBlock = some b → b < C) : w'.ownsRow B e size v n xs := by
  refine ⟨h.1, ?_⟩
  rcases h.2 with hn | ⟨g, cap, cur, rfl, hb', hg, rest⟩
  · exact .inl hn
  · exact .inr ⟨g, cap, cur, rfl, hb', (hb.block g (hC g rfl)).trans hg, rest⟩
/-- A query is drawn, in new memory. -/
def DrawnQ (w0 : World) (c : Nat) (v : Value) (xs : List Int) (w : World) (e : Ending) (w' : World) : Prop :=
  ∃ (id tn : Int) (cs : List CondD) (os : List Int) (cv ov : Value), e = .returned (qV id tn cv ov) ∧ OwnsC w' w.heap.size cv cs ∧ OwnsN w' w.heap.size ov os ∧ cs.length ≤ 4 ∧ os.length ≤ 4 ∧ Dr w0 c v xs w w'
def DrawnQ3 (w0 : World) (c : Nat) (v : Value) (xs : List Int) (w : World) (e : Ending) (w' : World) : Prop :=
  ∃ (id tn : Int) (cs : List CondD) (os : List Int) (cv ov : Value), e = .returned (qV id tn cv ov) ∧ OwnsC w' w.heap.size cv cs ∧ OwnsN w' w.heap.size ov os ∧ cs.length ≤ 3 ∧ os.length ≤ 3 ∧ (∀ b, cv.ownBlock = some b → ov.ownBlock ≠ some b) ∧ Dr w0 c v xs w w'
set_option maxHeartbeats 16000000 in
set_option maxRecDepth 100000 in
theorem query_drawn (w0 : World) (c : Nat) (v : Value) (xs : List Int) (w : World) (hC : Cur w0 c v xs w) (id : Int) :
    Calls Tryd.prog 72 #[.pointer (some ⟨c, 0, none⟩), .int .i64 id] w (DrawnQ3 w0 c v xs w) := by
  have D0 := (Dr.start hC).alloc (.cells #[.int .i64 0, .int .i64 0, .slice none 0 0, .slice none 0 0] 59)
  have z0 := heap_alloc_new w (.cells #[.int .i64 0, .int .i64 0, .slice none 0 0, .slice none 0 0] 59)
  have s0 : (w.alloc (.cells #[.int .i64 0, .int .i64 0, .slice none 0 0, .slice none 0 0] 59)).heap.size = w.heap.size + 1 := by simp
  have hcB := cur_lt hC
  clear hC
  go_enter Tryd.func72, Tryd.ntmps72
  go_wp2_with fail
  generalize w.alloc (.cells #[.int .i64 0, .int .i64 0, .slice none 0 0, .slice none 0 0] 59) = W at *
  refine (below_any w0 c v xs _ D0.cur 4 (by omega) (by omega)).mono ?_
  rintro e w1 ⟨tn, x0, x1, rfl, hC1, hg1⟩
  have D1 := D0.call hC1 hg1
  have z1 := keep hg1 (D0.ne (Nat.le_refl _)) z0
  have s1 : w.heap.size + 1 ≤ w1.heap.size := by rw [← s0]; exact hg1.size
  clear D0 z0 s0 hC1 hg1
  have D2 := (D1.alloc (.cells #[.int .i64 id, .int .i64 tn, .slice none 0 0, .slice none 0 0] 59)).alloc (.cells (wides.map (Value.int .i64)).toArray 3 (0, 0))
  have z2 := keepA (.cells (wides.map (Value.int .i64)).toArray 3 (0, 0)) (keepA (.cells #[.int .i64 id, .int .i64 tn, .slice none 0 0, .slice none 0 0] 59) z1)
  have b2 := keepA (.cells (wides.map (Value.int .i64)).toArray 3 (0, 0)) (heap_alloc_new w1 (.cells #[.int .i64 id, .int .i64 tn, .slice none 0 0, .slice none 0 0] 59))
  have l2 := heap_alloc_new (w1.alloc (.cells #[.int .i64 id, .int .i64 tn, .slice none 0 0, .slice none 0 0] 59)) (.cells (wides.map (Value.int .i64)).toArray 3 (0, 0))
  have s2 : ((w1.alloc (.cells #[.int .i64 id, .int .i64 tn, .slice none 0 0, .slice none 0 0] 59)).alloc (.cells (wides.map (Value.int .i64)).toArray 3 (0, 0))).heap.size = w1.heap.size + 1 + 1 := by simp
  simp only [World.size_alloc] at l2
  have hne : w1.heap.size + 1 ≠ c := D1.ne (by omega)
  have HP := Lib.hid (pick_any w0 c v xs _ D2.cur (w1.heap.size + 1) wides 3 100 wides_in (by decide) (by decide) l2 hne)
  have HS1 := Lib.hid s1
  have HD2 := Lib.hid D2
  have HZ2 := Lib.hid z2
  have HB2 := Lib.hid b2
  have HS2 := Lib.hid s2
  clear D1 z1 D2 z2 b2 l2 s2 s1 hne
  go_wp2_with fail
  refine Calls.mono HP.out ?_
  rintro e w3 ⟨wd, wd0, wd1, rfl, hC3, hg3⟩
  obtain ⟨R, hR⟩ : ∃ R, w1.heap.size = R := ⟨_, rfl⟩
  have D3 := HD2.out.call hC3 hg3
  have z3 := keep hg3 (HD2.out.ne (Nat.le_refl _)) HZ2.out
  have b3 := keep hg3 (HD2.out.ne (by have := HS1.out; omega)) HB2.out
  have s3 : w1.heap.size + 1 ≤ w3.heap.size := by have h2 := hg3.size; rw [HS2.out] at h2; omega
  rw [hR] at b3 s3 HS1 ⊢
  clear HP HD2 HZ2 HB2 HS2 hC3 hg3 hR
  go_wp2
  go_loopw [7] (fun i wr => ∃ (k : Nat) (cv : Value) (cs : List CondD), k ≤ 3 ∧ Hid (cs.length ≤ k) ∧ i = .int .i64 k ∧ wr.heap[R]? = some (.cells #[.int .i64 id, .int .i64 tn, cv, .slice none 0 0] 59 (0, 0)) ∧ wr.heap[w.heap.size]? = some (.cells #[.int .i64 0, .int .i64 0, .slice none 0 0, .slice none 0 0] 59 (0, 0)) ∧ OwnsC wr (R + 1) cv cs ∧ Dr w0 c v xs w wr) (fun i _ => 3 - (intOf i).toNat)
  case atStart => exact ⟨0, .slice none 0 0, [], by omega, Lib.hid (by simp), rfl, b3, z3, ownsC_nil _ _, D3⟩
  case round =>
    obtain ⟨k, cv, cs, hk, hcl, rfl, hb, hz, hown, hD⟩ := hrel
    clear D3 b3 z3 s3
    obtain ⟨ca, ccap, rfl⟩ := ownsC_len hown
    have hRl := (Array.getElem?_eq_some_iff.1 hb).1
    by_cases hlt : k < 3
    · go_wp2_with fail
      refine (once_any w0 c v xs _ hD.cur 2 (by omega) (by omega)).mono ?_
      rintro e w4 ⟨⟨b, rfl⟩, hC4, hg4⟩
      have D4 := hD.call hC4 hg4
      have b4 := keep hg4 (hD.ne (by have := HS1.out; omega)) hb
      have z4 := keep hg4 (hD.ne (Nat.le_refl _)) hz
      have o4 : OwnsC w4 (R + 1) _ cs := kept_low hown hg4 (by have := hD.lt; have := HS1.out; omega)
      have l4 := Nat.lt_of_lt_of_le hRl hg4.size
      clear hD hC4 hg4 hb hz hown hRl
      cases b with
      | false =>
        go_wp2
        go_roundw
        case rel => exact ⟨k + 1, _, cs, by omega, Lib.hid (by have := hcl.out; omega), by go_num, b4, z4, o4, D4⟩
        case measure => simp [intOf]; omega
      | true =>
        go_wp2_with fail
        refine (below_any w0 c v xs _ D4.cur wd (by omega) (by omega)).mono ?_
        rintro e w5 ⟨lo, lo0, lo1, rfl, hC5, hg5⟩
        have D5 := D4.call hC5 hg5
        have b5 := keep hg5 (D4.ne (by have := HS1.out; omega)) b4
        have z5 := keep hg5 (D4.ne (Nat.le_refl _)) z4
        have o5 : OwnsC w5 (R + 1) _ cs := kept_low o4 hg5 (by have := D4.lt; have := HS1.out; omega)
        have l5 := Nat.lt_of_lt_of_le l4 hg5.size
        clear D4 hC5 hg5 b4 z4 o4 l4
        go_wp2_with fail
        refine (below_any w0 c v xs _ D5.cur wd (by omega) (by omega)).mono ?_
        rintro e w6 ⟨x, xl, xh, rfl, hC6, hg6⟩
        have D6 := D5.call hC6 hg6
        have b6 := keep hg6 (D5.ne (by have := HS1.out; omega)) b5
        have z6 := keep hg6 (D5.ne (Nat.le_refl _)) z5
        have o6 : OwnsC w6 (R + 1) _ cs := kept_low o5 hg6 (by have := D5.lt; have := HS1.out; omega)
        have l6 := Nat.lt_of_lt_of_le l5 hg6.size
        clear D5 hC6 hg6 b5 z5 o5 l5
        have wsum : IntKind.i64.wrap (lo + x) = lo + x := IntWalk.i64_in _ (by omega)
        go_wp2_with fail
        generalize min 99 (lo + x) = hi at *
        clear wsum
        refine (once_any w0 c v xs _ D6.cur 3 (by omega) (by omega)).mono ?_
        rintro e w7 ⟨⟨b7', rfl⟩, hC7, hg7⟩
        have D7 := D6.call hC7 hg7
        have b7 := keep hg7 (D6.ne (by have := HS1.out; omega)) b6
        have z7 := keep hg7 (D6.ne (Nat.le_refl _)) z6
        have o7 : OwnsC w7 (R + 1) _ cs := kept_low o6 hg7 (by have := D6.lt; have := HS1.out; omega)
        have l7 := Nat.lt_of_lt_of_le l6 hg7.size
        clear D6 hC7 hg7 b6 z6 o6 l6
        cases b7' with
        | false =>
          have al : Below w7.heap.size w7 (w7.alloc (.cells #[.int .i64 (k : Int), .int .i64 lo, .int .i64 hi] 92)) := (Below.refl _ _).alloc (Nat.le_refl _) _
          have q7 : (w7.alloc (.cells #[.int .i64 (k : Int), .int .i64 lo, .int .i64 hi] 92)).cell? ⟨w7.heap.size, 0, none⟩ = some (.int .i64 (k : Int)) ∧ (w7.alloc (.cells #[.int .i64 (k : Int), .int .i64 lo, .int .i64 hi] 92)).cell? ⟨w7.heap.size, 1, none⟩ = some (.int .i64 lo) ∧ (w7.alloc (.cells #[.int .i64 (k : Int), .int .i64 lo, .int .i64 hi] 92)).cell? ⟨w7.heap.size, 2, none⟩ = some (.int .i64 hi) := ⟨(cell_lit w7 #[.int .i64 (k : Int), .int .i64 lo, .int .i64 hi] 92 0).trans rfl, (cell_lit w7 #[.int .i64 (k : Int), .int .i64 lo, .int .i64 hi] 92 1).trans rfl, (cell_lit w7 #[.int .i64 (k : Int), .int .i64 lo, .int .i64 hi] 92 2).trans rfl⟩
          have l8 : w7.heap.size < (w7.alloc (.cells #[.int .i64 (k : Int), .int .i64 lo, .int .i64 hi] 92)).heap.size := by simp
          have HC7 := Lib.hid (conds_one q7 l8)
          have b8 := keepA (.cells #[.int .i64 (k : Int), .int .i64 lo, .int .i64 hi] 92) b7
          have z8 := keepA (.cells #[.int .i64 (k : Int), .int .i64 lo, .int .i64 hi] 92) z7
          have o8 := ownsC_below o7 al
          have D8 := D7.alloc (.cells #[.int .i64 (k : Int), .int .i64 lo, .int .i64 hi] 92)
          have s8 := Nat.le_trans (Nat.succ_le_of_lt l7) al.size
          have p2 := (cell_of_row w7 _ 2 _ _ _ b7).trans (show _ = some (Value.slice ca cs.length ccap) from rfl)
          clear al q7 l8 b7 z7 o7 D7 l7
          go_wp2_with (at_builtin; refine wpl_append_conds rfl (.tmp 38) (.tmp 43) rfl (R + 1) _ _ cs [((k : Int), lo, hi)] rfl rfl o8 HC7.out s8 (by have := hcl.out; simp; omega) ?_)
          intro u9 w9 o9 bl9
          obtain ⟨ub, ubc, rfl⟩ := ownsC_len o9
          have o9c : OwnsC w9 (R + 1) (.slice ub (cs.length + 1) ubc) (cs ++ [((k : Int), lo, hi)]) := by simpa using o9
          have b9 := keepB bl9 (Nat.lt_succ_self _) b8
          have z9 := keepB bl9 (by have := HS1.out; omega) z8
          have D9 := D8.below bl9 (by have := HS1.out; omega)
          simp only [List.length_append, List.length_cons, List.length_nil, Nat.zero_add]
          have y2 := (cell_of_row w9 _ 2 _ _ _ b9).trans (show _ = some (Value.slice ca cs.length ccap) from rfl)
          have f2 := frozen_of_row w9 _ 2 _ _ b9
          clear o8 b8 z8 D8 s8 bl9 o9 p2
          go_wp2
          have r9 := heap_setCell_same w9 R 2 _ _ (.slice ub (cs.length + 1) ubc) b9
          have zz := (heap_setCell_other w9 ⟨R, 2, none⟩ w.heap.size (.slice ub (cs.length + 1) ubc) (by have := HS1.out; simp; omega)).trans z9
          have D10 := D9.set (R := R) (by have := HS1.out; omega) 2 (.slice ub (cs.length + 1) ubc)
          have o10 := ownsC_low o9c (b := R) (Nat.lt_succ_self _) 2 (.slice ub (cs.length + 1) ubc)
          go_roundw
          case rel => exact ⟨k + 1, _, _, by omega, Lib.hid (by have := hcl.out; simp; omega), by go_num, r9, zz, o10, D10⟩
          case measure => simp [intOf]; omega
        | true =>
          have al : Below w7.heap.size w7 (w7.alloc (.cells #[.int .i64 (k : Int), .int .i64 lo, .int .i64 lo] 92)) := (Below.refl _ _).alloc (Nat.le_refl _) _
          have q7 : (w7.alloc (.cells #[.int .i64 (k : Int), .int .i64 lo, .int .i64 lo] 92)).cell? ⟨w7.heap.size, 0, none⟩ = some (.int .i64 (k : Int)) ∧ (w7.alloc (.cells #[.int .i64 (k : Int), .int .i64 lo, .int .i64 lo] 92)).cell? ⟨w7.heap.size, 1, none⟩ = some (.int .i64 lo) ∧ (w7.alloc (.cells #[.int .i64 (k : Int), .int .i64 lo, .int .i64 lo] 92)).cell? ⟨w7.heap.size, 2, none⟩ = some (.int .i64 lo) := ⟨(cell_lit w7 #[.int .i64 (k : Int), .int .i64 lo, .int .i64 lo] 92 0).trans rfl, (cell_lit w7 #[.int .i64 (k : Int), .int .i64 lo, .int .i64 lo] 92 1).trans rfl, (cell_lit w7 #[.int .i64 (k : Int), .int .i64 lo, .int .i64 lo] 92 2).trans rfl⟩
          have l8 : w7.heap.size < (w7.alloc (.cells #[.int .i64 (k : Int), .int .i64 lo, .int .i64 lo] 92)).heap.size := by simp
          have HC7 := Lib.hid (conds_one q7 l8)
          have b8 := keepA (.cells #[.int .i64 (k : Int), .int .i64 lo, .int .i64 lo] 92) b7
          have z8 := keepA (.cells #[.int .i64 (k : Int), .int .i64 lo, .int .i64 lo] 92) z7
          have o8 := ownsC_below o7 al
          have D8 := D7.alloc (.cells #[.int .i64 (k : Int), .int .i64 lo, .int .i64 lo] 92)
          have s8 := Nat.le_trans (Nat.succ_le_of_lt l7) al.size
          have p2 := (cell_of_row w7 _ 2 _ _ _ b7).trans (show _ = some (Value.slice ca cs.length ccap) from rfl)
          clear al q7 l8 b7 z7 o7 D7 l7
          go_wp2_with (at_builtin; refine wpl_append_conds rfl (.tmp 38) (.tmp 43) rfl (R + 1) _ _ cs [((k : Int), lo, lo)] rfl rfl o8 HC7.out s8 (by have := hcl.out; simp; omega) ?_)
          intro u9 w9 o9 bl9
          obtain ⟨ub, ubc, rfl⟩ := ownsC_len o9
          have o9c : OwnsC w9 (R + 1) (.slice ub (cs.length + 1) ubc) (cs ++ [((k : Int), lo, lo)]) := by simpa using o9
          have b9 := keepB bl9 (Nat.lt_succ_self _) b8
          have z9 := keepB bl9 (by have := HS1.out; omega) z8
          have D9 := D8.below bl9 (by have := HS1.out; omega)
          simp only [List.length_append, List.length_cons, List.length_nil, Nat.zero_add]
          have y2 := (cell_of_row w9 _ 2 _ _ _ b9).trans (show _ = some (Value.slice ca cs.length ccap) from rfl)
          have f2 := frozen_of_row w9 _ 2 _ _ b9
          clear o8 b8 z8 D8 s8 bl9 o9 p2
          go_wp2
          have r9 := heap_setCell_same w9 R 2 _ _ (.slice ub (cs.length + 1) ubc) b9
          have zz := (heap_setCell_other w9 ⟨R, 2, none⟩ w.heap.size (.slice ub (cs.length + 1) ubc) (by have := HS1.out; simp; omega)).trans z9
          have D10 := D9.set (R := R) (by have := HS1.out; omega) 2 (.slice ub (cs.length + 1) ubc)
          have o10 := ownsC_low o9c (b := R) (Nat.lt_succ_self _) 2 (.slice ub (cs.length + 1) ubc)
          go_roundw
          case rel => exact ⟨k + 1, _, _, by omega, Lib.hid (by have := hcl.out; simp; omega), by go_num, r9, zz, o10, D10⟩
          case measure => simp [intOf]; omega
    · obtain rfl : k = 3 := by omega
      go_wp2_with fail
      refine (below_any w0 c v xs _ hD.cur 3 (by omega) (by omega)).mono ?_
      rintro e w4 ⟨n, n0, n1, rfl, hC4, hg4⟩
      obtain ⟨n, rfl⟩ := Int.eq_ofNat_of_zero_le n0
      have D4 := hD.call hC4 hg4
      have b4 := keep hg4 (hD.ne (by have := HS1.out; omega)) hb
      have z4 := keep hg4 (hD.ne (Nat.le_refl _)) hz
      have o4 : OwnsC w4 (R + 1) _ cs := kept_low hown hg4 (by have := hD.lt; have := HS1.out; omega)
      have HL4 := Lib.hid (Nat.lt_of_lt_of_le hRl hg4.size)
      have HCB := Lib.hid (fun b (hb : (Value.slice ca cs.length ccap).ownBlock = some b) => o4.lt b hb)
      have HCL := Lib.hid hcl.out
      clear hD hC4 hg4 hb hz hown hRl hcl hlt hk
      obtain ⟨C, hCC⟩ : ∃ C, w4.heap.size = C := ⟨_, rfl⟩
      have HCS : Hid (C ≤ w4.heap.size) := Lib.hid (by omega)
      rw [hCC] at HL4 HCB
      clear hCC
      have wn : IntKind.i64.wrap (1 + (n : Int)) = ((n + 1 : Nat) : Int) := by rw [IntWalk.i64_in _ (by omega)]; omega
      go_wp2
      clear wn
      go_loopw [10] (fun i wr => ∃ (m : Nat) (ov : Value) (os : List Int), Hid (os.length + m ≤ 3) ∧ i = .int .i64 m ∧ wr.heap[R]? = some (.cells #[.int .i64 id, .int .i64 tn, .slice ca cs.length ccap, ov] 59 (0, 0)) ∧ wr.heap[w.heap.size]? = some (.cells #[.int .i64 0, .int .i64 0, .slice none 0 0, .slice none 0 0] 59 (0, 0)) ∧ OwnsC wr (R + 1) (.slice ca cs.length ccap) cs ∧ OwnsN wr C ov os ∧ Hid (C ≤ wr.heap.size) ∧ Dr w0 c v xs w wr) (fun i _ => (intOf i).toNat)
      case atStart => exact ⟨n + 1, .slice none 0 0, [], Lib.hid (by simp; omega), by simp, b4, z4, o4, ownsN_nil _ _, HCS, D4⟩
      case round =>
        obtain ⟨m, ov, os, hom, rfl, hb, hz, hoc, hon, hCs, hD⟩ := hrel
        clear D4 b4 z4 o4 HCS
        obtain ⟨oa, ocap, rfl⟩ := ints_len (ownsN_ints hon)
        by_cases hlt : 0 < m
        · have hm4 : m ≤ 3 := by have := hom.out; omega
          go_wp2_with fail
          refine (below_any w0 c v xs _ hD.cur 3 (by omega) (by omega)).mono ?_
          rintro e w5 ⟨f, fl, fh, rfl, hC5, hg5⟩
          have D5 := hD.call hC5 hg5
          have b5 := keep hg5 (hD.ne (by have := HS1.out; omega)) hb
          have z5 := keep hg5 (hD.ne (Nat.le_refl _)) hz
          have oc5 : OwnsC w5 (R + 1) _ cs := kept_low hoc hg5 (by have := hD.lt; have := HS1.out; omega)
          have on5 := ownsN_grown hon hg5 (by have := hD.lt; have := HS1.out; have := HL4.out; omega)
          have s5 := Nat.le_trans hCs.out hg5.size
          clear hD hC5 hg5 hb hz hoc hon hCs
          have al : Below w5.heap.size w5 (w5.alloc (.cells #[.int .i64 f] 3)) := (Below.refl _ _).alloc (Nat.le_refl _) _
          have q7 := (cell_lit w5 #[.int .i64 f] 3 0).trans (show _ = some (Value.int .i64 f) from rfl)
          have b6 := keepA (.cells #[.int .i64 f] 3) b5
          have z6 := keepA (.cells #[.int .i64 f] 3) z5
          have oc6 := ownsC_below oc5 al
          have on6 := ownsN_below on5 al
          have D6 := D5.alloc (.cells #[.int .i64 f] 3)
          have s6 := Nat.le_trans s5 al.size
          have p3 := (cell_of_row w5 _ 3 _ _ _ b5).trans (show _ = some (Value.slice oa os.length ocap) from rfl)
          clear D5 b5 z5 oc5 on5 s5 al
          go_wp2_with (at_builtin; refine wpl_append_one rfl (.tmp 56) (.tmp 58) rfl C (.slice oa os.length ocap) os w5.heap.size f rfl rfl on6 q7 s6 (by have := hom.out; omega) ?_)
          intro u9 w9 o9 g9
          obtain ⟨ub, ubc, rfl⟩ := ints_len (ownsN_ints o9)
          have on9 : OwnsN w9 C (.slice ub (os.length + 1) ubc) (os ++ [f]) := by simpa using o9
          have bl9 := (Below.refl C _).grown g9 s6 (fun q hq => (on6.lt q hq).1)
          have b9 := keepB bl9 HL4.out b6
          have z9 := keepB bl9 (by have := HS1.out; have := HL4.out; omega) z6
          have D9 := D6.below bl9 (by have := HS1.out; have := HL4.out; omega)
          have oc9 : OwnsC w9 (R + 1) _ cs := owns_belowC oc6 bl9 (fun q hq => (HCB.out q hq).2)
          simp only [List.length_append, List.length_cons, List.length_nil, Nat.zero_add]
          have y3 := (cell_of_row w9 _ 3 _ _ _ b9).trans (show _ = some (Value.slice oa os.length ocap) from rfl)
          have f3 := frozen_of_row w9 _ 3 _ _ b9
          have s9 := Nat.le_trans s6 g9.size
          clear o9 g9 b6 z6 oc6 on6 D6 s6 p3 q7 bl9
          go_wp2
          have r9 := heap_setCell_same w9 R 3 _ _ (.slice ub (os.length + 1) ubc) b9
          have zz := (heap_setCell_other w9 ⟨R, 3, none⟩ w.heap.size (.slice ub (os.length + 1) ubc) (by have := HS1.out; simp; omega)).trans z9
          have D10 := D9.set (R := R) (by have := HS1.out; omega) 3 (.slice ub (os.length + 1) ubc)
          have oc10 := ownsC_low oc9 (b := R) (Nat.lt_succ_self _) 3 (.slice ub (os.length + 1) ubc)
          have on10 := ownsN_low on9 (b := R) HL4.out 3 (.slice ub (os.length + 1) ubc)
          go_roundw
          case rel => exact ⟨m - 1, _, _, Lib.hid (by have := hom.out; simp; omega), by go_num, r9, zz, oc10, on10, Lib.hid (by simpa [World.setCell] using s9), D10⟩
          case measure => simp [intOf]; omega
        · obtain rfl : m = 0 := by omega
          have q0 := (cell_of_row wr _ 0 _ _ _ hb).trans (show _ = some (Value.int .i64 id) from rfl)
          have y0 := (cell_of_row wr _ 0 _ _ _ hz).trans (show _ = some (Value.int .i64 0) from rfl)
          have f0 := frozen_of_row wr _ 0 _ _ hz
          have q1 := (cell_of_row wr _ 1 _ _ _ hb).trans (show _ = some (Value.int .i64 tn) from rfl)
          have y1 := (cell_of_row wr _ 1 _ _ _ hz).trans (show _ = some (Value.int .i64 0) from rfl)
          have f1 := frozen_of_row wr _ 1 _ _ hz
          have q2 := (cell_of_row wr _ 2 _ _ _ hb).trans (show _ = some (Value.slice ca cs.length ccap) from rfl)
          have y2 := (cell_of_row wr _ 2 _ _ _ hz).trans (show _ = some (Value.slice none 0 0) from rfl)
          have f2 := frozen_of_row wr _ 2 _ _ hz
          have q3 := (cell_of_row wr _ 3 _ _ _ hb).trans (show _ = some (Value.slice oa os.length ocap) from rfl)
          have y3 := (cell_of_row wr _ 3 _ _ _ hz).trans (show _ = some (Value.slice none 0 0) from rfl)
          have f3 := frozen_of_row wr _ 3 _ _ hz
          go_wp2
          have r1 := heap_setCell_same wr w.heap.size 0 _ _ (.int .i64 id) hz
          have r2 := heap_setCell_same _ w.heap.size 1 _ _ (.int .i64 tn) r1
          have r3 := heap_setCell_same _ w.heap.size 2 _ _ (.slice ca cs.length ccap) r2
          have r4 := heap_setCell_same _ w.heap.size 3 _ _ (.slice oa os.length ocap) r3
          have D9 := ((((hD.set (R := w.heap.size) (Nat.le_refl _) 0 (.int .i64 id)).set (R := w.heap.size) (Nat.le_refl _) 1 (.int .i64 tn)).set (R := w.heap.size) (Nat.le_refl _) 2 (.slice ca cs.length ccap)).set (R := w.heap.size) (Nat.le_refl _) 3 (.slice oa os.length ocap))
          have oc9 := (ownsC_low (ownsC_low (ownsC_low (ownsC_low hoc (b := w.heap.size) (by have := HS1.out; omega) 0 (.int .i64 id)) (b := w.heap.size) (by have := HS1.out; omega) 1 (.int .i64 tn)) (b := w.heap.size) (by have := HS1.out; omega) 2 (.slice ca cs.length ccap)) (b := w.heap.size) (by have := HS1.out; omega) 3 (.slice oa os.length ocap))
          have on9 := (ownsN_low (ownsN_low (ownsN_low (ownsN_low hon (b := w.heap.size) (by have := HS1.out; have := HL4.out; omega) 0 (.int .i64 id)) (b := w.heap.size) (by have := HS1.out; have := HL4.out; omega) 1 (.int .i64 tn)) (b := w.heap.size) (by have := HS1.out; have := HL4.out; omega) 2 (.slice ca cs.length ccap)) (b := w.heap.size) (by have := HS1.out; have := HL4.out; omega) 3 (.slice oa os.length ocap))
          have e0 := cell_of_row _ _ 0 _ _ _ r4
          have e1 := cell_of_row _ _ 1 _ _ _ r4
          have e2 := cell_of_row _ _ 2 _ _ _ r4
          have e3 := cell_of_row _ _ 3 _ _ _ r4
          simp at e0 e1 e2 e3
          have hap : ∀ b, (Value.slice ca cs.length ccap).ownBlock = some b → (Value.slice oa os.length ocap).ownBlock ≠ some b := fun b h1 h2 => by have := (HCB.out b h1).2; have := (hon.lt b h2).1; omega
          refine bodyPost_ret (v := qV id tn (.slice ca cs.length ccap) (.slice oa os.length ocap)) ?_ rfl ?_
          · simp [results, Tryd.f72, go_sem, e0, e1, e2, e3, qV]
          · exact ⟨id, tn, cs, os, _, _, rfl, ownsC_up oc9 (by have := HS1.out; omega), ownsN_up on9 (by have := HS1.out; have := HL4.out; omega), HCL.out, by have := hom.out; omega, hap, D9⟩
end Go.Proofs.YtmkcfkblfjhnhaaDoor
