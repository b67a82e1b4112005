/-
 Texts of the proof, merged: ProbeMath, OrdP.
-/
import Derived.Test.YtededfficggkaaaDoorI10
import Derived.Test.YtededfficggkaaaDoorI21
import Derived.Test.YtededfficggkaaaDoorI24
import Derived.Test.YtededfficggkaaaDoorI26
import Derived.Test.YtededfficggkaaaDoorRows
namespace Go.Proofs.YtededfficggkaaaDoor
open Go.RowKit
set_option linter.unusedVariables false
set_option linter.unusedSimpArgs false
def probeM (s : Int → Nat) : List Int → Nat → Int → Nat × Int
 | [], m, work => (m, work)
 | f :: os, m, work => if m = 0 then (m, work) else probeM s os (m &&& s f) (work + 1 + ((min (cntM m) (cntM (s f)) : Nat) : Int))
theorem cntM_le (m : Nat) : cntM m ≤ 24 := memL_le m
theorem mask_len0 {l : List Int} (h : SetL l) : maskL l = 0 ↔ l.length = 0 := by
 constructor
 ·
  intro e
  have h1 := memL_set h
  rw [e, memL_zero] at h1
  rw [← h1]; rfl
 ·
  intro e
  have e2 : l = [] := List.length_eq_zero_iff.1 e
  subst e2; decide
theorem cnt_mask {l : List Int} (h : SetL l) : cntM (maskL l) = l.length := by unfold cntM; rw [memL_set h]
theorem sets_two {a b : List Int} (ha : SetL a) (hb : SetL b) : (setB a && setB b) = true := by rw [(setB_iff a).2 ha, (setB_iff b).2 hb]; rfl
theorem meet_maskL {a b : List Int} (ha : SetL a) (hb : SetL b) : maskL a &&& maskL b = maskL (meetL a b) := by
 have h := meet_mask a b
 unfold maskA maskB at h
 rw [if_pos (sets_two ha hb), if_pos (sets_two ha hb)] at h
 rw [← h, maskL_memL (Nat.lt_of_le_of_lt Nat.and_le_left (maskL_lt a))]
theorem meet_setL {a b : List Int} (ha : SetL a) (hb : SetL b) : SetL (meetL a b) := by
 unfold meetL
 rw [if_pos (sets_two ha hb)]
 exact filter_set ha _
theorem probeM_is (fs : List (List SpanD)) (vs : List Int) (s : Int → Nat) : ∀ (os : List Int) (set : List Int) (work : Int), SetL set →
  (∀ f ∈ os, SetL (findL (fs.getD f.toNat []) (vs.getD f.toNat 0)) ∧ s f = maskL (findL (fs.getD f.toNat []) (vs.getD f.toNat 0))) →
  probeM s os (maskL set) work = (maskL (probeL fs vs os set work).1, (probeL fs vs os set work).2) ∧ SetL (probeL fs vs os set work).1
 | [], set, work, h, _ => ⟨rfl, h⟩
 | f :: os, set, work, h, ho => by
  obtain ⟨h1, h2⟩ := ho f (List.mem_cons_self ..)
  unfold probeM probeL
  by_cases hz : set.length = 0
  ·
   rw [if_pos ((mask_len0 h).2 hz), if_pos hz]; exact ⟨rfl, h⟩
  ·
   rw [if_neg (fun e => hz ((mask_len0 h).1 e)), if_neg hz, h2, meet_maskL h h1, cnt_mask h, cnt_mask h1]
   exact probeM_is fs vs s os _ _ (meet_setL h h1) (fun g hg => ho g (List.mem_cons_of_mem _ hg))
theorem probeM_range (s : Int → Nat) : ∀ (os : List Int) (m : Nat) (work : Int), m < 16777216 → (probeM s os m work).1 < 16777216 ∧ work ≤ (probeM s os m work).2 ∧ (probeM s os m work).2 ≤ work + 25 * (os.length : Int)
 | [], m, work, h => ⟨h, Int.le_refl _, by simp [probeM]⟩
 | f :: os, m, work, h => by
  unfold probeM
  split
  ·
   exact ⟨h, Int.le_refl _, by simp; omega⟩
  ·
   have h1 := probeM_range s os (m &&& s f) (work + 1 + ((min (cntM m) (cntM (s f)) : Nat) : Int)) (Nat.lt_of_le_of_lt Nat.and_le_left h)
   have h2 := cntM_le m
   have h3 : min (cntM m) (cntM (s f)) ≤ 24 := Nat.le_trans (Nat.min_le_left _ _) h2
   rw [List.length_cons]
   refine ⟨h1.1, by omega, ?_⟩
   have := h1.2.2
   rw [show ((os.length + 1 : Nat) : Int) = (os.length : Int) + 1 from rfl, Int.mul_add, Int.mul_one]
   omega
theorem allL_set {qs : List QD} (h : areQB qs = true) : SetL (allL qs) := by
 have h1 := set_ids h (fun _ => true)
 rw [List.filter_eq_self.2 (fun _ _ => rfl)] at h1
 exact (setB_iff _).1 h1
theorem find_setL {qs : List QD} (h : areQB qs = true) {f v : Int} (hf : 0 ≤ f ∧ f ≤ 2) (hv : 0 ≤ v ∧ v ≤ 99) : SetL (findL ((fldTo qs 3).getD f.toNat []) v) := by
 rw [find_fld h hf hv]
 exact (setB_iff _).1 (set_ids h _)
/-- The mask of a field's set. -/
def setM (fs : List (List SpanD)) (vs : List Int) (f : Nat) : Nat := maskL (findL (fs.getD f []) (vs.getD f 0))
theorem setM_lt (fs : List (List SpanD)) (vs : List Int) (f : Nat) : setM fs vs f < 16777216 := maskL_lt _
def pick3 (a b c : Nat) (f : Int) : Nat := if f = 0 then a else if f = 1 then b else c
theorem probe_key {qs : List QD} {fs : List (List SpanD)} {r : RowD} {os : List Int} (hx : isIndexB qs fs = true) (hr : rowB r = true) (ho : orderB os = true) (work : Int) :
  probeM (pick3 (setM fs r.2 0) (setM fs r.2 1) (setM fs r.2 2)) os (maskL (allL qs)) work = (maskL (probeL fs r.2 os (allL qs) work).1, (probeL fs r.2 os (allL qs) work).2) ∧ SetL (probeL fs r.2 os (allL qs) work).1 := by
 obtain ⟨h1, rfl⟩ := idx_iff hx
 refine probeM_is _ _ _ os _ work (allL_set h1) (fun f hf => ?_)
 have h2 := (order_mem ho f).1 hf
 have h3 : 0 ≤ f ∧ f ≤ 2 := by omega
 refine ⟨find_setL h1 h3 (row_vals hr f h3), ?_⟩
 rcases h2 with rfl | rfl | rfl <;> rfl
/-- The work at the sets of a row. -/
def workK (all : Nat) (os : List Int) (a b c : Nat) : Int := (probeM (pick3 a b c) os all 0).2
theorem workK_range {all : Nat} (h : all < 16777216) {os : List Int} (ho : os.length = 3) (a b c : Nat) : 0 ≤ workK all os a b c ∧ workK all os a b c ≤ 75 := by
 have := probeM_range (pick3 a b c) os all 0 h
 rw [ho] at this
 unfold workK
 omega
theorem workB_key {qs : List QD} {fs : List (List SpanD)} {r : RowD} {os : List Int} (hx : isIndexB qs fs = true) (hr : rowB r = true) (ho : orderB os = true) :
  workB qs fs os r = workK (maskL (allL qs)) os (setM fs r.2 0) (setM fs r.2 1) (setM fs r.2 2) := by
 unfold workB workK
 rw [hr, if_pos rfl, (probe_key hx hr ho 0).1]
theorem mworkB_no {qs : List QD} {fs : List (List SpanD)} {r : RowD} {os : List Int} (hr : rowB r = false) : workB qs fs os r = 0 := by unfold workB; rw [hr]; rfl
theorem work_sum {qs : List QD} {fs : List (List SpanD)} {os : List Int} (hx : isIndexB qs fs = true) (ho : orderB os = true) : ∀ rs : List RowD,
  (rs.map (workB qs fs os)).sum = ((rs.filter rowB).map fun r => workK (maskL (allL qs)) os (setM fs r.2 0) (setM fs r.2 1) (setM fs r.2 2)).sum
 | [] => rfl
 | r :: rs => by
  rw [List.map_cons, List.sum_cons, work_sum hx ho rs, List.filter_cons]
  cases hr : rowB r with
  | true => rw [if_pos rfl, List.map_cons, List.sum_cons, workB_key hx hr ho]
  | false => rw [if_neg (by decide), mworkB_no hr, Int.zero_add]
theorem mworkL_yes {qs : List QD} {fs : List (List SpanD)} {rs : List RowD} {os : List Int} (hx : isIndexB qs fs = true) (ho : orderB os = true) :
  workL qs fs rs os = ((rs.filter rowB).map fun r => workK (maskL (allL qs)) os (setM fs r.2 0) (setM fs r.2 1) (setM fs r.2 2)).sum := by
 unfold workL
 rw [hx, ho, Bool.and_self, if_pos rfl, work_sum hx ho]
theorem mworkL_no {qs : List QD} {fs : List (List SpanD)} {rs : List RowD} {os : List Int} (h : (isIndexB qs fs && orderB os) = false) : workL qs fs rs os = 0 := by
 unfold workL; rw [h]; rfl
/-- The best so far, with its work: the first k orders looked at, begun with the first one. -/
def bestK (f : List Int → Int) : Nat → List Int × Int
 | 0 => ([0, 1, 2], f [0, 1, 2])
 | k + 1 => if f (ordersL.getD k []) < (bestK f k).2 then (ordersL.getD k [], f (ordersL.getD k [])) else bestK f k
theorem bestK_mem (f : List Int → Int) : ∀ k, k ≤ 6 → (bestK f k).1 ∈ ordersL ∧ (bestK f k).2 = f (bestK f k).1
 | 0, _ => ⟨by simp [bestK, ordersL], rfl⟩
 | k + 1, h => by
  unfold bestK
  split
  ·
   refine ⟨?_, rfl⟩
   have hk : k < ordersL.length := by show k < 6; omega
   have e : ordersL.getD k [] = ordersL[k] := by simp [List.getD, hk]
   rw [e]; exact List.getElem_mem hk
  ·
   exact bestK_mem f k (by omega)
theorem bestTo_cons (f : List Int → Int) (o : List Int) (os : List (List Int)) (b : List Int) (l : Int) : bestTo f (o :: os) b l = if b.length = 0 ∨ f o < l then bestTo f os o (f o) else bestTo f os b l := rfl
theorem bestK_from (f : List Int → Int) : ∀ d k, k + d = 6 → bestTo f (ordersL.drop k) (bestK f k).1 (bestK f k).2 = (bestK f 6).1
 | 0, k, h => by
  obtain rfl : k = 6 := by omega
  rfl
 | d + 1, k, h => by
  have hk : k < ordersL.length := by show k < 6; omega
  have hl : (bestK f k).1.length ≠ 0 := by
   have := (bestK_mem f k (by omega)).1
   simp only [ordersL, List.mem_cons, List.not_mem_nil, or_false] at this
   rcases this with e | e | e | e | e | e <;> rw [e] <;> decide
  have e : ordersL.getD k [] = ordersL[k] := by simp [List.getD, hk]
  rw [List.drop_eq_getElem_cons hk, ← e, ← bestK_from f d (k + 1) (by omega), bestTo_cons]
  by_cases hc : f (ordersL.getD k []) < (bestK f k).2
  ·
   rw [if_pos (Or.inr hc)]
   rw [show bestK f (k + 1) = (ordersL.getD k [], f (ordersL.getD k [])) from by rw [bestK, if_pos hc]]
  ·
   rw [if_neg (fun h => h.elim hl hc)]
   rw [show bestK f (k + 1) = bestK f k from by rw [bestK, if_neg hc]]
theorem bestK_is (f : List Int → Int) : (bestK f 6).1 = bestTo f ordersL [] 0 := by
 have h := bestK_from f 5 1 rfl
 have e1 : bestK f 1 = ([0, 1, 2], f [0, 1, 2]) := by
  rw [bestK]
  show (if f [0, 1, 2] < f [0, 1, 2] then _ else _) = _
  rw [if_neg (Int.lt_irrefl _)]
  rfl
 rw [e1] at h
 rw [← h]
 rfl
theorem mbestL_yes {qs : List QD} {fs : List (List SpanD)} {rs : List RowD} (h : isIndexB qs fs = true) : bestL qs fs rs = (bestK (workL qs fs rs) 6).1 := by
 rw [bestK_is]; unfold bestL; rw [if_pos h]
theorem mbestL_no {qs : List QD} {fs : List (List SpanD)} {rs : List RowD} (h : isIndexB qs fs = false) : bestL qs fs rs = [] := by unfold bestL; rw [h]; rfl
theorem order_len {os : List Int} (h : orderB os = true) : os.length = 3 := by
 unfold orderB at h
 rw [Bool.and_eq_true, decide_eq_true_eq] at h
 exact h.1
theorem order_in {os : List Int} : orderB os = true ↔ os ∈ ordersL := by
 constructor
 ·
  intro h
  have hl := order_len h
  have hm := order_mem h
  match os, hl with
  | [a, b, c], _ =>
   have h2 := h
   unfold orderB at h2
   rw [Bool.and_eq_true, List.all_eq_true, decide_eq_true_eq] at h2
   have e0 := h2.2 0 (List.mem_range.2 (by simp))
   have e1 := h2.2 1 (List.mem_range.2 (by simp))
   have e2 := h2.2 2 (List.mem_range.2 (by simp))
   simp at e0 e1 e2
   have ha : a = 0 ∨ a = 1 ∨ a = 2 := by omega
   have hb : b = 0 ∨ b = 1 ∨ b = 2 := by omega
   have hc : c = 0 ∨ c = 1 ∨ c = 2 := by omega
   rcases ha with rfl | rfl | rfl <;> rcases hb with rfl | rfl | rfl <;> rcases hc with rfl | rfl | rfl <;> simp_all [ordersL]
 ·
  intro h
  simp only [ordersL, List.mem_cons, List.not_mem_nil, or_false] at h
  rcases h with rfl | rfl | rfl | rfl | rfl | rfl <;> decide
def ordC : List Int := [0, 1, 2, 0, 2, 1, 1, 0, 2, 1, 2, 0, 2, 0, 1, 2, 1, 0]
/-- The table of orders reads as its text lays it. -/
def OrdT (w : World) : Prop := ∀ i, i < 18 → w.cell? ⟨0, i, none⟩ = some (.int .i64 (ordC.getD i 0))
theorem OrdT.on {w w' : World} (h : OrdT w) (hb : Below w.heap.size w w') : OrdT w' := by
 intro i hi
 have h1 := h i hi
 have hlt : 0 < w.heap.size := by
  cases hc : w.heap[0]? with
  | none => simp [World.cell?, hc] at h1
  | some x => exact (Array.getElem?_eq_some_iff.1 hc).1
 exact (hb.cell (p := ⟨0, i, none⟩) hlt).trans h1
/-- The k-th order's fields. -/
def oN (k j : Nat) : Int := (ordersL.getD k []).getD j 0
theorem oN_list {k : Nat} (h : k < 6) : ordersL.getD k [] = [oN k 0, oN k 1, oN k 2] := by
 rcases (show k = 0 ∨ k = 1 ∨ k = 2 ∨ k = 3 ∨ k = 4 ∨ k = 5 by omega) with rfl | rfl | rfl | rfl | rfl | rfl <;> rfl
theorem oN_in {k : Nat} (h : k < 6) : orderB [oN k 0, oN k 1, oN k 2] = true := by
 rcases (show k = 0 ∨ k = 1 ∨ k = 2 ∨ k = 3 ∨ k = 4 ∨ k = 5 by omega) with rfl | rfl | rfl | rfl | rfl | rfl <;> decide
theorem order_all6 {os : List Int} (h : ∀ j, j < 6 → ¬ [oN j 0, oN j 1, oN j 2] = os) : orderB os = false := by
 cases hc : orderB os with
 | false => rfl
 | true =>
  have hm := order_in.1 hc
  simp only [ordersL, List.mem_cons, List.not_mem_nil, or_false] at hm
  rcases hm with rfl | rfl | rfl | rfl | rfl | rfl
  ·
   exact absurd rfl (h 0 (by omega))
  ·
   exact absurd rfl (h 1 (by omega))
  ·
   exact absurd rfl (h 2 (by omega))
  ·
   exact absurd rfl (h 3 (by omega))
  ·
   exact absurd rfl (h 4 (by omega))
  ·
   exact absurd rfl (h 5 (by omega))
set_option maxRecDepth 100000 in
theorem idxO0 (w : World) : Sem.run Tryd.prog (Instr.index 128 (.agg #[.int .i64 0, .int .i64 1, .int .i64 2, .int .i64 0, .int .i64 2, .int .i64 1, .int .i64 1, .int .i64 0, .int .i64 2, .int .i64 1, .int .i64 2, .int .i64 0, .int .i64 2, .int .i64 0, .int .i64 1, .int .i64 2, .int .i64 1, .int .i64 0]) (.int .i64 0)) w = .ok (.agg #[.int .i64 0, .int .i64 1, .int .i64 2]) w := by
 have u := Tryd.underlying128
 have z := Tryd.sizeOf113
 have g := Tryd.isAgg113
 unfold Instr.index
 go_simp
set_option maxRecDepth 100000 in
theorem idxO1 (w : World) : Sem.run Tryd.prog (Instr.index 128 (.agg #[.int .i64 0, .int .i64 1, .int .i64 2, .int .i64 0, .int .i64 2, .int .i64 1, .int .i64 1, .int .i64 0, .int .i64 2, .int .i64 1, .int .i64 2, .int .i64 0, .int .i64 2, .int .i64 0, .int .i64 1, .int .i64 2, .int .i64 1, .int .i64 0]) (.int .i64 1)) w = .ok (.agg #[.int .i64 0, .int .i64 2, .int .i64 1]) w := by
 have u := Tryd.underlying128
 have z := Tryd.sizeOf113
 have g := Tryd.isAgg113
 unfold Instr.index
 go_simp
set_option maxRecDepth 100000 in
theorem idxO2 (w : World) : Sem.run Tryd.prog (Instr.index 128 (.agg #[.int .i64 0, .int .i64 1, .int .i64 2, .int .i64 0, .int .i64 2, .int .i64 1, .int .i64 1, .int .i64 0, .int .i64 2, .int .i64 1, .int .i64 2, .int .i64 0, .int .i64 2, .int .i64 0, .int .i64 1, .int .i64 2, .int .i64 1, .int .i64 0]) (.int .i64 2)) w = .ok (.agg #[.int .i64 1, .int .i64 0, .int .i64 2]) w := by
 have u := Tryd.underlying128
 have z := Tryd.sizeOf113
 have g := Tryd.isAgg113
 unfold Instr.index
 go_simp
set_option maxRecDepth 100000 in
theorem idxO3 (w : World) : Sem.run Tryd.prog (Instr.index 128 (.agg #[.int .i64 0, .int .i64 1, .int .i64 2, .int .i64 0, .int .i64 2, .int .i64 1, .int .i64 1, .int .i64 0, .int .i64 2, .int .i64 1, .int .i64 2, .int .i64 0, .int .i64 2, .int .i64 0, .int .i64 1, .int .i64 2, .int .i64 1, .int .i64 0]) (.int .i64 3)) w = .ok (.agg #[.int .i64 1, .int .i64 2, .int .i64 0]) w := by
 have u := Tryd.underlying128
 have z := Tryd.sizeOf113
 have g := Tryd.isAgg113
 unfold Instr.index
 go_simp
set_option maxRecDepth 100000 in
theorem idxO4 (w : World) : Sem.run Tryd.prog (Instr.index 128 (.agg #[.int .i64 0, .int .i64 1, .int .i64 2, .int .i64 0, .int .i64 2, .int .i64 1, .int .i64 1, .int .i64 0, .int .i64 2, .int .i64 1, .int .i64 2, .int .i64 0, .int .i64 2, .int .i64 0, .int .i64 1, .int .i64 2, .int .i64 1, .int .i64 0]) (.int .i64 4)) w = .ok (.agg #[.int .i64 2, .int .i64 0, .int .i64 1]) w := by
 have u := Tryd.underlying128
 have z := Tryd.sizeOf113
 have g := Tryd.isAgg113
 unfold Instr.index
 go_simp
set_option maxRecDepth 100000 in
theorem idxO5 (w : World) : Sem.run Tryd.prog (Instr.index 128 (.agg #[.int .i64 0, .int .i64 1, .int .i64 2, .int .i64 0, .int .i64 2, .int .i64 1, .int .i64 1, .int .i64 0, .int .i64 2, .int .i64 1, .int .i64 2, .int .i64 0, .int .i64 2, .int .i64 0, .int .i64 1, .int .i64 2, .int .i64 1, .int .i64 0]) (.int .i64 5)) w = .ok (.agg #[.int .i64 2, .int .i64 1, .int .i64 0]) w := by
 have u := Tryd.underlying128
 have z := Tryd.sizeOf113
 have g := Tryd.isAgg113
 unfold Instr.index
 go_simp
set_option maxRecDepth 100000 in
theorem idxO {k : Nat} (h : k < 6) (w : World) : Sem.run Tryd.prog (Instr.index 128 (.agg #[.int .i64 0, .int .i64 1, .int .i64 2, .int .i64 0, .int .i64 2, .int .i64 1, .int .i64 1, .int .i64 0, .int .i64 2, .int .i64 1, .int .i64 2, .int .i64 0, .int .i64 2, .int .i64 0, .int .i64 1, .int .i64 2, .int .i64 1, .int .i64 0]) (.int .i64 (k : Int))) w = .ok (.agg #[.int .i64 (oN k 0), .int .i64 (oN k 1), .int .i64 (oN k 2)]) w := by
 rcases (show k = 0 ∨ k = 1 ∨ k = 2 ∨ k = 3 ∨ k = 4 ∨ k = 5 by omega) with rfl | rfl | rfl | rfl | rfl | rfl
 ·
  exact idxO0 w
 ·
  exact idxO1 w
 ·
  exact idxO2 w
 ·
  exact idxO3 w
 ·
  exact idxO4 w
 ·
  exact idxO5 w
theorem ints_three {w : World} {b : Nat} {x y z : Int} {t : TypeId} (h : w.heap[b]? = some (.cells #[.int .i64 x, .int .i64 y, .int .i64 z] t (0, 0))) : Ints w (.slice (some ⟨b, 0, none⟩) 3 3) [x, y, z] := by
 refine Or.inr ⟨b, 0, 3, rfl, Nat.le_refl _, (Array.getElem?_eq_some_iff.1 h).1, fun j hj => ?_⟩
 rw [Nat.zero_add, cell_of_row w b j _ _ _ h]
 match j, hj with
 | 0, _ => rfl
 | 1, _ => rfl
 | 2, _ => rfl
set_option maxHeartbeats 16000000 in
set_option maxRecDepth 100000 in
theorem implOrderOf (ov : Value) (os : List Int) (w : World) (h : Ints w ov os) (hn : os.length ≤ 1048576) (ht : OrdT w) :
  Calls Tryd.prog 82 #[ov] w fun e w' => ((orderB os = true ∧ e = .returned (.tuple #[.agg #[.int .i64 (os.getD 0 0), .int .i64 (os.getD 1 0), .int .i64 (os.getD 2 0)], .bool true])) ∨ (orderB os = false ∧ e = .returned (.tuple #[.agg #[.int .i64 0, .int .i64 0, .int .i64 0], .bool false]))) ∧ Below w.heap.size w w' := by
 obtain ⟨oa, oc, rfl⟩ := ints_len h
 have H := Lib.hid h
 have HN := Lib.hid hn
 have hal : Below w.heap.size w (w.alloc (.cells #[.int .i64 0, .int .i64 0, .int .i64 0] 113)) := (Below.refl _ _).alloc (Nat.le_refl _) _
 have B0 : Hid ((w.alloc (.cells #[.int .i64 0, .int .i64 0, .int .i64 0] 113)).heap[w.heap.size]? = some (.cells #[.int .i64 0, .int .i64 0, .int .i64 0] 113 (0, 0))) := Lib.hid (heap_alloc_new w _)
 have Y0 : Hid (w.heap.size < (w.alloc (.cells #[.int .i64 0, .int .i64 0, .int .i64 0] 113)).heap.size) := Lib.hid (by simp)
 have T0 := ht.on hal
 have d := Lib.hid hal
 clear h hn ht hal
 have t0 : (w.alloc (.cells #[.int .i64 0, .int .i64 0, .int .i64 0] 113)).cell? ⟨0, 0, none⟩ = some (.int .i64 0) := T0 0 (by omega)
 have t1 : (w.alloc (.cells #[.int .i64 0, .int .i64 0, .int .i64 0] 113)).cell? ⟨0, 1, none⟩ = some (.int .i64 1) := T0 1 (by omega)
 have t2 : (w.alloc (.cells #[.int .i64 0, .int .i64 0, .int .i64 0] 113)).cell? ⟨0, 2, none⟩ = some (.int .i64 2) := T0 2 (by omega)
 have t3 : (w.alloc (.cells #[.int .i64 0, .int .i64 0, .int .i64 0] 113)).cell? ⟨0, 3, none⟩ = some (.int .i64 0) := T0 3 (by omega)
 have t4 : (w.alloc (.cells #[.int .i64 0, .int .i64 0, .int .i64 0] 113)).cell? ⟨0, 4, none⟩ = some (.int .i64 2) := T0 4 (by omega)
 have t5 : (w.alloc (.cells #[.int .i64 0, .int .i64 0, .int .i64 0] 113)).cell? ⟨0, 5, none⟩ = some (.int .i64 1) := T0 5 (by omega)
 have t6 : (w.alloc (.cells #[.int .i64 0, .int .i64 0, .int .i64 0] 113)).cell? ⟨0, 6, none⟩ = some (.int .i64 1) := T0 6 (by omega)
 have t7 : (w.alloc (.cells #[.int .i64 0, .int .i64 0, .int .i64 0] 113)).cell? ⟨0, 7, none⟩ = some (.int .i64 0) := T0 7 (by omega)
 have t8 : (w.alloc (.cells #[.int .i64 0, .int .i64 0, .int .i64 0] 113)).cell? ⟨0, 8, none⟩ = some (.int .i64 2) := T0 8 (by omega)
 have t9 : (w.alloc (.cells #[.int .i64 0, .int .i64 0, .int .i64 0] 113)).cell? ⟨0, 9, none⟩ = some (.int .i64 1) := T0 9 (by omega)
 have t10 : (w.alloc (.cells #[.int .i64 0, .int .i64 0, .int .i64 0] 113)).cell? ⟨0, 10, none⟩ = some (.int .i64 2) := T0 10 (by omega)
 have t11 : (w.alloc (.cells #[.int .i64 0, .int .i64 0, .int .i64 0] 113)).cell? ⟨0, 11, none⟩ = some (.int .i64 0) := T0 11 (by omega)
 have t12 : (w.alloc (.cells #[.int .i64 0, .int .i64 0, .int .i64 0] 113)).cell? ⟨0, 12, none⟩ = some (.int .i64 2) := T0 12 (by omega)
 have t13 : (w.alloc (.cells #[.int .i64 0, .int .i64 0, .int .i64 0] 113)).cell? ⟨0, 13, none⟩ = some (.int .i64 0) := T0 13 (by omega)
 have t14 : (w.alloc (.cells #[.int .i64 0, .int .i64 0, .int .i64 0] 113)).cell? ⟨0, 14, none⟩ = some (.int .i64 1) := T0 14 (by omega)
 have t15 : (w.alloc (.cells #[.int .i64 0, .int .i64 0, .int .i64 0] 113)).cell? ⟨0, 15, none⟩ = some (.int .i64 2) := T0 15 (by omega)
 have t16 : (w.alloc (.cells #[.int .i64 0, .int .i64 0, .int .i64 0] 113)).cell? ⟨0, 16, none⟩ = some (.int .i64 1) := T0 16 (by omega)
 have t17 : (w.alloc (.cells #[.int .i64 0, .int .i64 0, .int .i64 0] 113)).cell? ⟨0, 17, none⟩ = some (.int .i64 0) := T0 17 (by omega)
 clear T0
 go_enter Tryd.func82, Tryd.ntmps82
 go_wp2
 generalize w.alloc (.cells #[.int .i64 0, .int .i64 0, .int .i64 0] 113) = W at *
 clear t0 t1 t2 t3 t4 t5 t6 t7 t8 t9 t10 t11 t12 t13 t14 t15 t16 t17
 go_loopw [7] (fun i wr => ∃ k : Nat, k ≤ 6 ∧ i = .int .i64 k ∧ Hid (∀ j, j < k → ¬ [oN j 0, oN j 1, oN j 2] = os) ∧ Hid (wr.heap[w.heap.size]? = some (.cells #[.int .i64 0, .int .i64 0, .int .i64 0] 113 (0, 0))) ∧ Hid (Below w.heap.size w wr) ∧ Hid (w.heap.size < wr.heap.size)) (fun i _ => 6 - (intOf i).toNat)
 case atStart => exact ⟨0, Nat.zero_le _, rfl, Lib.hid (fun j hj => by omega), B0, d, Y0⟩
 case round =>
  clear B0 d Y0
  obtain ⟨k, hk, rfl, hno, B0, d, Y0⟩ := hrel
  by_cases hlt : k < 6
  ·
   have hI := idxO hlt
   have HIN := Lib.hid (oN_in hlt)
   have i1 : (0 : Int) ≤ (k : Int) := by omega
   have i2 : (k : Int) < 6 := by omega
   have HST : Hid (¬ [oN k 0, oN k 1, oN k 2] = os → ∀ j, j < k + 1 → ¬ [oN j 0, oN j 1, oN j 2] = os) := Lib.hid (fun he j hj => by
    by_cases e : j = k
    ·
     exact e ▸ he
    ·
     exact hno.out j (by omega))
   clear hno
   generalize oN k 0 = x at *
   generalize oN k 1 = y at *
   generalize oN k 2 = z at *
   have hal : Below wr.heap.size wr (wr.alloc (.cells #[.int .i64 x, .int .i64 y, .int .i64 z] 113)) := (Below.refl _ _).alloc (Nat.le_refl _) _
   have B1 : Hid ((wr.alloc (.cells #[.int .i64 x, .int .i64 y, .int .i64 z] 113)).heap[wr.heap.size]? = some (.cells #[.int .i64 x, .int .i64 y, .int .i64 z] 113 (0, 0))) := Lib.hid (heap_alloc_new wr _)
   have HQ := Lib.hid (fun w h g => equalInts_any (.slice (some ⟨wr.heap.size, 0, none⟩) 3 3) (.slice oa os.length oc) [x, y, z] os w h g (by show 3 ≤ 1048576; decide) HN.out)
   by_cases he : [x, y, z] = os
   ·
    rw [decide_eq_true he] at HQ
    have HE := Lib.hid he
    clear he HST
    go_wp2_with fail
    generalize wr.alloc (.cells #[.int .i64 x, .int .i64 y, .int .i64 z] 113) = W2 at *
    have d2 := Lib.hid (d.out.trans (hal.mono d.out.size))
    refine (HQ.out W2 (ints_three B1.out) (ints_below H.out d2.out)).mono ?_
    rintro e w3 ⟨rfl, c3⟩
    have B1' := (c3.block wr.heap.size (Array.getElem?_eq_some_iff.1 B1.out).1).trans B1.out
    have B0' := (c3.block w.heap.size (by have := Y0.out; have := hal.size; omega)).trans ((hal.block w.heap.size Y0.out).trans B0.out)
    have d3 := d2.out.trans (c3.mono d2.out.size)
    have p0 := (cell_of_row w3 _ 0 _ _ _ B1').trans (show _ = some (Value.int .i64 x) from rfl)
    have p1 := (cell_of_row w3 _ 1 _ _ _ B1').trans (show _ = some (Value.int .i64 y) from rfl)
    have p2 := (cell_of_row w3 _ 2 _ _ _ B1').trans (show _ = some (Value.int .i64 z) from rfl)
    have q0 := (cell_of_row w3 _ 0 _ _ _ B0').trans (show _ = some (Value.int .i64 0) from rfl)
    have q1 := (cell_of_row w3 _ 1 _ _ _ B0').trans (show _ = some (Value.int .i64 0) from rfl)
    have q2 := (cell_of_row w3 _ 2 _ _ _ B0').trans (show _ = some (Value.int .i64 0) from rfl)
    have f0 := frozen_of_row w3 _ 0 _ _ B0'
    have f1 := frozen_of_row w3 _ 1 _ _ B0'
    have f2 := frozen_of_row w3 _ 2 _ _ B0'
    have D := Lib.hid (((d3.setCell (p := ⟨w.heap.size, 0, none⟩) (Nat.le_refl _) (.int .i64 x)).setCell (p := ⟨w.heap.size, 1, none⟩) (Nat.le_refl _) (.int .i64 y)).setCell (p := ⟨w.heap.size, 2, none⟩) (Nat.le_refl _) (.int .i64 z))
    have r := heap_setCell_same _ w.heap.size 2 _ _ (.int .i64 z) (heap_setCell_same _ w.heap.size 1 _ _ (.int .i64 y) (heap_setCell_same w3 w.heap.size 0 _ _ (.int .i64 x) B0'))
    simp at r
    have e0 := (cell_of_row _ w.heap.size 0 _ _ _ r).trans (show _ = some (Value.int .i64 x) from rfl)
    have e1 := (cell_of_row _ w.heap.size 1 _ _ _ r).trans (show _ = some (Value.int .i64 y) from rfl)
    have e2 := (cell_of_row _ w.heap.size 2 _ _ _ r).trans (show _ = some (Value.int .i64 z) from rfl)
    clear r d3 c3 B0' B1' hal
    go_wp2
    refine bodyPost_ret (v := .tuple #[.agg #[.int .i64 x, .int .i64 y, .int .i64 z], .bool true]) ?_ rfl ?_
    ·
     simp [results, Tryd.f82, go_sem, e0, e1, e2]
    ·
     have he := HE.out
     subst he
     exact ⟨Or.inl ⟨HIN.out, rfl⟩, D.out⟩
   ·
    rw [decide_eq_false he] at HQ
    have HA := Lib.hid (HST.out he)
    clear he HST
    go_wp2_with fail
    generalize wr.alloc (.cells #[.int .i64 x, .int .i64 y, .int .i64 z] 113) = W2 at *
    have d2 := Lib.hid (d.out.trans (hal.mono d.out.size))
    refine (HQ.out W2 (ints_three B1.out) (ints_below H.out d2.out)).mono ?_
    rintro e w3 ⟨rfl, c3⟩
    have B0' := Lib.hid ((c3.block w.heap.size (by have := Y0.out; have := hal.size; omega)).trans ((hal.block w.heap.size Y0.out).trans B0.out))
    have d3 := Lib.hid (d2.out.trans (c3.mono d2.out.size))
    have Y3 : Hid (w.heap.size < w3.heap.size) := Lib.hid (by have := Y0.out; have := hal.size; have := c3.size; omega)
    clear c3 hal B1 hI
    go_wp2
    go_roundw
    case rel => exact ⟨k + 1, by omega, by go_num, HA, B0', d3, Y3⟩
    case measure => simp [intOf]; omega
  ·
   obtain rfl : k = 6 := by omega
   have HF := Lib.hid (order_all6 hno.out)
   clear hno
   have q0 := (cell_of_row wr _ 0 _ _ _ B0.out).trans (show _ = some (Value.int .i64 0) from rfl)
   have q1 := (cell_of_row wr _ 1 _ _ _ B0.out).trans (show _ = some (Value.int .i64 0) from rfl)
   have q2 := (cell_of_row wr _ 2 _ _ _ B0.out).trans (show _ = some (Value.int .i64 0) from rfl)
   have f0 := frozen_of_row wr _ 0 _ _ B0.out
   have f1 := frozen_of_row wr _ 1 _ _ B0.out
   have f2 := frozen_of_row wr _ 2 _ _ B0.out
   have D := Lib.hid (((d.out.setCell (p := ⟨w.heap.size, 0, none⟩) (Nat.le_refl _) (.int .i64 0)).setCell (p := ⟨w.heap.size, 1, none⟩) (Nat.le_refl _) (.int .i64 0)).setCell (p := ⟨w.heap.size, 2, none⟩) (Nat.le_refl _) (.int .i64 0))
   have r := heap_setCell_same _ w.heap.size 2 _ _ (.int .i64 0) (heap_setCell_same _ w.heap.size 1 _ _ (.int .i64 0) (heap_setCell_same wr w.heap.size 0 _ _ (.int .i64 0) B0.out))
   simp at r
   have e0 := (cell_of_row _ w.heap.size 0 _ _ _ r).trans (show _ = some (Value.int .i64 0) from rfl)
   have e1 := (cell_of_row _ w.heap.size 1 _ _ _ r).trans (show _ = some (Value.int .i64 0) from rfl)
   have e2 := (cell_of_row _ w.heap.size 2 _ _ _ r).trans (show _ = some (Value.int .i64 0) from rfl)
   clear r
   go_wp2
   refine bodyPost_ret (v := .tuple #[.agg #[.int .i64 0, .int .i64 0, .int .i64 0], .bool false]) ?_ rfl ?_
   ·
    simp [results, Tryd.f82, go_sem, e0, e1, e2]
   ·
    exact ⟨Or.inr ⟨HF.out, rfl⟩, D.out⟩
end Go.Proofs.YtededfficggkaaaDoor
