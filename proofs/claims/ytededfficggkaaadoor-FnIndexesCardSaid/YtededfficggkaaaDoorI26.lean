/-
 Texts of the proof, merged: SpansMath, IdxMath2.
-/
import Derived.Test.YtededfficggkaaaDoorI5
import Derived.Test.YtededfficggkaaaDoorI7
import Derived.Test.YtededfficggkaaaDoorI10
namespace Go.Proofs.YtededfficggkaaaDoor
open Go.RowKit
set_option linter.unusedVariables false
set_option linter.unusedSimpArgs false
/-- The spans x tell the values of F from 0 to n - 1. -/
structure Tells (F : Int → List Int) (n : Nat) (x : List SpanD) : Prop where
 pos : 0 < x.length
 first : (x.getD 0 p0D).1 = 0
 last : (x.getD (x.length - 1) p0D).2.1 = (n : Int) - 1
 order : ∀ i, i < x.length → (x.getD i p0D).1 ≤ (x.getD i p0D).2.1
 next : ∀ i, i + 1 < x.length → (x.getD (i + 1) p0D).1 = (x.getD i p0D).2.1 + 1
 differ : ∀ i, i + 1 < x.length → ¬ (x.getD (i + 1) p0D).2.2 = (x.getD i p0D).2.2
 same : ∀ i, i < x.length → ∀ v, (x.getD i p0D).1 ≤ v → v ≤ (x.getD i p0D).2.1 → F v = (x.getD i p0D).2.2
theorem getD_set_p {l : List SpanD} {j : Nat} (hj : j < l.length) (r : SpanD) : (l.set j r).getD j p0D = r := by simp [List.getD, hj]
theorem getD_set_p_ne {l : List SpanD} {i j : Nat} (h : i ≠ j) (r : SpanD) : (l.set j r).getD i p0D = l.getD i p0D := by
 simp only [List.getD]; rw [List.getElem?_set_ne (Ne.symm h)]
theorem getD_app_p {l : List SpanD} {i : Nat} (h : i < l.length) (r : SpanD) : (l ++ [r]).getD i p0D = l.getD i p0D := by simp [List.getD, List.getElem?_append_left h]
theorem getD_new_p (l : List SpanD) (r : SpanD) : (l ++ [r]).getD l.length p0D = r := by simp [List.getD]
theorem tells_one (F : Int → List Int) : Tells F 1 (stepP [] 0 (F 0)) := by
 have e : stepP [] 0 (F 0) = [(0, 0, F 0)] := by simp [stepP]
 rw [e]
 refine ⟨by simp, rfl, rfl, ?_, ?_, ?_, ?_⟩
 ·
  intro i hi; simp at hi; subst hi; exact Int.le_refl _
 ·
  intro i hi; simp at hi
 ·
  intro i hi; simp at hi
 ·
  intro i hi v h1 h2
  simp at hi; subst hi
  have : v = 0 := by
   have h1' : (0 : Int) ≤ v := h1
   have h2' : v ≤ (0 : Int) := h2
   omega
  subst this; rfl
theorem tells_step {F : Int → List Int} {n : Nat} {x : List SpanD} (h : Tells F n x) : Tells F (n + 1) (stepP x (n : Int) (F n)) := by
 have hp := h.pos
 have hlast := h.last
 have hord := h.order (x.length - 1) (by omega)
 unfold stepP
 split
 ·
  next c =>
  obtain ⟨_, c⟩ := c
  have hl : x.length - 1 < x.length := by omega
  have key : ∀ i, i < x.length → (((x.set (x.length - 1) ((x.getD (x.length - 1) p0D).1, (n : Int), (x.getD (x.length - 1) p0D).2.2)).getD i p0D).1 = (x.getD i p0D).1 ∧
    ((x.set (x.length - 1) ((x.getD (x.length - 1) p0D).1, (n : Int), (x.getD (x.length - 1) p0D).2.2)).getD i p0D).2.2 = (x.getD i p0D).2.2 ∧
    ((x.set (x.length - 1) ((x.getD (x.length - 1) p0D).1, (n : Int), (x.getD (x.length - 1) p0D).2.2)).getD i p0D).2.1 = if i = x.length - 1 then (n : Int) else (x.getD i p0D).2.1) := by
   intro i hi
   by_cases e : i = x.length - 1
   ·
    subst e
    rw [getD_set_p hl]; simp
   ·
    rw [getD_set_p_ne e]; simp [e]
  generalize hy : x.set (x.length - 1) ((x.getD (x.length - 1) p0D).1, (n : Int), (x.getD (x.length - 1) p0D).2.2) = y at key
  have hyl : y.length = x.length := by rw [← hy, List.length_set]
  refine ⟨by omega, ?_, ?_, ?_, ?_, ?_, ?_⟩
  ·
   rw [(key 0 hp).1]; exact h.first
  ·
   rw [hyl, (key _ hl).2.2, if_pos rfl]; omega
  ·
   intro i hi
   rw [hyl] at hi
   rw [(key i hi).1, (key i hi).2.2]
   split
   ·
    next e => subst e; omega
   ·
    exact h.order i hi
  ·
   intro i hi
   rw [hyl] at hi
   rw [(key (i + 1) hi).1, (key i (by omega)).2.2, if_neg (by omega)]
   exact h.next i hi
  ·
   intro i hi
   rw [hyl] at hi
   rw [(key (i + 1) hi).2.1, (key i (by omega)).2.1]
   exact h.differ i hi
  ·
   intro i hi v h1 h2
   rw [hyl] at hi
   rw [(key i hi).1] at h1
   rw [(key i hi).2.2] at h2
   rw [(key i hi).2.1]
   split at h2
   ·
    next e =>
    by_cases ev : v = (n : Int)
    ·
     subst ev; rw [e]; exact c.symm
    ·
     exact h.same i hi v h1 (by rw [e, hlast]; omega)
   ·
    exact h.same i hi v h1 h2
 ·
  next c =>
  have c' : ¬ (x.getD (x.length - 1) p0D).2.2 = F n := fun g => c ⟨hp, g⟩
  have hyl : (x ++ [((n : Int), (n : Int), F n)]).length = x.length + 1 := by simp
  refine ⟨by omega, ?_, ?_, ?_, ?_, ?_, ?_⟩
  ·
   rw [getD_app_p hp]; exact h.first
  ·
   rw [hyl, Nat.add_sub_cancel, getD_new_p]; simp
  ·
   intro i hi
   rw [hyl] at hi
   by_cases e : i = x.length
   ·
    subst e; rw [getD_new_p]; exact Int.le_refl _
   ·
    rw [getD_app_p (by omega)]; exact h.order i (by omega)
  ·
   intro i hi
   rw [hyl] at hi
   by_cases e : i + 1 = x.length
   ·
    rw [e, getD_new_p, getD_app_p (by omega), show i = x.length - 1 by omega, hlast]
    show (n : Int) = _
    omega
   ·
    rw [getD_app_p (by omega), getD_app_p (by omega)]; exact h.next i (by omega)
  ·
   intro i hi
   rw [hyl] at hi
   by_cases e : i + 1 = x.length
   ·
    rw [e, getD_new_p, getD_app_p (by omega), show i = x.length - 1 by omega]
    exact fun g => c' g.symm
   ·
    rw [getD_app_p (by omega), getD_app_p (by omega)]; exact h.differ i (by omega)
  ·
   intro i hi v h1 h2
   rw [hyl] at hi
   by_cases e : i = x.length
   ·
    subst e
    rw [getD_new_p] at h1 h2 ⊢
    have h1' : (n : Int) ≤ v := h1
    have h2' : v ≤ (n : Int) := h2
    have : v = (n : Int) := by omega
    subst this; rfl
   ·
    rw [getD_app_p (by omega)] at h1 h2 ⊢
    exact h.same i (by omega) v h1 h2
theorem tells_all (F : Int → List Int) : ∀ n, Tells F (n + 1) (spansTo F (n + 1))
 | 0 => tells_one F
 | n + 1 => tells_step (tells_all F n)
theorem tells_find {F : Int → List Int} {n : Nat} {x : List SpanD} (h : Tells F n x) {v : Int} (h0 : 0 ≤ v) (h1 : v ≤ (n : Int) - 1) : findL x v = F v := by
 have ex : ∀ m, m ≤ x.length → (∀ j, j < m → (x.getD j p0D).2.1 < v) ∨ ∃ k, k < x.length ∧ v ≤ (x.getD k p0D).2.1 ∧ ∀ j, j < k → (x.getD j p0D).2.1 < v := by
  intro m
  induction m with
  | zero => intro _; exact Or.inl (fun j hj => by omega)
  | succ m ih =>
   intro hm
   rcases ih (by omega) with g | g
   ·
    by_cases c : v ≤ (x.getD m p0D).2.1
    ·
     exact Or.inr ⟨m, by omega, c, g⟩
    ·
     refine Or.inl (fun j hj => ?_)
     by_cases e : j = m
     ·
      subst e; omega
     ·
      exact g j (by omega)
   ·
    exact Or.inr g
 have hp := h.pos
 rcases ex x.length (Nat.le_refl _) with g | ⟨k, hk, hle, hlow⟩
 ·
  have := g (x.length - 1) (by omega)
  have := h.last
  omega
 ·
  have hfrom : (x.getD k p0D).1 ≤ v := by
   by_cases e : k = 0
   ·
    subst e; rw [h.first]; exact h0
   ·
    have h2 := h.next (k - 1) (by omega)
    have h3 := hlow (k - 1) (by omega)
    rw [show k - 1 + 1 = k by omega] at h2
    omega
  rw [find_at hk (fun j hj => by have := hlow j hj; unfold hitB; rw [decide_eq_false (by omega)]) (by unfold hitB; rw [decide_eq_true ⟨hfrom, hle⟩])]
  exact (h.same k hk v hfrom hle).symm
theorem are_pair {qs : List QD} (h : areQB qs = true) : qs.Pairwise (fun a b => a.1 < b.1) := by
 unfold areQB at h
 rw [Bool.and_eq_true, List.all_eq_true] at h
 have hs : ∀ j, j + 1 < qs.length → (qs.getD j q0D).1 < (qs.getD (j + 1) q0D).1 := by
  intro j hj
  have := h.1 (j + 1) (List.mem_range.2 hj)
  simp only [Bool.and_eq_true, Bool.or_eq_true, decide_eq_true_eq, Nat.add_sub_cancel] at this
  exact this.2.resolve_left (by omega)
 have hm : ∀ d i, i + d + 1 < qs.length → (qs.getD i q0D).1 < (qs.getD (i + d + 1) q0D).1 := by
  intro d
  induction d with
  | zero => intro i hi; exact hs i hi
  | succ d ih => intro i hi; exact Int.lt_trans (ih i (by omega)) (hs (i + d + 1) (by omega))
 rw [List.pairwise_iff_getElem]
 intro i j hi hj hij
 have := hm (j - i - 1) i (by omega)
 have e : i + (j - i - 1) + 1 = j := by omega
 rw [e] at this
 simpa [List.getD, hi, hj] using this
theorem ids_inj {qs : List QD} (h : qs.Pairwise (fun a b => a.1 < b.1)) {a b : QD} (ha : a ∈ qs) (hb : b ∈ qs) (e : a.1 = b.1) : a = b := by
 rw [List.pairwise_iff_getElem] at h
 obtain ⟨i, hi, rfl⟩ := List.getElem_of_mem ha
 obtain ⟨j, hj, rfl⟩ := List.getElem_of_mem hb
 rcases Nat.lt_trichotomy i j with hij | rfl | hij
 ·
  have := h i j hi hj hij; omega
 ·
  rfl
 ·
  have := h j i hj hi hij; omega
theorem set_ids {qs : List QD} (h : areQB qs = true) (p : QD → Bool) : setB ((qs.filter p).map (·.1)) = true := by
 have hp : ((qs.filter p).map (·.1)).Pairwise (fun a b : Int => a < b) := by
  rw [List.pairwise_map]
  exact (are_pair h).filter p
 rw [List.pairwise_iff_getElem] at hp
 rw [setB_iff]
 refine ⟨fun i hi => ?_, fun i hi => ?_⟩
 ·
  have hm : ((qs.filter p).map (·.1)).getD i 0 ∈ (qs.filter p).map (·.1) := by
   have e : ((qs.filter p).map (·.1)).getD i 0 = ((qs.filter p).map (·.1))[i] := by simp only [List.getD, List.getElem?_eq_getElem hi, Option.getD_some]
   rw [e]; exact List.getElem_mem hi
  obtain ⟨q, hq, e⟩ := List.mem_map.1 hm
  have h1 := areQ_at h (List.mem_filter.1 hq).1
  unfold qB queryB at h1
  simp only [Bool.and_eq_true, decide_eq_true_eq] at h1
  rw [← e]
  exact h1.2.1
 ·
  have h1 := hp i (i + 1) (by omega) hi (by omega)
  have hi' : i < ((qs.filter p).map (·.1)).length := by omega
  simp only [List.getD, List.getElem?_eq_getElem hi, List.getElem?_eq_getElem hi', Option.getD_some]
  exact h1
theorem meet_ids {qs : List QD} (h : areQB qs = true) (p r : QD → Bool) : meetL ((qs.filter p).map (·.1)) ((qs.filter r).map (·.1)) = (qs.filter fun q => p q && r q).map (·.1) := by
 unfold meetL
 rw [set_ids h p, set_ids h r]
 simp only [Bool.and_self, if_true]
 rw [List.filter_map, List.filter_filter]
 congr 1
 apply List.filter_congr
 intro q hq
 have e : (decide (q.1 ∈ (qs.filter r).map (·.1))) = r q := by
  rw [Bool.eq_iff_iff, decide_eq_true_eq]
  constructor
  ·
   intro hm
   obtain ⟨q', h1, h2⟩ := List.mem_map.1 hm
   obtain ⟨h3, h4⟩ := List.mem_filter.1 h1
   rw [← ids_inj (are_pair h) h3 hq h2]; exact h4
  ·
   intro hr; exact List.mem_map.2 ⟨q, List.mem_filter.2 ⟨hq, hr⟩, rfl⟩
 show (decide (q.1 ∈ (qs.filter r).map (·.1)) && p q) = (p q && r q)
 rw [e, Bool.and_comm]
theorem find_fld {qs : List QD} (h : areQB qs = true) {f v : Int} (hf : 0 ≤ f ∧ f ≤ 2) (hv : 0 ≤ v ∧ v ≤ 99) : findL ((fldTo qs 3).getD f.toNat []) v = (qs.filter (admQ f v)).map (·.1) := by
 rw [fldTo_at qs (show f.toNat < 3 by omega)]
 have e : ((f.toNat : Nat) : Int) = f := by omega
 rw [e]
 have ef : okF f = true := by unfold okF; exact decide_eq_true hf
 have ev : okV v = true := by unfold okV; exact decide_eq_true hv
 unfold spansL
 rw [h, ef]
 simp only [Bool.and_self, if_true]
 rw [tells_find (tells_all (stabL qs f) 99) hv.1 (by omega)]
 unfold stabL
 rw [h, ef, ev]
 simp only [Bool.and_self, if_true]
theorem probe_set {qs : List QD} (h : areQB qs = true) {vs : List Int} (hv : ∀ f : Int, 0 ≤ f ∧ f ≤ 2 → 0 ≤ vs.getD f.toNat 0 ∧ vs.getD f.toNat 0 ≤ 99) : ∀ (os : List Int) (p : QD → Bool) (work : Int), (∀ f ∈ os, 0 ≤ f ∧ f ≤ 2) →
  (probeL (fldTo qs 3) vs os ((qs.filter p).map (·.1)) work).1 = (qs.filter fun q => p q && os.all fun f => admQ f (vs.getD f.toNat 0) q).map (·.1)
 | [], p, work, _ => by simp [probeL]
 | f :: os, p, work, ho => by
  unfold probeL
  split
  ·
   next hz =>
   have hz' : qs.filter p = [] := by simpa using hz
   have : (qs.filter fun q => p q && (f :: os).all fun f => admQ f (vs.getD f.toNat 0) q) = [] := by
    rw [List.filter_eq_nil_iff] at hz' ⊢
    intro q hq hc
    exact hz' q hq (Bool.and_eq_true _ _ |>.mp hc).1
   rw [this, hz']
  ·
   dsimp only
   have hf := ho f (List.mem_cons_self ..)
   rw [find_fld h hf (hv f hf), meet_ids h, probe_set h hv os _ _ (fun g hg => ho g (List.mem_cons_of_mem _ hg))]
   congr 2
   funext q
   rw [List.all_cons, Bool.and_assoc]
theorem order_mem {os : List Int} (h : orderB os = true) (f : Int) : f ∈ os ↔ f = 0 ∨ f = 1 ∨ f = 2 := by
 unfold orderB at h
 rw [Bool.and_eq_true, List.all_eq_true, decide_eq_true_eq] at h
 obtain ⟨hl, ha⟩ := h
 match os, hl with
 | [a, b, c], _ =>
  have h0 := ha 0 (List.mem_range.2 (by simp))
  have h1 := ha 1 (List.mem_range.2 (by simp))
  have h2 := ha 2 (List.mem_range.2 (by simp))
  simp at h0 h1 h2
  simp
  omega
theorem order_all {os : List Int} (h : orderB os = true) (p : Int → Bool) : os.all p = (p 0 && (p 1 && p 2)) := by
 rw [Bool.eq_iff_iff, List.all_eq_true]
 simp only [order_mem h, Bool.and_eq_true]
 constructor
 ·
  intro k; exact ⟨k 0 (Or.inl rfl), k 1 (Or.inr (Or.inl rfl)), k 2 (Or.inr (Or.inr rfl))⟩
 ·
  rintro ⟨k0, k1, k2⟩ f (rfl | rfl | rfl) <;> assumption
theorem row_vals {r : RowD} (h : rowB r = true) (f : Int) (hf : 0 ≤ f ∧ f ≤ 2) : 0 ≤ r.2.getD f.toNat 0 ∧ r.2.getD f.toNat 0 ≤ 99 := by
 unfold rowB at h
 simp only [Bool.and_eq_true, decide_eq_true_eq, List.all_eq_true] at h
 have hl : f.toNat < r.2.length := by omega
 have e : r.2.getD f.toNat 0 = r.2[f.toNat] := by simp [List.getD, hl]
 rw [e]
 exact h.2.1 _ (List.getElem_mem hl)
/-- The set of a probe: whose ranges all hold the row's values, whatever the order. -/
theorem probe_any {qs : List QD} {fs : List (List SpanD)} {r : RowD} {os : List Int} (hx : isIndexB qs fs = true) (hr : rowB r = true) (ho : orderB os = true) :
  (probeB qs fs r os).1 = (qs.filter fun q => admQ 0 (r.2.getD 0 0) q && (admQ 1 (r.2.getD 1 0) q && admQ 2 (r.2.getD 2 0) q)).map (·.1) := by
 obtain ⟨h1, rfl⟩ := idx_iff hx
 unfold probeB
 rw [hx, hr, ho]
 simp only [Bool.and_self, if_true]
 have e : allL qs = (qs.filter fun _ => true).map (·.1) := by unfold allL; rw [List.filter_eq_self.2 (fun _ _ => rfl)]
 rw [e, probe_set h1 (row_vals hr) os (fun _ => true) 0 (fun f hf => by have := (order_mem ho f).1 hf; omega)]
 congr 2
 funext q
 rw [order_all ho]
 rfl
theorem match_adm {q : QD} {r : RowD} (hq : qB q = true) (hr : rowB r = true) : (admQ 0 (r.2.getD 0 0) q && (admQ 1 (r.2.getD 1 0) q && admQ 2 (r.2.getD 2 0) q)) = matchB q.1 q.2.1 q.2.2.1 q.2.2.2 r := by
 unfold qB at hq
 unfold matchB
 rw [hr, hq]
 simp only [Bool.true_and]
 unfold admQ admB
 rw [Bool.eq_iff_iff]
 simp only [Bool.and_eq_true, List.all_eq_true]
 constructor
 ·
  rintro ⟨a0, a1, a2⟩ c hc
  have hf : 0 ≤ c.1 ∧ c.1 ≤ 2 := by
   obtain ⟨k, hk, rfl⟩ := List.getElem_of_mem hc
   have := query_conds hq hk
   have e : q.2.2.1.getD k c0D = q.2.2.1[k] := by simp [List.getD, hk]
   rw [e] at this
   exact this
  have hc3 : c.1 = 0 ∨ c.1 = 1 ∨ c.1 = 2 := by omega
  rcases hc3 with e | e | e
  ·
   have := a0 c hc
   unfold admC at this; unfold okC; rw [e]
   simpa [e] using this
  ·
   have := a1 c hc
   unfold admC at this; unfold okC; rw [e]
   simpa [e] using this
  ·
   have := a2 c hc
   unfold admC at this; unfold okC; rw [e]
   simpa [e] using this
 ·
  intro k
  refine ⟨fun c hc => ?_, fun c hc => ?_, fun c hc => ?_⟩
  ·
   have := k c hc
   unfold admC
   by_cases e : c.1 = 0
   ·
    unfold okC at this; rw [e] at this; simpa [e] using this
   ·
    simp [e]
  ·
   have := k c hc
   unfold admC
   by_cases e : c.1 = 1
   ·
    unfold okC at this; rw [e] at this; simpa [e] using this
   ·
    simp [e]
  ·
   have := k c hc
   unfold admC
   by_cases e : c.1 = 2
   ·
    unfold okC at this; rw [e] at this; simpa [e] using this
   ·
    simp [e]
/-- A query of a batch is in the set of a probe if and only if it matches the row. -/
theorem probe_has {qs : List QD} {fs : List (List SpanD)} {r : RowD} {os : List Int} (hx : isIndexB qs fs = true) (hr : rowB r = true) (ho : orderB os = true) {q : QD} (hq : q ∈ qs) :
  decide (q.1 ∈ (probeB qs fs r os).1) = matchB q.1 q.2.1 q.2.2.1 q.2.2.2 r := by
 have h1 := (idx_iff hx).1
 rw [probe_any hx hr ho, ← match_adm (areQ_at h1 hq) hr, Bool.eq_iff_iff, decide_eq_true_eq]
 constructor
 ·
  intro hm
  obtain ⟨q', h2, h3⟩ := List.mem_map.1 hm
  obtain ⟨h4, h5⟩ := List.mem_filter.1 h2
  rw [← ids_inj (are_pair h1) h4 hq h3]; exact h5
 ·
  intro h2; exact List.mem_map.2 ⟨q, List.mem_filter.2 ⟨hq, h2⟩, rfl⟩
/-- Work is done only at an index, a row and an order. -/
theorem probe_work {qs : List QD} {fs : List (List SpanD)} {r : RowD} {os : List Int} (h : 0 < (probeB qs fs r os).2) : isIndexB qs fs = true ∧ rowB r = true ∧ orderB os = true := by
 unfold probeB at h
 split at h
 ·
  next hc => simpa [Bool.and_eq_true] using hc
 ·
  exact absurd h (by decide)
theorem probe_same {qs : List QD} {fs : List (List SpanD)} {r : RowD} {os : List Int} (h : 0 < (probeB qs fs r os).2) : (probeB qs fs r os).1 = (probeB qs fs r [0, 1, 2]).1 := by
 obtain ⟨h1, h2, h3⟩ := probe_work h
 rw [probe_any h1 h2 h3, probe_any h1 h2 (by decide)]
theorem best_least (f : List Int → Int) : ∀ (l : List (List Int)) (best : List Int) (least : Int), (∀ o ∈ l, o.length ≠ 0) → (best.length ≠ 0 → least = f best) →
  (∀ o ∈ l, f (bestTo f l best least) ≤ f o) ∧ (best.length ≠ 0 → f (bestTo f l best least) ≤ f best)
 | [], best, least, _, _ => ⟨fun o ho => absurd ho (List.not_mem_nil), fun _ => Int.le_refl _⟩
 | o :: os, best, least, hl, hb => by
  have ho := hl o (List.mem_cons_self ..)
  have hl' : ∀ x ∈ os, x.length ≠ 0 := fun x hx => hl x (List.mem_cons_of_mem _ hx)
  unfold bestTo
  split
  ·
   next hc =>
   obtain ⟨k1, k2⟩ := best_least f os o (f o) hl' (fun _ => rfl)
   have k3 := k2 ho
   refine ⟨fun x hx => ?_, fun hbl => ?_⟩
   ·
    rcases List.mem_cons.1 hx with rfl | hx
    ·
     exact k3
    ·
     exact k1 x hx
   ·
    have := hb hbl
    rcases hc with hc | hc
    ·
     exact absurd hc hbl
    ·
     omega
  ·
   next hc =>
   obtain ⟨k1, k2⟩ := best_least f os best least hl' hb
   have hbl : best.length ≠ 0 := fun e => hc (Or.inl e)
   have hle : ¬ f o < least := fun e => hc (Or.inr e)
   have := hb hbl
   have k3 := k2 hbl
   refine ⟨fun x hx => ?_, fun _ => k3⟩
   rcases List.mem_cons.1 hx with rfl | hx
   ·
    omega
   ·
    exact k1 x hx
/-- No order has less work than the best. -/
theorem best_work {qs : List QD} {fs : List (List SpanD)} {rs : List RowD} (h : (bestL qs fs rs).length ≠ 0) {o : List Int} (ho : o ∈ ordersL) : workL qs fs rs (bestL qs fs rs) ≤ workL qs fs rs o := by
 have hx : isIndexB qs fs = true := by
  cases hc : isIndexB qs fs with
  | true => rfl
  | false => exact absurd (by unfold bestL; rw [hc]; rfl) h
 have e : bestL qs fs rs = bestTo (workL qs fs rs) ordersL [] 0 := by unfold bestL; rw [hx]; rfl
 rw [e]
 exact (best_least (workL qs fs rs) ordersL [] 0 (by decide) (fun hh => absurd rfl hh)).1 o ho
end Go.Proofs.YtededfficggkaaaDoor
