/-
  The mathematics of the queries that admit a value, and of the spans of a field.
-/
import Derived.Test.YteelgogfpidcdaaAdmitSpec
import Derived.Test.YteelgogfpidcdaaQueryAre
import Derived.Test.YteelgogfpidcdaaSpanSl
namespace Go.Proofs.Yteelgogfpidcdaa
open Go.RowKit
set_option linter.unusedVariables false
set_option linter.unusedSimpArgs false
def admQ (f v : Int) (q : QD) : Bool := admB q.2.2.1 f v
def okF (f : Int) : Bool := decide (0 ≤ f ∧ f ≤ 2)
def okV (v : Int) : Bool := decide (0 ≤ v ∧ v ≤ 99)
def stabL (a : List QD) (f v : Int) : List Int := if (areQB a && (okF f && okV v)) = true then (a.filter (admQ f v)).map (·.1) else []
def stepP (acc : List SpanD) (v : Int) (s : List Int) : List SpanD :=
  if 0 < acc.length ∧ (acc.getD (acc.length - 1) p0D).2.2 = s then acc.set (acc.length - 1) ((acc.getD (acc.length - 1) p0D).1, v, (acc.getD (acc.length - 1) p0D).2.2) else acc ++ [(v, v, s)]
def spansTo (F : Int → List Int) : Nat → List SpanD
  | 0 => []
  | n + 1 => stepP (spansTo F n) (n : Int) (F n)
def spansL (a : List QD) (f : Int) : List SpanD := if (areQB a && okF f) = true then spansTo (stabL a f) 100 else []
theorem areQ_len {a : List QD} (h : areQB a = true) : a.length ≤ 24 := by
  unfold areQB at h
  simp only [Bool.and_eq_true, decide_eq_true_eq] at h
  exact h.2
theorem areQ_at {a : List QD} (h : areQB a = true) {q : QD} (hq : q ∈ a) : qB q = true := by
  unfold areQB at h
  rw [Bool.and_eq_true, List.all_eq_true] at h
  obtain ⟨i, hi, rfl⟩ := List.getElem_of_mem hq
  have := h.1 i (List.mem_range.2 hi)
  rw [Bool.and_eq_true] at this
  have e : a.getD i q0D = a[i] := by simp [List.getD, hi]
  rw [e] at this
  exact this.1
theorem stabL_len (a : List QD) (f v : Int) : (stabL a f v).length ≤ 24 := by
  unfold stabL
  split
  · next h =>
    simp only [Bool.and_eq_true] at h
    rw [List.length_map]
    exact Nat.le_trans (List.length_filter_le _ _) (areQ_len h.1)
  · simp
theorem stepP_len (acc : List SpanD) (v : Int) (s : List Int) : (stepP acc v s).length ≤ acc.length + 1 := by
  unfold stepP
  split
  · rw [List.length_set]; omega
  · simp
theorem spansTo_len (F : Int → List Int) : ∀ n, (spansTo F n).length ≤ n
  | 0 => by simp [spansTo]
  | n + 1 => by
    have h1 := stepP_len (spansTo F n) n (F n)
    have h2 := spansTo_len F n
    unfold spansTo
    omega
theorem getD_mem {rs : List SpanD} {i : Nat} (h : i < rs.length) : rs.getD i p0D ∈ rs := by
  have e : rs.getD i p0D = rs[i] := by simp [List.getD, h]
  rw [e]; exact List.getElem_mem h
theorem spansTo_sets {F : Int → List Int} {M : Nat} (hF : ∀ v, (F v).length ≤ M) : ∀ n, ∀ r ∈ spansTo F n, r.2.2.length ≤ M
  | 0 => by simp [spansTo]
  | n + 1 => by
    have ih := spansTo_sets hF n
    intro r hr
    unfold spansTo stepP at hr
    split at hr
    · next c =>
      rcases List.mem_or_eq_of_mem_set hr with h | h
      · exact ih r h
      · subst h
        have h3 := ih _ (getD_mem (rs := spansTo F n) (i := (spansTo F n).length - 1) (by omega))
        exact h3
    · rw [List.mem_append, List.mem_singleton] at hr
      rcases hr with h | h
      · exact ih r h
      · subst h; exact hF _
theorem sum_le_of {M : Nat} : ∀ (l : List SpanD), (∀ r ∈ l, r.2.2.length ≤ M) → (l.map fun r => r.2.2.length).sum ≤ l.length * M
  | [], _ => by simp
  | r :: l, h => by
    have ih := sum_le_of l (fun x hx => h x (List.mem_cons_of_mem _ hx))
    have h0 := h r List.mem_cons_self
    simp only [List.map_cons, List.sum_cons, List.length_cons, Nat.add_mul, Nat.one_mul]
    omega
theorem spansTo_size {F : Int → List Int} (hF : ∀ v, (F v).length ≤ 24) {n : Nat} (hn : n ≤ 100) : zpL (spansTo F n) ≤ 2500 := by
  have h1 := spansTo_len F n
  have h2 := sum_le_of (spansTo F n) (spansTo_sets hF n)
  unfold zpL zpTo
  rw [List.take_length]
  have : (spansTo F n).length * 24 ≤ 100 * 24 := Nat.mul_le_mul_right _ (by omega)
  omega
theorem spansL_size (a : List QD) (f : Int) : zpL (spansL a f) ≤ 2500 := by
  unfold spansL
  split
  · exact spansTo_size (stabL_len a f) (Nat.le_refl _)
  · simp [zpL, zpTo]
/-- The first condition on the field, else all values. -/
def rangeC (cs : List CondD) (f : Int) : Int × Int :=
  match cs.find? (fun c => decide (c.1 = f)) with
  | some c => (c.2.1, c.2.2)
  | none => (0, 99)
theorem condsB_at {cs : List CondD} (h : condsB cs = true) {i : Nat} (hi : i < cs.length) : condB (cs.getD i c0D) = true ∧ (0 < i → (cs.getD (i - 1) c0D).1 < (cs.getD i c0D).1) := by
  unfold condsB at h
  rw [List.all_eq_true] at h
  have := h i (List.mem_range.2 hi)
  rw [Bool.and_eq_true, Bool.or_eq_true, decide_eq_true_eq, decide_eq_true_eq] at this
  refine ⟨this.1, fun h0 => ?_⟩
  rcases this.2 with e | e
  · omega
  · exact e
theorem conds_asc {cs : List CondD} (h : condsB cs = true) : ∀ j, j < cs.length → ∀ i, i < j → (cs.getD i c0D).1 < (cs.getD j c0D).1
  | 0, _, i, hi => by omega
  | j + 1, hj, i, hi => by
    have h1 := (condsB_at h hj).2 (by omega)
    rw [Nat.add_sub_cancel] at h1
    by_cases e : i = j
    · subst e; exact h1
    · have := conds_asc h j (by omega) i (by omega); omega
theorem conds_one {cs : List CondD} (h : condsB cs = true) {c d : CondD} (hc : c ∈ cs) (hd : d ∈ cs) (e : c.1 = d.1) : c = d := by
  obtain ⟨i, hi, rfl⟩ := List.getElem_of_mem hc
  obtain ⟨j, hj, rfl⟩ := List.getElem_of_mem hd
  have ei : cs.getD i c0D = cs[i] := by simp [List.getD, hi]
  have ej : cs.getD j c0D = cs[j] := by simp [List.getD, hj]
  have e1 := conds_asc h j hj i
  have e2 := conds_asc h i hi j
  rw [ei, ej] at e1 e2
  have : i = j := by
    rcases Nat.lt_trichotomy i j with l | l | l
    · have := e1 l; omega
    · exact l
    · have := e2 l; omega
  subst this; rfl
theorem adm_range {cs : List CondD} (h : condsB cs = true) (f : Int) {v : Int} (hv : 0 ≤ v ∧ v ≤ 99) : admB cs f v = decide ((rangeC cs f).1 ≤ v ∧ v ≤ (rangeC cs f).2) := by
  unfold rangeC
  cases hf : cs.find? (fun c => decide (c.1 = f)) with
  | none =>
    rw [List.find?_eq_none] at hf
    simp only [decide_eq_true_eq] at hf
    rw [decide_eq_true hv]
    unfold admB
    rw [List.all_eq_true]
    intro c hc
    simp [admC, hf c hc]
  | some c =>
    have hc := List.mem_of_find?_eq_some hf
    have he := List.find?_some hf
    rw [decide_eq_true_eq] at he
    simp only
    have hcv : admC f v c = decide (c.2.1 ≤ v ∧ v ≤ c.2.2) := by simp [admC, he]
    rw [← hcv]
    unfold admB
    cases hx : admC f v c with
    | false =>
      rw [Bool.eq_false_iff]
      intro g
      rw [List.all_eq_true] at g
      rw [g c hc] at hx
      exact Bool.noConfusion hx
    | true =>
      rw [List.all_eq_true]
      intro d hd
      by_cases e : d.1 = f
      · rw [conds_one h hd hc (e.trans he.symm)]; exact hx
      · simp [admC, e]
theorem qB_conds {q : QD} (h : qB q = true) : condsB q.2.2.1 = true := by
  unfold qB queryB at h
  simp only [Bool.and_eq_true] at h
  exact h.1
def inC (f v : Int) (q : QD) : Bool := decide ((rangeC q.2.2.1 f).1 ≤ v ∧ v ≤ (rangeC q.2.2.1 f).2)
/-- The program's side: the numbers of the queries whose range contains the value. -/
def valsL (a : List QD) (f v : Int) : List Int := (a.filter (inC f v)).map (·.1)
theorem valsL_eq {a : List QD} (h : areQB a = true) {f v : Int} (hf : 0 ≤ f ∧ f ≤ 2) (hv : 0 ≤ v ∧ v ≤ 99) : valsL a f v = stabL a f v := by
  unfold valsL stabL okF okV
  rw [h, decide_eq_true hf, decide_eq_true hv]
  simp only [Bool.and_self, if_true]
  congr 1
  refine List.filter_congr (fun q hq => ?_)
  exact (adm_range (qB_conds (areQ_at h hq)) f hv).symm
end Go.Proofs.Yteelgogfpidcdaa
