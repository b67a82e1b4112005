/-
 Texts of the proof, merged: QueryHold, QueriesDraw, QueryDrawV, QueriesDrawV, IdxDraw, IdxDraw2.
-/
import Derived.Test.YtededfficggkaaaDoorI2
import Derived.Test.YtededfficggkaaaDoorI5
import Derived.Test.YtededfficggkaaaDoorI8
import Derived.Test.YtededfficggkaaaDoorI9
import Derived.Test.YtededfficggkaaaDoorI10
import Derived.Test.YtededfficggkaaaDoorI16
import Derived.Test.YtededfficggkaaaDoorI17
namespace Go.Proofs.YtededfficggkaaaDoor
open Go.RowKit
set_option linter.unusedVariables false
set_option linter.unusedSimpArgs false
theorem info_query : ∃ i, Tryd.prog.info? 63 = some i ∧ i.zero = some (.agg #[.int .i64 0, .int .i64 0, .slice none 0 0, .slice none 0 0]) ∧ i.size = 4 ∧ i.bytes = 64 := by
 have h1 := Tryd.infoQuery
 cases e : Tryd.prog.info? 63 with
 | none => rw [e] at h1; simp at h1
 | some i => rw [e] at h1; simp at h1; exact ⟨i, rfl, h1.1, h1.2.1, h1.2.2⟩
/-- The cells of a slice of queries that the call made. -/
def QueriesC (w : World) (B : Nat) (v : Value) (n : Nat) (cs : List Value) : Prop := w.ownsRow B 63 4 v n cs
/-- 'append(x, ..)' of one query whose cells lie at ad. -/
theorem append_queries {w : World} {ops : Array Oper} {rest : List Oper} {o : Oper} {a : Act} {Q : Exit → Act → World → Prop} (hgd : o.guard = none) (s x : Operand)
  (ho : o.op = .call { callee := .builtin .append, args := #[s, x], argTypes := #[34, 34] })
  (B : Nat) (v : Value) (n : Nat) (cs : List Value) (hs : a.eval s = v) (hown : QueriesC w B v n cs) (hB : B ≤ w.heap.size)
  (ad : Addr) (m c : Nat) (news : List Value) (hx : a.eval x = .slice (some ad) m c) (hl : news.length = m * 4) (hnews : ∀ j u, news[j]? = some u → w.cell? (ad.add j) = some u) (h1 : ∀ u ∈ news, u.oneCell' = true) (h63 : n + m ≤ 2097152)
  (h : ∀ v' w', QueriesC w' B v' (n + m) (cs ++ news) → w.grownBy w' v.ownBlock → (v' = .slice none 0 0 ↔ v = .slice none 0 0 ∧ m = 0) → (v'.ownBlock = v.ownBlock ∨ v'.ownBlock = some w.heap.size) → wpList Tryd.prog ops Q rest (a.put o.dst v') w') : wpList Tryd.prog ops Q (o :: rest) a w := by
 obtain ⟨i0, hi, hz0, hz1, hz2⟩ := info_query
 exact wpList_append_own_at _ hgd s x 34 ho B 63 i0 (.agg #[.int .i64 0, .int .i64 0, .slice none 0 0, .slice none 0 0]) 4 64 Tryd.underlying34 hi hz0 hz1 hz2 rfl (by decide) v n cs hs hown ad m c news hx hl hnews h1 (by unfold maxLen; omega) (by omega) hB h
/-- The slice v owns the queries qs; what the queries hold lies beside it. -/
def HoldsQ (w : World) (B : Nat) (v : Value) (qs : List QD) : Prop :=
 ∃ (cs : List Value) (cv ov : Nat → Value), w.ownsRow B 63 4 v qs.length cs ∧
  ∀ j, j < qs.length → cs[j * 4]? = some (.int .i64 (qs.getD j q0D).1) ∧ cs[j * 4 + 1]? = some (.int .i64 (qs.getD j q0D).2.1) ∧ cs[j * 4 + 2]? = some (cv j) ∧ cs[j * 4 + 3]? = some (ov j) ∧
   OwnsC w B (cv j) (qs.getD j q0D).2.2.1 ∧ OwnsN w B (ov j) (qs.getD j q0D).2.2.2 ∧ (∀ b, (cv j).ownBlock = some b → v.ownBlock ≠ some b) ∧ (∀ b, (ov j).ownBlock = some b → v.ownBlock ≠ some b)
theorem holdsQ_empty (w : World) : HoldsQ (w.alloc (.cells #[] 63)) w.heap.size (.slice (some ⟨w.heap.size, 0, none⟩) 0 0) [] :=
 ⟨[], fun _ => .slice none 0 0, fun _ => .slice none 0 0, World.ownsRow_lit (e := 63) (size := 4) w #[] 0 (Nat.le_refl _) (by unfold maxLen; omega) rfl, fun j hj => by simp at hj⟩
theorem holdsQ_queries {w : World} {B : Nat} {v : Value} {qs : List QD} (h : HoldsQ w B v qs) : QueriesR w v qs := by
 obtain ⟨cs, cv, ov, h1, h2⟩ := h
 have h1' := h1
 rcases h1.2 with ⟨rfl, h0⟩ | ⟨g, cap, cur, rfl, hb, hg, hn, hm, hcs, htake⟩
 ·
  exact Or.inl ⟨List.eq_nil_of_length_eq_zero h0, none, 0, rfl⟩
 ·
  refine Or.inr ⟨g, 0, cap, cv, ov, rfl, hn, (Array.getElem?_eq_some_iff.1 hg).1, fun j hj => ?_⟩
  obtain ⟨g1, g2, g3, g4, g5, g6, _⟩ := h2 j hj
  refine ⟨?_, ?_, ?_, ?_, ownsC_conds g5, ownsN_ints g6⟩
  ·
   rw [Nat.zero_add, World.ownsRow.cellAt h1' (j * 4) (by omega)]; exact g1
  ·
   rw [Nat.zero_add, World.ownsRow.cellAt h1' (j * 4 + 1) (by omega)]; exact g2
  ·
   rw [Nat.zero_add, World.ownsRow.cellAt h1' (j * 4 + 2) (by omega)]; exact g3
  ·
   rw [Nat.zero_add, World.ownsRow.cellAt h1' (j * 4 + 3) (by omega)]; exact g4
theorem low_kept {w w' : World} {B c : Nat} {e : TypeId} {size : Nat} {v : Value} {n : Nat} {xs : List Value} (h : w.ownsRow B e size v n xs) (hg : w.grownBy w' (some c)) (hc : c < B) : w'.ownsRow B e size v n xs := by
 refine h.kept hg ?_
 cases hv : v.ownBlock with
 | none => exact Or.inl rfl
 | some k => exact Or.inr (by intro e; have := (h.lt k hv).1; simp at e; omega)
theorem holdsQ_grown {w w' : World} {B c : Nat} {v : Value} {qs : List QD} (h : HoldsQ w B v qs) (hg : w.grownBy w' (some c)) (hc : c < B) : HoldsQ w' B v qs := by
 obtain ⟨cs, cv, ov, h1, h2⟩ := h
 exact ⟨cs, cv, ov, low_kept h1 hg hc, fun j hj => by obtain ⟨g1, g2, g3, g4, g5, g6, g7, g8⟩ := h2 j hj; exact ⟨g1, g2, g3, g4, low_kept g5 hg hc, low_kept g6 hg hc, g7, g8⟩⟩
theorem apart_of {u v : Value} (h : ∀ b, u.ownBlock = some b → v.ownBlock ≠ some b) : u.ownBlock = none ∨ u.ownBlock ≠ v.ownBlock := by
 cases e : u.ownBlock with
 | none => exact Or.inl rfl
 | some b => exact Or.inr (fun q => h b e q.symm)
theorem up_row {w : World} {B C : Nat} {e : TypeId} {size : Nat} {v : Value} {n : Nat} {xs : List Value} (h : w.ownsRow C e size v n xs) (hb : B ≤ C) : w.ownsRow B e size v n xs := by
 refine ⟨h.1, ?_⟩
 rcases h.2 with hn | ⟨g, cap, cur, e, hb', rest⟩
 ·
  exact .inl hn
 ·
  exact .inr ⟨g, cap, cur, e, Nat.le_trans hb hb', rest⟩
theorem holdsQ_next {wa wb : World} {B c : Nat} {v cu ou : Value} {qs : List QD} {id tn : Int} {cs' : List CondD} {os' : List Int} (h : HoldsQ wa B v qs) (hg : wa.grownBy wb (some c)) (hc : c < B) (hB : B ≤ wa.heap.size)
  (hcu : OwnsC wb wa.heap.size cu cs') (hou : OwnsN wb wa.heap.size ou os') :
  ∃ cs, QueriesC wb B v qs.length cs ∧ ∀ wc wd v', Below wb.heap.size wb wc → wc.grownBy wd v.ownBlock → QueriesC wd B v' (qs.length + 1) (cs ++ [.int .i64 id, .int .i64 tn, cu, ou]) → (v'.ownBlock = v.ownBlock ∨ v'.ownBlock = some wc.heap.size) → HoldsQ wd B v' (qs ++ [(id, tn, cs', os')]) := by
 obtain ⟨cs, cv, ov, h1, h2⟩ := h
 have H1 : QueriesC wb B v qs.length cs := low_kept h1 hg hc
 refine ⟨cs, H1, fun wc wd v' hb hg' hx hat => ?_⟩
 have hcl : cs.length = qs.length * 4 := h1.1
 have hlen : (qs ++ [(id, tn, cs', os')]).length = qs.length + 1 := by simp
 have vlow : ∀ b, v.ownBlock = some b → b < wa.heap.size := fun b e => (h1.lt b e).2
 have clow : ∀ j, j < qs.length → ∀ b, (cv j).ownBlock = some b → b < wa.heap.size := fun j hj b e => ((h2 j hj).2.2.2.2.1.lt b e).2
 have olow : ∀ j, j < qs.length → ∀ b, (ov j).ownBlock = some b → b < wa.heap.size := fun j hj b e => ((h2 j hj).2.2.2.2.2.1.lt b e).2
 have hbc : wa.heap.size ≤ wc.heap.size := Nat.le_trans hg.size hb.size
 have newC : OwnsC wd wa.heap.size cu cs' := World.ownsRow.kept (ownsRow_below hcu hb) hg' (apart_of (fun b e q => by have := vlow b q; have := (hcu.lt b e).1; omega))
 have newN : OwnsN wd wa.heap.size ou os' := World.ownsRow.kept (ownsRow_below hou hb) hg' (apart_of (fun b e q => by have := vlow b q; have := (hou.lt b e).1; omega))
 refine ⟨cs ++ [.int .i64 id, .int .i64 tn, cu, ou], fun j => if j < qs.length then cv j else cu, fun j => if j < qs.length then ov j else ou, by rw [hlen]; exact hx, fun j hj => ?_⟩
 rw [hlen] at hj
 by_cases k : j < qs.length
 ·
  obtain ⟨g1, g2, g3, g4, g5, g6, g7, g8⟩ := h2 j k
  have ge : (qs ++ [(id, tn, cs', os')]).getD j q0D = qs.getD j q0D := by simp [List.getD, List.getElem?_append_left k]
  rw [ge, List.getElem?_append_left (by omega), List.getElem?_append_left (by omega), List.getElem?_append_left (by omega), List.getElem?_append_left (by omega)]
  simp only [if_pos k]
  refine ⟨g1, g2, g3, g4, World.ownsRow.kept (ownsRow_below (low_kept g5 hg hc) hb) hg' (apart_of g7), World.ownsRow.kept (ownsRow_below (low_kept g6 hg hc) hb) hg' (apart_of g8), fun b e q => ?_, fun b e q => ?_⟩
  ·
   rcases hat with h | h
   ·
    rw [h] at q; exact g7 b e q
   ·
    rw [h] at q; have := clow j k b e; have := Option.some.inj q; omega
  ·
   rcases hat with h | h
   ·
    rw [h] at q; exact g8 b e q
   ·
    rw [h] at q; have := olow j k b e; have := Option.some.inj q; omega
 ·
  obtain rfl : j = qs.length := by omega
  have ge : (qs ++ [(id, tn, cs', os')]).getD qs.length q0D = (id, tn, cs', os') := by simp [List.getD]
  rw [ge, List.getElem?_append_right (by omega), List.getElem?_append_right (by omega), List.getElem?_append_right (by omega), List.getElem?_append_right (by omega),
   show qs.length * 4 - cs.length = 0 by omega, show qs.length * 4 + 1 - cs.length = 1 by omega, show qs.length * 4 + 2 - cs.length = 2 by omega, show qs.length * 4 + 3 - cs.length = 3 by omega]
  simp only [if_neg k]
  refine ⟨rfl, rfl, rfl, rfl, up_row newC hB, up_row newN hB, fun b e q => ?_, fun b e q => ?_⟩
  ·
   rcases hat with h | h
   ·
    rw [h] at q; have := vlow b q; have := (newC.lt b e).1; omega
   ·
    rw [h] at q; have := (hcu.lt b e).2; have := hb.size; have := Option.some.inj q; omega
  ·
   rcases hat with h | h
   ·
    rw [h] at q; have := vlow b q; have := (newN.lt b e).1; omega
   ·
    rw [h] at q; have := (hou.lt b e).2; have := hb.size; have := Option.some.inj q; omega
theorem queriesC_kept {w w' : World} {B : Nat} {v : Value} {n : Nat} {cs : List Value} (h : QueriesC w B v n cs) (hb : Below w.heap.size w w') : QueriesC w' B v n cs := ownsRow_below h hb
theorem holdsQ_len {w : World} {B : Nat} {v : Value} {qs : List QD} (h : HoldsQ w B v qs) : ∃ a cap, v = .slice a qs.length cap := queriesR_len (holdsQ_queries h)
theorem condB_mk {f l h : Int} (f0 : 0 ≤ f) (f1 : f ≤ 2) (l0 : 0 ≤ l) (lh : l ≤ h) (h1 : h ≤ 99) : condB (f, l, h) = true := by
 unfold condB
 rw [decide_eq_true (And.intro f0 f1), decide_eq_true (And.intro l0 lh), decide_eq_true h1]
 rfl
/-- Valid conditions on fields that rise, all below k. -/
def CondRise (cs : List CondD) (k : Int) : Prop := (∀ q ∈ cs, condB q = true ∧ q.1 < k) ∧ cs.Pairwise (fun a b => a.1 < b.1)
theorem condRise_up {cs : List CondD} {k : Nat} (h : CondRise cs (k : Int)) : CondRise cs ((k + 1 : Nat) : Int) := ⟨fun q hq => ⟨(h.1 q hq).1, by have := (h.1 q hq).2; omega⟩, h.2⟩
theorem conds_snoc {cs : List CondD} {k : Nat} (h : CondRise cs (k : Int)) {l u : Int} (hn : condB ((k : Int), l, u) = true) : CondRise (cs ++ [(((k : Int), l, u) : CondD)]) ((k + 1 : Nat) : Int) := by
 refine ⟨fun q hq => ?_, ?_⟩
 ·
  rcases List.mem_append.1 hq with hq | hq
  ·
   exact (condRise_up h).1 q hq
  ·
   rw [List.mem_singleton.1 hq]
   exact ⟨hn, by show (k : Int) < ((k + 1 : Nat) : Int); omega⟩
 ·
  rw [List.pairwise_append]
  refine ⟨h.2, List.pairwise_singleton _ _, fun a ha b hb => ?_⟩
  rw [List.mem_singleton.1 hb]
  exact (h.1 a ha).2
theorem fields_snoc {os : List Int} (h : ∀ o ∈ os, 0 ≤ o ∧ o ≤ 2) {f : Int} (f0 : 0 ≤ f) (f1 : f ≤ 2) : ∀ o ∈ os ++ [f], 0 ≤ o ∧ o ≤ 2 := by
 intro q hq
 rcases List.mem_append.1 hq with hq | hq
 ·
  exact h q hq
 ·
  rw [List.mem_singleton.1 hq]; exact ⟨f0, f1⟩
theorem conds_are {cs : List CondD} {k : Int} (h : CondRise cs k) : condsB cs = true := by
 refine condsB_all ?_
 intro i hi
 have e : cs.getD i c0D = cs[i] := by simp [List.getD, hi]
 refine ⟨by rw [e]; exact (h.1 _ (List.getElem_mem hi)).1, fun h0 => ?_⟩
 have hi' : i - 1 < cs.length := by omega
 have e' : cs.getD (i - 1) c0D = cs[i - 1] := by simp [List.getD, hi']
 rw [e, e']
 exact (List.pairwise_iff_getElem.1 h.2) (i - 1) i hi' hi (by omega)
theorem fields_are {os : List Int} (h : ∀ o ∈ os, 0 ≤ o ∧ o ≤ 2) (h1 : 1 ≤ os.length) (h3 : os.length ≤ 3) : fieldsB os = true := by
 unfold fieldsB
 rw [Bool.and_eq_true, List.all_eq_true]
 exact ⟨fun o ho => decide_eq_true (h o ho), decide_eq_true ⟨h1, h3⟩⟩
/-- A valid query with the number id is drawn, in new memory. -/
def DrawnQV (w0 : World) (c : Nat) (v : Value) (xs : List Int) (w : World) (id : Int) (e : Ending) (w' : World) : Prop :=
 ∃ (tn : Int) (cs : List CondD) (os : List Int) (cv ov : Value), e = .returned (qV id tn cv ov) ∧ OwnsC w' w.heap.size cv cs ∧ OwnsN w' w.heap.size ov os ∧ ((0 ≤ tn ∧ tn ≤ 3) ∧ cs.length ≤ 3 ∧ condsB cs = true ∧ fieldsB os = true) ∧ (∀ b, cv.ownBlock = some b → ov.ownBlock ≠ some b) ∧ Dr w0 c v xs w w'
set_option maxHeartbeats 16000000 in
set_option maxRecDepth 100000 in
theorem query_drawnV (w0 : World) (c : Nat) (v : Value) (xs : List Int) (w : World) (hC : Cur w0 c v xs w) (id : Int) :
  Calls Tryd.prog 140 #[.pointer (some ⟨c, 0, none⟩), .int .i64 id] w (DrawnQV w0 c v xs w id) := by
 have D0 := (Dr.start hC).alloc (.cells #[.int .i64 0, .int .i64 0, .slice none 0 0, .slice none 0 0] 63)
 have z0 := heap_alloc_new w (.cells #[.int .i64 0, .int .i64 0, .slice none 0 0, .slice none 0 0] 63)
 have s0 : (w.alloc (.cells #[.int .i64 0, .int .i64 0, .slice none 0 0, .slice none 0 0] 63)).heap.size = w.heap.size + 1 := by simp
 have hcB := cur_lt hC
 clear hC
 go_enter Tryd.func140, Tryd.ntmps140
 go_wp2_with fail
 generalize w.alloc (.cells #[.int .i64 0, .int .i64 0, .slice none 0 0, .slice none 0 0] 63) = W at *
 refine (below_any w0 c v xs _ D0.cur 4 (by omega) (by omega)).mono ?_
 rintro e w1 ⟨tn, x0, x1, rfl, hC1, hg1⟩
 have D1 := D0.call hC1 hg1
 have z1 := keep hg1 (D0.ne (Nat.le_refl _)) z0
 have s1 : w.heap.size + 1 ≤ w1.heap.size := by rw [← s0]; exact hg1.size
 clear D0 z0 s0 hC1 hg1
 have D2 := (D1.alloc (.cells #[.int .i64 id, .int .i64 tn, .slice none 0 0, .slice none 0 0] 63)).alloc (.cells (wides.map (Value.int .i64)).toArray 3 (0, 0))
 have z2 := keepA (.cells (wides.map (Value.int .i64)).toArray 3 (0, 0)) (keepA (.cells #[.int .i64 id, .int .i64 tn, .slice none 0 0, .slice none 0 0] 63) z1)
 have b2 := keepA (.cells (wides.map (Value.int .i64)).toArray 3 (0, 0)) (heap_alloc_new w1 (.cells #[.int .i64 id, .int .i64 tn, .slice none 0 0, .slice none 0 0] 63))
 have l2 := heap_alloc_new (w1.alloc (.cells #[.int .i64 id, .int .i64 tn, .slice none 0 0, .slice none 0 0] 63)) (.cells (wides.map (Value.int .i64)).toArray 3 (0, 0))
 have s2 : ((w1.alloc (.cells #[.int .i64 id, .int .i64 tn, .slice none 0 0, .slice none 0 0] 63)).alloc (.cells (wides.map (Value.int .i64)).toArray 3 (0, 0))).heap.size = w1.heap.size + 1 + 1 := by simp
 simp only [World.size_alloc] at l2
 have hne : w1.heap.size + 1 ≠ c := D1.ne (by omega)
 have HP := Lib.hid (pick_any w0 c v xs _ D2.cur (w1.heap.size + 1) wides 3 100 wides_in (by decide) (by decide) l2 hne)
 have HS1 := Lib.hid s1
 have HD2 := Lib.hid D2
 have HZ2 := Lib.hid z2
 have HB2 := Lib.hid b2
 have HS2 := Lib.hid s2
 clear D1 z1 D2 z2 b2 l2 s2 s1 hne
 go_wp2_with fail
 refine Calls.mono HP.out ?_
 rintro e w3 ⟨wd, wd0, wd1, rfl, hC3, hg3⟩
 obtain ⟨R, hR⟩ : ∃ R, w1.heap.size = R := ⟨_, rfl⟩
 have D3 := HD2.out.call hC3 hg3
 have z3 := keep hg3 (HD2.out.ne (Nat.le_refl _)) HZ2.out
 have b3 := keep hg3 (HD2.out.ne (by have := HS1.out; omega)) HB2.out
 have s3 : w1.heap.size + 1 ≤ w3.heap.size := by have h2 := hg3.size; rw [HS2.out] at h2; omega
 rw [hR] at b3 s3 HS1 ⊢
 clear HP HD2 HZ2 HB2 HS2 hC3 hg3 hR
 go_wp2
 go_loopw [7] (fun i wr => ∃ (k : Nat) (cv : Value) (cs : List CondD), k ≤ 3 ∧ Hid (cs.length ≤ k ∧ CondRise cs (k : Int)) ∧ i = .int .i64 k ∧ wr.heap[R]? = some (.cells #[.int .i64 id, .int .i64 tn, cv, .slice none 0 0] 63 (0, 0)) ∧ wr.heap[w.heap.size]? = some (.cells #[.int .i64 0, .int .i64 0, .slice none 0 0, .slice none 0 0] 63 (0, 0)) ∧ OwnsC wr (R + 1) cv cs ∧ Dr w0 c v xs w wr) (fun i _ => 3 - (intOf i).toNat)
 case atStart => exact ⟨0, .slice none 0 0, [], by omega, Lib.hid ⟨by simp, fun q hq => by simp at hq, List.Pairwise.nil⟩, rfl, b3, z3, ownsC_nil _ _, D3⟩
 case round =>
  obtain ⟨k, cv, cs, hk, hcl, rfl, hb, hz, hown, hD⟩ := hrel
  clear D3 b3 z3 s3
  obtain ⟨ca, ccap, rfl⟩ := ownsC_len hown
  have hRl := (Array.getElem?_eq_some_iff.1 hb).1
  by_cases hlt : k < 3
  ·
   go_wp2_with fail
   refine (once_any w0 c v xs _ hD.cur 2 (by omega) (by omega)).mono ?_
   rintro e w4 ⟨⟨b, rfl⟩, hC4, hg4⟩
   have D4 := hD.call hC4 hg4
   have b4 := keep hg4 (hD.ne (by have := HS1.out; omega)) hb
   have z4 := keep hg4 (hD.ne (Nat.le_refl _)) hz
   have o4 : OwnsC w4 (R + 1) _ cs := kept_low hown hg4 (by have := hD.lt; have := HS1.out; omega)
   have l4 := Nat.lt_of_lt_of_le hRl hg4.size
   clear hD hC4 hg4 hb hz hown hRl
   cases b with
   | false =>
    go_wp2
    go_roundw
    case rel => exact ⟨k + 1, _, cs, by omega, Lib.hid ⟨by have := hcl.out.1; omega, condRise_up hcl.out.2⟩, by go_num, b4, z4, o4, D4⟩
    case measure => simp [intOf]; omega
   | true =>
    go_wp2_with fail
    refine (below_any w0 c v xs _ D4.cur wd (by omega) (by omega)).mono ?_
    rintro e w5 ⟨lo, lo0, lo1, rfl, hC5, hg5⟩
    have D5 := D4.call hC5 hg5
    have b5 := keep hg5 (D4.ne (by have := HS1.out; omega)) b4
    have z5 := keep hg5 (D4.ne (Nat.le_refl _)) z4
    have o5 : OwnsC w5 (R + 1) _ cs := kept_low o4 hg5 (by have := D4.lt; have := HS1.out; omega)
    have l5 := Nat.lt_of_lt_of_le l4 hg5.size
    clear D4 hC5 hg5 b4 z4 o4 l4
    go_wp2_with fail
    refine (below_any w0 c v xs _ D5.cur wd (by omega) (by omega)).mono ?_
    rintro e w6 ⟨x, xl, xh, rfl, hC6, hg6⟩
    have D6 := D5.call hC6 hg6
    have b6 := keep hg6 (D5.ne (by have := HS1.out; omega)) b5
    have z6 := keep hg6 (D5.ne (Nat.le_refl _)) z5
    have o6 : OwnsC w6 (R + 1) _ cs := kept_low o5 hg6 (by have := D5.lt; have := HS1.out; omega)
    have l6 := Nat.lt_of_lt_of_le l5 hg6.size
    clear D5 hC6 hg6 b5 z5 o5 l5
    have wsum : IntKind.i64.wrap (lo + x) = lo + x := IntWalk.i64_in _ (by omega)
    go_wp2_with fail
    have HHI : Hid (0 ≤ lo ∧ lo ≤ min 99 (lo + x) ∧ min 99 (lo + x) ≤ 99 ∧ lo ≤ 99) := Lib.hid (by omega)
    generalize min 99 (lo + x) = hi at *
    clear wsum
    refine (once_any w0 c v xs _ D6.cur 3 (by omega) (by omega)).mono ?_
    rintro e w7 ⟨⟨b7', rfl⟩, hC7, hg7⟩
    have D7 := D6.call hC7 hg7
    have b7 := keep hg7 (D6.ne (by have := HS1.out; omega)) b6
    have z7 := keep hg7 (D6.ne (Nat.le_refl _)) z6
    have o7 : OwnsC w7 (R + 1) _ cs := kept_low o6 hg7 (by have := D6.lt; have := HS1.out; omega)
    have l7 := Nat.lt_of_lt_of_le l6 hg7.size
    clear D6 hC7 hg7 b6 z6 o6 l6
    cases b7' with
    | false =>
     have HCN := Lib.hid (conds_snoc hcl.out.2 (condB_mk (f := (k : Int)) (by omega) (by omega) HHI.out.1 HHI.out.2.1 HHI.out.2.2.1))
     have al : Below w7.heap.size w7 (w7.alloc (.cells #[.int .i64 (k : Int), .int .i64 lo, .int .i64 hi] 124)) := (Below.refl _ _).alloc (Nat.le_refl _) _
     have q7 : (w7.alloc (.cells #[.int .i64 (k : Int), .int .i64 lo, .int .i64 hi] 124)).cell? ⟨w7.heap.size, 0, none⟩ = some (.int .i64 (k : Int)) ∧ (w7.alloc (.cells #[.int .i64 (k : Int), .int .i64 lo, .int .i64 hi] 124)).cell? ⟨w7.heap.size, 1, none⟩ = some (.int .i64 lo) ∧ (w7.alloc (.cells #[.int .i64 (k : Int), .int .i64 lo, .int .i64 hi] 124)).cell? ⟨w7.heap.size, 2, none⟩ = some (.int .i64 hi) := ⟨(cell_lit w7 #[.int .i64 (k : Int), .int .i64 lo, .int .i64 hi] 124 0).trans rfl, (cell_lit w7 #[.int .i64 (k : Int), .int .i64 lo, .int .i64 hi] 124 1).trans rfl, (cell_lit w7 #[.int .i64 (k : Int), .int .i64 lo, .int .i64 hi] 124 2).trans rfl⟩
     have l8 : w7.heap.size < (w7.alloc (.cells #[.int .i64 (k : Int), .int .i64 lo, .int .i64 hi] 124)).heap.size := by simp
     have HC7 := Lib.hid (conds_one q7 l8)
     have b8 := keepA (.cells #[.int .i64 (k : Int), .int .i64 lo, .int .i64 hi] 124) b7
     have z8 := keepA (.cells #[.int .i64 (k : Int), .int .i64 lo, .int .i64 hi] 124) z7
     have o8 := ownsC_below o7 al
     have D8 := D7.alloc (.cells #[.int .i64 (k : Int), .int .i64 lo, .int .i64 hi] 124)
     have s8 := Nat.le_trans (Nat.succ_le_of_lt l7) al.size
     have p2 := (cell_of_row w7 _ 2 _ _ _ b7).trans (show _ = some (Value.slice ca cs.length ccap) from rfl)
     clear al q7 l8 b7 z7 o7 D7 l7
     go_wp2_with (at_builtin; refine wpl_append_conds rfl (.tmp 38) (.tmp 43) rfl (R + 1) _ _ cs [((k : Int), lo, hi)] rfl rfl o8 HC7.out s8 (by have := hcl.out.1; simp; omega) ?_)
     intro u9 w9 o9 bl9
     obtain ⟨ub, ubc, rfl⟩ := ownsC_len o9
     have o9c : OwnsC w9 (R + 1) (.slice ub (cs.length + 1) ubc) (cs ++ [((k : Int), lo, hi)]) := by simpa using o9
     have b9 := keepB bl9 (Nat.lt_succ_self _) b8
     have z9 := keepB bl9 (by have := HS1.out; omega) z8
     have D9 := D8.below bl9 (by have := HS1.out; omega)
     simp only [List.length_append, List.length_cons, List.length_nil, Nat.zero_add]
     have y2 := (cell_of_row w9 _ 2 _ _ _ b9).trans (show _ = some (Value.slice ca cs.length ccap) from rfl)
     have f2 := frozen_of_row w9 _ 2 _ _ b9
     clear o8 b8 z8 D8 s8 bl9 o9 p2
     go_wp2
     have r9 := heap_setCell_same w9 R 2 _ _ (.slice ub (cs.length + 1) ubc) b9
     have zz := (heap_setCell_other w9 ⟨R, 2, none⟩ w.heap.size (.slice ub (cs.length + 1) ubc) (by have := HS1.out; simp; omega)).trans z9
     have D10 := D9.set (R := R) (by have := HS1.out; omega) 2 (.slice ub (cs.length + 1) ubc)
     have o10 := ownsC_low o9c (b := R) (Nat.lt_succ_self _) 2 (.slice ub (cs.length + 1) ubc)
     go_roundw
     case rel => exact ⟨k + 1, _, _, by omega, Lib.hid ⟨by have := hcl.out.1; simp; omega, HCN.out⟩, by go_num, r9, zz, o10, D10⟩
     case measure => simp [intOf]; omega
    | true =>
     have HCN := Lib.hid (conds_snoc hcl.out.2 (condB_mk (f := (k : Int)) (by omega) (by omega) HHI.out.1 (Int.le_refl lo) HHI.out.2.2.2))
     have al : Below w7.heap.size w7 (w7.alloc (.cells #[.int .i64 (k : Int), .int .i64 lo, .int .i64 lo] 124)) := (Below.refl _ _).alloc (Nat.le_refl _) _
     have q7 : (w7.alloc (.cells #[.int .i64 (k : Int), .int .i64 lo, .int .i64 lo] 124)).cell? ⟨w7.heap.size, 0, none⟩ = some (.int .i64 (k : Int)) ∧ (w7.alloc (.cells #[.int .i64 (k : Int), .int .i64 lo, .int .i64 lo] 124)).cell? ⟨w7.heap.size, 1, none⟩ = some (.int .i64 lo) ∧ (w7.alloc (.cells #[.int .i64 (k : Int), .int .i64 lo, .int .i64 lo] 124)).cell? ⟨w7.heap.size, 2, none⟩ = some (.int .i64 lo) := ⟨(cell_lit w7 #[.int .i64 (k : Int), .int .i64 lo, .int .i64 lo] 124 0).trans rfl, (cell_lit w7 #[.int .i64 (k : Int), .int .i64 lo, .int .i64 lo] 124 1).trans rfl, (cell_lit w7 #[.int .i64 (k : Int), .int .i64 lo, .int .i64 lo] 124 2).trans rfl⟩
     have l8 : w7.heap.size < (w7.alloc (.cells #[.int .i64 (k : Int), .int .i64 lo, .int .i64 lo] 124)).heap.size := by simp
     have HC7 := Lib.hid (conds_one q7 l8)
     have b8 := keepA (.cells #[.int .i64 (k : Int), .int .i64 lo, .int .i64 lo] 124) b7
     have z8 := keepA (.cells #[.int .i64 (k : Int), .int .i64 lo, .int .i64 lo] 124) z7
     have o8 := ownsC_below o7 al
     have D8 := D7.alloc (.cells #[.int .i64 (k : Int), .int .i64 lo, .int .i64 lo] 124)
     have s8 := Nat.le_trans (Nat.succ_le_of_lt l7) al.size
     have p2 := (cell_of_row w7 _ 2 _ _ _ b7).trans (show _ = some (Value.slice ca cs.length ccap) from rfl)
     clear al q7 l8 b7 z7 o7 D7 l7
     go_wp2_with (at_builtin; refine wpl_append_conds rfl (.tmp 38) (.tmp 43) rfl (R + 1) _ _ cs [((k : Int), lo, lo)] rfl rfl o8 HC7.out s8 (by have := hcl.out.1; simp; omega) ?_)
     intro u9 w9 o9 bl9
     obtain ⟨ub, ubc, rfl⟩ := ownsC_len o9
     have o9c : OwnsC w9 (R + 1) (.slice ub (cs.length + 1) ubc) (cs ++ [((k : Int), lo, lo)]) := by simpa using o9
     have b9 := keepB bl9 (Nat.lt_succ_self _) b8
     have z9 := keepB bl9 (by have := HS1.out; omega) z8
     have D9 := D8.below bl9 (by have := HS1.out; omega)
     simp only [List.length_append, List.length_cons, List.length_nil, Nat.zero_add]
     have y2 := (cell_of_row w9 _ 2 _ _ _ b9).trans (show _ = some (Value.slice ca cs.length ccap) from rfl)
     have f2 := frozen_of_row w9 _ 2 _ _ b9
     clear o8 b8 z8 D8 s8 bl9 o9 p2
     go_wp2
     have r9 := heap_setCell_same w9 R 2 _ _ (.slice ub (cs.length + 1) ubc) b9
     have zz := (heap_setCell_other w9 ⟨R, 2, none⟩ w.heap.size (.slice ub (cs.length + 1) ubc) (by have := HS1.out; simp; omega)).trans z9
     have D10 := D9.set (R := R) (by have := HS1.out; omega) 2 (.slice ub (cs.length + 1) ubc)
     have o10 := ownsC_low o9c (b := R) (Nat.lt_succ_self _) 2 (.slice ub (cs.length + 1) ubc)
     go_roundw
     case rel => exact ⟨k + 1, _, _, by omega, Lib.hid ⟨by have := hcl.out.1; simp; omega, HCN.out⟩, by go_num, r9, zz, o10, D10⟩
     case measure => simp [intOf]; omega
  ·
   obtain rfl : k = 3 := by omega
   go_wp2_with fail
   refine (below_any w0 c v xs _ hD.cur 3 (by omega) (by omega)).mono ?_
   rintro e w4 ⟨n, n0, n1, rfl, hC4, hg4⟩
   obtain ⟨n, rfl⟩ := Int.eq_ofNat_of_zero_le n0
   have D4 := hD.call hC4 hg4
   have b4 := keep hg4 (hD.ne (by have := HS1.out; omega)) hb
   have z4 := keep hg4 (hD.ne (Nat.le_refl _)) hz
   have o4 : OwnsC w4 (R + 1) _ cs := kept_low hown hg4 (by have := hD.lt; have := HS1.out; omega)
   have HL4 := Lib.hid (Nat.lt_of_lt_of_le hRl hg4.size)
   have HCB := Lib.hid (fun b (hb : (Value.slice ca cs.length ccap).ownBlock = some b) => o4.lt b hb)
   have HCL := Lib.hid hcl.out
   clear hD hC4 hg4 hb hz hown hRl hcl hlt hk
   obtain ⟨C, hCC⟩ : ∃ C, w4.heap.size = C := ⟨_, rfl⟩
   have HCS : Hid (C ≤ w4.heap.size) := Lib.hid (by omega)
   rw [hCC] at HL4 HCB
   clear hCC
   have wn : IntKind.i64.wrap (1 + (n : Int)) = ((n + 1 : Nat) : Int) := by rw [IntWalk.i64_in _ (by omega)]; omega
   go_wp2
   clear wn
   go_loopw [10] (fun i wr => ∃ (m : Nat) (ov : Value) (os : List Int), Hid (os.length + m ≤ 3 ∧ 1 ≤ os.length + m ∧ ∀ o ∈ os, 0 ≤ o ∧ o ≤ 2) ∧ i = .int .i64 m ∧ wr.heap[R]? = some (.cells #[.int .i64 id, .int .i64 tn, .slice ca cs.length ccap, ov] 63 (0, 0)) ∧ wr.heap[w.heap.size]? = some (.cells #[.int .i64 0, .int .i64 0, .slice none 0 0, .slice none 0 0] 63 (0, 0)) ∧ OwnsC wr (R + 1) (.slice ca cs.length ccap) cs ∧ OwnsN wr C ov os ∧ Hid (C ≤ wr.heap.size) ∧ Dr w0 c v xs w wr) (fun i _ => (intOf i).toNat)
   case atStart => exact ⟨n + 1, .slice none 0 0, [], Lib.hid ⟨by simp <;> omega, by simp <;> omega, fun o ho => by simp at ho⟩, by simp, b4, z4, o4, ownsN_nil _ _, HCS, D4⟩
   case round =>
    obtain ⟨m, ov, os, hom, rfl, hb, hz, hoc, hon, hCs, hD⟩ := hrel
    clear D4 b4 z4 o4 HCS
    obtain ⟨oa, ocap, rfl⟩ := ints_len (ownsN_ints hon)
    by_cases hlt : 0 < m
    ·
     have hm4 : m ≤ 3 := by have := hom.out.1; omega
     go_wp2_with fail
     refine (below_any w0 c v xs _ hD.cur 3 (by omega) (by omega)).mono ?_
     rintro e w5 ⟨f, fl, fh, rfl, hC5, hg5⟩
     have D5 := hD.call hC5 hg5
     have b5 := keep hg5 (hD.ne (by have := HS1.out; omega)) hb
     have z5 := keep hg5 (hD.ne (Nat.le_refl _)) hz
     have oc5 : OwnsC w5 (R + 1) _ cs := kept_low hoc hg5 (by have := hD.lt; have := HS1.out; omega)
     have on5 := ownsN_grown hon hg5 (by have := hD.lt; have := HS1.out; have := HL4.out; omega)
     have s5 := Nat.le_trans hCs.out hg5.size
     clear hD hC5 hg5 hb hz hoc hon hCs
     have al : Below w5.heap.size w5 (w5.alloc (.cells #[.int .i64 f] 3)) := (Below.refl _ _).alloc (Nat.le_refl _) _
     have q7 := (cell_lit w5 #[.int .i64 f] 3 0).trans (show _ = some (Value.int .i64 f) from rfl)
     have b6 := keepA (.cells #[.int .i64 f] 3) b5
     have z6 := keepA (.cells #[.int .i64 f] 3) z5
     have oc6 := ownsC_below oc5 al
     have on6 := ownsN_below on5 al
     have D6 := D5.alloc (.cells #[.int .i64 f] 3)
     have s6 := Nat.le_trans s5 al.size
     have p3 := (cell_of_row w5 _ 3 _ _ _ b5).trans (show _ = some (Value.slice oa os.length ocap) from rfl)
     clear D5 b5 z5 oc5 on5 s5 al
     go_wp2_with (at_builtin; refine wpl_append_one rfl (.tmp 56) (.tmp 58) rfl C (.slice oa os.length ocap) os w5.heap.size f rfl rfl on6 q7 s6 (by have := hom.out.1; omega) ?_)
     intro u9 w9 o9 g9
     have HFN := Lib.hid (fields_snoc hom.out.2.2 fl (show f ≤ 2 by omega))
     obtain ⟨ub, ubc, rfl⟩ := ints_len (ownsN_ints o9)
     have on9 : OwnsN w9 C (.slice ub (os.length + 1) ubc) (os ++ [f]) := by simpa using o9
     have bl9 := (Below.refl C _).grown g9 s6 (fun q hq => (on6.lt q hq).1)
     have b9 := keepB bl9 HL4.out b6
     have z9 := keepB bl9 (by have := HS1.out; have := HL4.out; omega) z6
     have D9 := D6.below bl9 (by have := HS1.out; have := HL4.out; omega)
     have oc9 : OwnsC w9 (R + 1) _ cs := owns_belowC oc6 bl9 (fun q hq => (HCB.out q hq).2)
     simp only [List.length_append, List.length_cons, List.length_nil, Nat.zero_add]
     have y3 := (cell_of_row w9 _ 3 _ _ _ b9).trans (show _ = some (Value.slice oa os.length ocap) from rfl)
     have f3 := frozen_of_row w9 _ 3 _ _ b9
     have s9 := Nat.le_trans s6 g9.size
     clear o9 g9 b6 z6 oc6 on6 D6 s6 p3 q7 bl9
     go_wp2
     have r9 := heap_setCell_same w9 R 3 _ _ (.slice ub (os.length + 1) ubc) b9
     have zz := (heap_setCell_other w9 ⟨R, 3, none⟩ w.heap.size (.slice ub (os.length + 1) ubc) (by have := HS1.out; simp; omega)).trans z9
     have D10 := D9.set (R := R) (by have := HS1.out; omega) 3 (.slice ub (os.length + 1) ubc)
     have oc10 := ownsC_low oc9 (b := R) (Nat.lt_succ_self _) 3 (.slice ub (os.length + 1) ubc)
     have on10 := ownsN_low on9 (b := R) HL4.out 3 (.slice ub (os.length + 1) ubc)
     go_roundw
     case rel => exact ⟨m - 1, _, _, Lib.hid ⟨by have := hom.out.1; simp; omega, by have := hom.out.2.1; simp; omega, HFN.out⟩, by go_num, r9, zz, oc10, on10, Lib.hid (by simpa [World.setCell] using s9), D10⟩
     case measure => simp [intOf]; omega
    ·
     obtain rfl : m = 0 := by omega
     have q0 := (cell_of_row wr _ 0 _ _ _ hb).trans (show _ = some (Value.int .i64 id) from rfl)
     have y0 := (cell_of_row wr _ 0 _ _ _ hz).trans (show _ = some (Value.int .i64 0) from rfl)
     have f0 := frozen_of_row wr _ 0 _ _ hz
     have q1 := (cell_of_row wr _ 1 _ _ _ hb).trans (show _ = some (Value.int .i64 tn) from rfl)
     have y1 := (cell_of_row wr _ 1 _ _ _ hz).trans (show _ = some (Value.int .i64 0) from rfl)
     have f1 := frozen_of_row wr _ 1 _ _ hz
     have q2 := (cell_of_row wr _ 2 _ _ _ hb).trans (show _ = some (Value.slice ca cs.length ccap) from rfl)
     have y2 := (cell_of_row wr _ 2 _ _ _ hz).trans (show _ = some (Value.slice none 0 0) from rfl)
     have f2 := frozen_of_row wr _ 2 _ _ hz
     have q3 := (cell_of_row wr _ 3 _ _ _ hb).trans (show _ = some (Value.slice oa os.length ocap) from rfl)
     have y3 := (cell_of_row wr _ 3 _ _ _ hz).trans (show _ = some (Value.slice none 0 0) from rfl)
     have f3 := frozen_of_row wr _ 3 _ _ hz
     go_wp2
     have r1 := heap_setCell_same wr w.heap.size 0 _ _ (.int .i64 id) hz
     have r2 := heap_setCell_same _ w.heap.size 1 _ _ (.int .i64 tn) r1
     have r3 := heap_setCell_same _ w.heap.size 2 _ _ (.slice ca cs.length ccap) r2
     have r4 := heap_setCell_same _ w.heap.size 3 _ _ (.slice oa os.length ocap) r3
     have D9 := ((((hD.set (R := w.heap.size) (Nat.le_refl _) 0 (.int .i64 id)).set (R := w.heap.size) (Nat.le_refl _) 1 (.int .i64 tn)).set (R := w.heap.size) (Nat.le_refl _) 2 (.slice ca cs.length ccap)).set (R := w.heap.size) (Nat.le_refl _) 3 (.slice oa os.length ocap))
     have oc9 := (ownsC_low (ownsC_low (ownsC_low (ownsC_low hoc (b := w.heap.size) (by have := HS1.out; omega) 0 (.int .i64 id)) (b := w.heap.size) (by have := HS1.out; omega) 1 (.int .i64 tn)) (b := w.heap.size) (by have := HS1.out; omega) 2 (.slice ca cs.length ccap)) (b := w.heap.size) (by have := HS1.out; omega) 3 (.slice oa os.length ocap))
     have on9 := (ownsN_low (ownsN_low (ownsN_low (ownsN_low hon (b := w.heap.size) (by have := HS1.out; have := HL4.out; omega) 0 (.int .i64 id)) (b := w.heap.size) (by have := HS1.out; have := HL4.out; omega) 1 (.int .i64 tn)) (b := w.heap.size) (by have := HS1.out; have := HL4.out; omega) 2 (.slice ca cs.length ccap)) (b := w.heap.size) (by have := HS1.out; have := HL4.out; omega) 3 (.slice oa os.length ocap))
     have e0 := cell_of_row _ _ 0 _ _ _ r4
     have e1 := cell_of_row _ _ 1 _ _ _ r4
     have e2 := cell_of_row _ _ 2 _ _ _ r4
     have e3 := cell_of_row _ _ 3 _ _ _ r4
     simp at e0 e1 e2 e3
     have hap : ∀ b, (Value.slice ca cs.length ccap).ownBlock = some b → (Value.slice oa os.length ocap).ownBlock ≠ some b := fun b h1 h2 => by have := (HCB.out b h1).2; have := (hon.lt b h2).1; omega
     refine bodyPost_ret (v := qV id tn (.slice ca cs.length ccap) (.slice oa os.length ocap)) ?_ rfl ?_
     ·
      simp [results, Tryd.f140, go_sem, e0, e1, e2, e3, qV]
     ·
      exact ⟨tn, cs, os, _, _, rfl, ownsC_up oc9 (by have := HS1.out; omega), ownsN_up on9 (by have := HS1.out; have := HL4.out; omega), ⟨⟨x0, by omega⟩, HCL.out.1, conds_are HCL.out.2, fields_are hom.out.2.2 (by have := hom.out.2.1; omega) (by have := hom.out.1; omega)⟩, hap, D9⟩
/-- Valid queries, their numbers rising, all below z. -/
def RiseTo (qs : List QD) (z : Int) : Prop := (∀ q ∈ qs, qB q = true ∧ q.1 < z ∧ q.2.2.1.length ≤ 4 ∧ q.2.2.2.length ≤ 4) ∧ qs.Pairwise (fun a b => a.1 < b.1)
theorem rise_up {qs : List QD} {z z' : Int} (h : RiseTo qs z) (hz : z ≤ z') : RiseTo qs z' := ⟨fun q hq => ⟨(h.1 q hq).1, Int.lt_of_lt_of_le (h.1 q hq).2.1 hz, (h.1 q hq).2.2⟩, h.2⟩
theorem rise_snoc {qs : List QD} {z tn : Int} {cs : List CondD} {os : List Int} (h : RiseTo qs z) (z0 : 0 ≤ z) (z1 : z ≤ 23) (hv : (0 ≤ tn ∧ tn ≤ 3) ∧ cs.length ≤ 3 ∧ condsB cs = true ∧ fieldsB os = true) : RiseTo (qs ++ [((z, tn, cs, os) : QD)]) (z + 1) := by
 obtain ⟨ht, hc, hb, hf⟩ := hv
 have hq : qB (z, tn, cs, os) = true := by
  unfold qB queryB
  rw [hb, hf, decide_eq_true (And.intro z0 z1), decide_eq_true ht, decide_eq_true hc]
  rfl
 have hol : os.length ≤ 3 := by
  unfold fieldsB at hf
  rw [Bool.and_eq_true, decide_eq_true_eq] at hf
  exact hf.2.2
 refine ⟨fun q hm => ?_, ?_⟩
 ·
  rcases List.mem_append.1 hm with hm | hm
  ·
   have := h.1 q hm
   exact ⟨this.1, by omega, this.2.2⟩
  ·
   rw [List.mem_singleton.1 hm]
   exact ⟨hq, by show z < z + 1; omega, by show cs.length ≤ 4; omega, by show os.length ≤ 4; omega⟩
 ·
  rw [List.pairwise_append]
  refine ⟨h.2, List.pairwise_singleton _ _, fun a ha b hb => ?_⟩
  rw [List.mem_singleton.1 hb]
  exact (h.1 a ha).2.1
theorem rise_are {qs : List QD} {z : Int} (h : RiseTo qs z) (hl : qs.length ≤ 24) : areQB qs = true ∧ ∀ q ∈ qs, q.2.2.1.length ≤ 4 ∧ q.2.2.2.length ≤ 4 := by
 refine ⟨?_, fun q hq => (h.1 q hq).2.2⟩
 rw [areQB_all (qs := qs) ?_]
 ·
  exact decide_eq_true hl
 intro i hi
 have e : qs.getD i q0D = qs[i] := by simp [List.getD, hi]
 refine ⟨by rw [e]; exact (h.1 _ (List.getElem_mem hi)).1, fun h0 => ?_⟩
 have hi' : i - 1 < qs.length := by omega
 have e' : qs.getD (i - 1) q0D = qs[i - 1] := by simp [List.getD, hi']
 rw [e, e']
 exact (List.pairwise_iff_getElem.1 h.2) (i - 1) i hi' hi (by omega)
/-- Valid queries are drawn, in new memory. -/
def DrawnQsV (w0 : World) (c : Nat) (v : Value) (xs : List Int) (w : World) (m : Nat) (e : Ending) (w' : World) : Prop :=
 ∃ (u : Value) (qs : List QD), e = .returned u ∧ HoldsQ w' w.heap.size u qs ∧ qs.length ≤ m ∧ (areQB qs = true ∧ ∀ q ∈ qs, q.2.2.1.length ≤ 4 ∧ q.2.2.2.length ≤ 4) ∧ Dr w0 c v xs w w'
set_option maxHeartbeats 8000000 in
set_option maxRecDepth 100000 in
theorem queriesV_any (w0 : World) (c : Nat) (v : Value) (xs : List Int) (w : World) (hC : Cur w0 c v xs w) :
  Calls Tryd.prog 118 #[.pointer (some ⟨c, 0, none⟩), .int .i64 6] w (DrawnQsV w0 c v xs w 6) := by
 have D0 := (Dr.start hC).alloc (.cells #[] 63)
 have o0 := holdsQ_empty w
 have hcB := cur_lt hC
 clear hC
 go_enter Tryd.func118, Tryd.ntmps118
 go_wp2_with fail
 generalize w.alloc (.cells #[] 63) = W at *
 refine (below_any w0 c v xs _ D0.cur 2 (by omega) (by omega)).mono ?_
 rintro e w1 ⟨x, x0, x1, rfl, hC1, hg1⟩
 have D1 := D0.call hC1 hg1
 have o1 := holdsQ_grown o0 hg1 hcB
 clear D0 o0 hC1 hg1
 go_wp2_with fail
 refine (below_any w0 c v xs _ D1.cur 7 (by omega) (by omega)).mono ?_
 rintro e w2 ⟨n, n0, n1, rfl, hC2, hg2⟩
 obtain ⟨n, rfl⟩ := Int.eq_ofNat_of_zero_le n0
 have D2 := D1.call hC2 hg2
 have o2 := holdsQ_grown o1 hg2 hcB
 clear D1 o1 hC2 hg2
 go_wp2_with fail
 go_loopw [5, 6, 7] (fun l y i wr => ∃ (m : Nat) (z : Int) (qs : List QD), qs.length + m ≤ 6 ∧ 0 ≤ z ∧ z + 2 * (m : Int) ≤ 13 ∧ y = .int .i64 z ∧ i = .int .i64 m ∧ HoldsQ wr w.heap.size l qs ∧ Hid (RiseTo qs z) ∧ Dr w0 c v xs w wr) (fun _ _ i _ => (intOf i).toNat)
 case atStart => exact ⟨n, x, [], by simp; omega, x0, by omega, rfl, rfl, o2, Lib.hid ⟨fun r hr => by simp at hr, List.Pairwise.nil⟩, D2⟩
 case round =>
  obtain ⟨m, z, qs, hrm, z0, z1, rfl, rfl, hown, hall, hD⟩ := hrel
  clear D2 o2
  by_cases hlt : 0 < m
  ·
   go_wp2_with fail
   refine (query_drawnV w0 c v xs _ hD.cur z).mono ?_
   rintro e w3 ⟨tn, cs, os, cv, ov, rfl, oc, on, hval, _, d3⟩
   obtain ⟨ca, ccap, rfl⟩ := ownsC_len oc
   obtain ⟨oa, ocap, rfl⟩ := ints_len (ownsN_ints on)
   have D3 := hD.call d3.cur d3.gr
   obtain ⟨rcs, oX, hnext⟩ := holdsQ_next (id := z) (tn := tn) hown d3.gr hcB hD.size oc on
   have HN := Lib.hid hnext
   have HRM : Hid (qs.length + m ≤ 6) := Lib.hid hrm
   have HALL := Lib.hid (rise_snoc hall.out z0 (show z ≤ 23 by omega) hval)
   have al : Below w3.heap.size w3 (w3.alloc (.cells #[.int .i64 z, .int .i64 tn, .slice ca cs.length ccap, .slice oa os.length ocap] 63)) := (Below.refl _ _).alloc (Nat.le_refl _) _
   have oX4 := queriesC_kept oX al
   have D4 := D3.alloc (.cells #[.int .i64 z, .int .i64 tn, .slice ca cs.length ccap, .slice oa os.length ocap] 63)
   have HAL := Lib.hid al
   have HD4 := Lib.hid D4
   clear hown hnext hall d3 D3 oX al oc on hD D4
   go_wp2_with (at_builtin; refine append_queries rfl (.tmp 19) (.tmp 23) rfl w.heap.size _ _ _ rfl oX4 HD4.out.size ⟨w3.heap.size, 0, none⟩ 1 1 [.int .i64 z, .int .i64 tn, .slice ca cs.length ccap, .slice oa os.length ocap] rfl rfl (fun j u hj => by rw [Go.WideShapes.add_plain, Nat.zero_add, cell_lit]; simpa using hj) (by intro u hu; simp at hu; rcases hu with rfl | rfl | rfl | rfl <;> rfl) (by have := HRM.out; omega) ?_)
   intro u5 w5 o5 g5 _ hat
   have oR5 := HN.out _ w5 u5 HAL.out g5 o5 (by simpa [World.size_alloc] using hat)
   have D5 := HD4.out.below ((Below.refl w.heap.size _).grown g5 HD4.out.size (fun k hk => (oX4.lt k hk).1)) (Nat.le_refl _)
   clear o5 g5 hat oX4 HN HAL HD4
   go_wp2_with fail
   refine (below_any w0 c v xs _ D5.cur 2 (by omega) (by omega)).mono ?_
   rintro e w6 ⟨p, p0, p1, rfl, hC6, hg6⟩
   have D6 := D5.call hC6 hg6
   have o6 := holdsQ_grown oR5 hg6 hcB
   clear D5 oR5 hC6 hg6
   go_wp2
   go_roundw
   case rel => exact ⟨m - 1, z + 1 + p, qs ++ [(z, tn, cs, os)], by have := HRM.out; simp; omega, by omega, by omega, by go_num, by go_num, o6, Lib.hid (rise_up HALL.out (by omega)), D6⟩
   case measure => simp [intOf]; omega
  ·
   obtain rfl : m = 0 := by omega
   go_wp2
   go_ret
   exact ⟨_, qs, rfl, hown, by omega, rise_are hall.out (by omega), hD⟩
def odd3 : List Int := [-1, 0, 3]
theorem odd3_in : ∀ x ∈ odd3, -1 ≤ x ∧ x ≤ 3 := by decide
theorem cell_grown {w w' : World} {c g k : Nat} {x : Value} (hg : w.grownBy w' (some c)) (hne : g ≠ c) (hlt : g < w.heap.size) (h : w.cell? ⟨g, k, none⟩ = some x) : w'.cell? ⟨g, k, none⟩ = some x := by
 rw [← h]
 unfold World.cell?
 rw [show w'.heap[g]? = w.heap[g]? from hg.block g hlt (fun e => hne (Option.some.inj e))]
theorem orders_len {n : Nat} (h : n < 6) : (ordersL.getD n []).length = 3 := by
 rcases (show n = 0 ∨ n = 1 ∨ n = 2 ∨ n = 3 ∨ n = 4 ∨ n = 5 by omega) with rfl | rfl | rfl | rfl | rfl | rfl <;> rfl
set_option maxHeartbeats 8000000 in
set_option maxRecDepth 100000 in
theorem order_any (w0 : World) (c : Nat) (v : Value) (xs : List Int) (w : World) (hC : Cur w0 c v xs w) :
  Calls Tryd.prog 80 #[.pointer (some ⟨c, 0, none⟩)] w fun e w' => ∃ (u : Value) (ys : List Int), ys.length = 3 ∧ e = .returned u ∧ OwnsN w' w.heap.size u ys ∧ Dr w0 c v xs w w' := by
 have D0 := Lib.hid ((Dr.start hC).alloc (.cells #[] 3))
 have o0 : Hid (OwnsN (w.alloc (.cells #[] 3)) w.heap.size (.slice (some ⟨w.heap.size, 0, none⟩) 0 0) []) := Lib.hid (ownsN_lit w w.heap.size (Nat.le_refl _) #[] 0 [] rfl rfl (by decide))
 have s0 : Hid (w.heap.size < (w.alloc (.cells #[] 3)).heap.size) := Lib.hid (by simp)
 have hcB := cur_lt hC
 clear hC
 go_enter Tryd.func80, Tryd.ntmps80
 go_wp2_with fail
 generalize w.alloc (.cells #[] 3) = W at *
 refine (specL6Orders W).mono ?_
 rintro e w1 ⟨lv, rfl, ol, c1⟩
 obtain ⟨g, lc, rfl, hg, hu⟩ := orders_form ol
 have hgW : W.heap.size ≤ g := by
  rcases slO_form ol with ⟨h, _⟩ | ⟨g', cap', h, hF, _⟩
  ·
   cases h
  ·
   simp only [Value.slice.injEq, Option.some.injEq, Addr.mk.injEq] at h
   rw [h.1.1]; exact hF
 have D1 := Lib.hid (D0.out.below c1 (Nat.le_of_lt s0.out))
 have o1 := Lib.hid (ownsN_below o0.out c1)
 have HU := Lib.hid hu
 clear hu ol D0 o0
 go_wp2_with fail
 refine (below_any w0 c v xs _ D1.out.cur 6 (by omega) (by omega)).mono ?_
 rintro e w2 ⟨x, x0, x1, rfl, hC2, hg2⟩
 obtain ⟨n, rfl⟩ := Int.eq_ofNat_of_zero_le x0
 have hn : n < 6 := by omega
 obtain ⟨u, hcu, hou⟩ := HU.out n hn
 have hgc : g ≠ c := by have := s0.out; omega
 have q0 := cell_grown hg2 hgc hg hcu
 have ou2 := slO_turn tInt_law (slO_lt tInt_law hou) (turn_grown (G := fun b => b = c) hg2 (fun b hb => by cases hb; rfl)) (fun b hF h => by have h1 : W.heap.size ≤ b := hF.1; have := s0.out; omega)
 have I2 := Lib.hid (slR_ints (slO_reads tInt_law ou2))
 have D2 := Lib.hid (D1.out.call hC2 hg2)
 have o2 := Lib.hid (ownsN_grown o1.out hg2 hcB)
 have HL := Lib.hid (orders_len hn)
 clear ou2 hou hcu HU D1 o1 hC2 hg2 hg hgW
 generalize ordersL.getD n [] = L at *
 obtain ⟨ua, uc, rfl⟩ := ints_len I2.out
 have i1 : (0 : Int) ≤ (n : Int) := by omega
 have i2 : (n : Int) < 6 := by omega
 go_wp2_with (at_builtin; refine wpl_app_ints rfl (.tmp 4) (.tmp 9) rfl w.heap.size _ _ [] L rfl rfl o2.out I2.out D2.out.size (by have := HL.out; simp; omega) ?_)
 intro v' w3 o3 b3
 have D3 := Lib.hid (D2.out.below b3 (Nat.le_refl _))
 rcases ownsN_form o3 with ⟨_, h⟩ | ⟨gb, gcap, rfl, hBg, hgl⟩
 ·
  exact absurd (by have := HL.out; rw [show L = [] from by simpa using h] at this; exact this) (by decide)
 have O3 := Lib.hid o3
 have HB := Lib.hid hBg
 clear o3 b3 o2 D2 I2 hBg hgl q0
 go_wp2_with fail
 refine (once_any w0 c v xs _ D3.out.cur 12 (by omega) (by omega)).mono ?_
 rintro e w4 ⟨⟨b, rfl⟩, hC4, hg4⟩
 have D4 := Lib.hid (D3.out.call hC4 hg4)
 have O4 := Lib.hid (ownsN_grown O3.out hg4 hcB)
 clear D3 O3 hC4 hg4
 cases b with
 | false =>
  go_wp2
  go_ret
  exact ⟨_, _, HL.out, rfl, O4.out, D4.out⟩
 | true =>
  have hp := Lib.hid (pick_any w0 c v xs (w4.alloc (.cells (odd3.map (Value.int .i64)).toArray 3 (0, 0))) (cur_alloc D4.out.cur _) w4.heap.size odd3 _ _ odd3_in (by decide) (by decide) (heap_alloc_new w4 _) (by have := cur_lt D4.out.cur; omega))
  have DA := Lib.hid (D4.out.alloc (.cells (odd3.map (Value.int .i64)).toArray 3 (0, 0)))
  have OA := Lib.hid (O4.out.alloc (.cells (odd3.map (Value.int .i64)).toArray 3 (0, 0)))
  clear D4 O4
  go_wp2_with fail
  refine Calls.mono hp.out ?_
  rintro e w5 ⟨y, y0, y1, rfl, hC5, hg5⟩
  have D5 := Lib.hid (DA.out.call hC5 hg5)
  have O5 := ownsN_grown OA.out hg5 hcB
  have hl : 0 < (([] : List Int) ++ L).length := by have := HL.out; simp; omega
  have c0 := ownsN_cell O5 (j := 0) (List.getElem?_eq_getElem hl)
  have f0 := ownsN_frozen O5 0
  have hst := Lib.hid (ownsN_store O5 0 y)
  have D6 := Lib.hid (D5.out.set (R := gb) HB.out 0 (.int .i64 y))
  have hlen : Hid (((([] : List Int) ++ L).set 0 y).length = 3) := Lib.hid (by have := HL.out; simp; exact this)
  have k1 : (0 : Int) < (([] ++ L : List Int).length : Int) := by omega
  have k2 : (0 : Int) < (L.length : Int) := by have := HL.out; omega
  clear hp DA OA hC5 hg5 D5 O5
  go_wp2
  go_ret
  exact ⟨_, _, hlen.out, rfl, hst.out, D6.out⟩
/-- What holds at w holds whatever the blocks below B come to hold. -/
def Kept (B : Nat) (P : World → Prop) (w : World) : Prop := ∀ w', Turn (fun b => b < B) w w' → P w'
theorem Kept.at {B : Nat} {P : World → Prop} {w : World} (h : Kept B P w) : P w := h w (Turn.refl _ _)
theorem Kept.on {B : Nat} {P : World → Prop} {w w' : World} (h : Kept B P w) (k : Turn (fun b => b < B) w w') : Kept B P w' := fun w'' k' => h w'' (k.trans k')
theorem kept_slO {α : Type} {e : TypeId} {T : Ty α} (A : T.Law) {B : Nat} {w : World} {F : Nat → Prop} {v : Value} {xs : List α} (h : SlO e T w F v xs) (hF : ∀ b, F b → B ≤ b) : Kept B (fun u => SlR T u v xs) w :=
 fun w' k => slO_reads A (slO_turn A h k (fun b hb e => Nat.lt_irrefl b (Nat.lt_of_lt_of_le e (hF b hb))))
theorem Kept.grown {B c : Nat} {P : World → Prop} {w w' : World} (h : Kept B P w) (hg : w.grownBy w' (some c)) (hc : c < B) : Kept B P w' := h.on (turn_grown hg (fun b hb => by cases hb; exact hc))
theorem Kept.below {B C : Nat} {P : World → Prop} {w w' : World} (h : Kept B P w) (hb : Below C w w') (hC : C = w.heap.size) : Kept B P w' := by
 subst hC; exact h.on (turn_below hb)
theorem Kept.set {B : Nat} {P : World → Prop} {w : World} (h : Kept B P w) {g : Nat} (hg : g < B) (j : Nat) (u : Value) : Kept B P (w.setCell ⟨g, j, none⟩ u) := h.on (turn_set (G := fun b => b < B) hg)
theorem Kept.alloc {B : Nat} {P : World → Prop} {w : World} (h : Kept B P w) (o : Obj) : Kept B P (w.alloc o) := h.below ((Below.refl w.heap.size w).alloc (Nat.le_refl _) o) rfl
theorem Kept.drew {B : Nat} {P : World → Prop} {w : World} (h : Kept B P w) : Kept B P w.drew := h.below (below_drew (Below.refl w.heap.size w)) rfl
theorem build_small (qs : List QD) (h : areQB qs = true) : zL tQuery qs ≤ 168 ∧ zL tSpanS (fldTo qs 3) ≤ 7503 := by
 have hl := areQ_len h
 have h1 : zL tQuery qs ≤ qs.length * (1 + 6) := by
  apply zL_le
  intro q hq
  obtain ⟨id, tn, cs, os⟩ := q
  have h2 := areQ_at h hq
  unfold qB queryB fieldsB at h2
  simp only [Bool.and_eq_true, decide_eq_true_eq] at h2
  rw [tQuery_sz, zL_conds, zL_ints]
  omega
 have h2 : zL tSpanS (fldTo qs 3) ≤ (fldTo qs 3).length * (1 + 2500) := by
  apply zL_le
  intro l hlm
  obtain ⟨f, _, rfl⟩ := List.mem_map.1 hlm
  show zL tSpan _ ≤ _
  have h3 : zL tSpan (spansL qs (f : Int)) ≤ (spansL qs (f : Int)).length * (1 + 24) := by
   apply zL_le
   intro r hr
   obtain ⟨a, b, s⟩ := r
   rw [tSpan_sz, zL_ints]
   unfold spansL at hr
   split at hr
   ·
    exact spansTo_sets (fun v => stabL_len qs _ v) 100 _ hr
   ·
    exact absurd hr (List.not_mem_nil)
  have h4 : (spansL qs (f : Int)).length ≤ 100 := by
   unfold spansL
   split
   ·
    exact spansTo_len _ 100
   ·
    simp
  omega
 rw [fldTo_len] at h2
 omega
/-- The tail of a slice that is read. -/
theorem slR_tail {α : Type} {T : Ty α} {w : World} {b off n cap : Nat} {x : α} {xs : List α} (h : SlR T w (.slice (some ⟨b, off, none⟩) n cap) (x :: xs)) : SlR T w (.slice (some ⟨b, off + T.n, none⟩) (n - 1) (cap - 1)) xs := by
 rcases h with ⟨h, _⟩ | ⟨b', off', cap', us, h1, h2, h3, h4⟩
 ·
  cases h
 ·
  simp only [Value.slice.injEq, Option.some.injEq, Addr.mk.injEq, List.length_cons] at h1
  obtain ⟨⟨rfl, rfl, _⟩, rfl, rfl⟩ := h1
  refine Or.inr ⟨b, off + T.n, cap - 1, fun j => us (j + 1), by rw [Nat.add_sub_cancel], by rw [List.length_cons] at h2; omega, h3, fun j hj => ?_⟩
  have := h4 (j + 1) (by rw [List.length_cons]; omega)
  refine ⟨fun i hi => ?_, by simpa using this.2⟩
  rw [← this.1 i hi, show off + T.n + j * T.n + i = off + (j + 1) * T.n + i by rw [Nat.add_mul, Nat.one_mul]; omega]
theorem zL_tail {α : Type} {T : Ty α} {x : α} {xs : List α} {n : Nat} (h : zL T (x :: xs) ≤ n) : zL T xs ≤ n := by
 have e : ∀ ys : List α, zL T ys = ys.length + (ys.map T.sz).sum := fun ys => by show ys.length + ((ys.take ys.length).map T.sz).sum = _; rw [List.take_length]
 rw [e, List.length_cons, List.map_cons, List.sum_cons] at h
 rw [e]; omega
theorem zL_one {qs : List QD} {id tn : Int} {cs : List CondD} {os : List Int} (hc : cs.length ≤ 4) (ho : os.length ≤ 4) (h : zL tQuery qs ≤ 168) : zL tQuery (qs ++ [(id, tn, cs, os)]) ≤ 200 := by
 have e : ∀ ys : List QD, zL tQuery ys = ys.length + (ys.map tQuery.sz).sum := fun ys => by show ys.length + ((ys.take ys.length).map tQuery.sz).sum = _; rw [List.take_length]
 rw [e] at h
 rw [e, List.length_append, List.map_append, List.sum_append]
 have := tQuery_sz (a0 := id) (a1 := tn) (x2 := cs) (x3 := os)
 rw [zL_conds, zL_ints] at this
 simp only [List.map_cons, List.map_nil, List.sum_cons, List.sum_nil, List.length_singleton]
 omega
theorem ap_CN {w : World} {B : Nat} {cv ov : Value} {cs : List CondD} {os : List Int} (hc : OwnsC w B cv cs) (ho : OwnsN w B ov os) : ∀ b, cv.ownBlock = some b → ov.ownBlock ≠ some b := by
 intro b h1
 rcases hc.2 with ⟨rfl, _⟩ | ⟨g, cap, cur, rfl, _, hg, _⟩
 ·
  simp [Value.ownBlock] at h1
 ·
  have : g = b := by simpa [Value.ownBlock] using h1
  subst this
  exact owns_apart ho hg (by decide)
theorem slR_cap {α : Type} {T : Ty α} {w : World} {b off n cap : Nat} {xs : List α} (h : SlR T w (.slice (some ⟨b, off, none⟩) n cap) xs) : n ≤ cap := by
 rcases h with ⟨_, a, c, h⟩ | ⟨b', off', cap', us, h1, h2, _⟩
 ·
  simp only [Value.slice.injEq] at h; omega
 ·
  simp only [Value.slice.injEq] at h1; omega
theorem kept_tail {α : Type} {T : Ty α} {w : World} {B b off n cap : Nat} {x : α} {xs : List α} (h : Kept B (fun u => SlR T u (.slice (some ⟨b, off, none⟩) n cap) (x :: xs)) w) : Kept B (fun u => SlR T u (.slice (some ⟨b, off + T.n, none⟩) (n - 1) (cap - 1)) xs) w := fun u k => slR_tail (h u k)
/-- An index is drawn, in new memory. -/
def DrawnIx (w0 : World) (c : Nat) (v : Value) (xs : List Int) (w : World) (e : Ending) (w' : World) : Prop :=
 ∃ (qv fv : Value) (qs : List QD) (fs : List (List SpanD)), e = .returned (.agg #[qv, fv]) ∧ Kept w.heap.size (fun u => SlR tQuery u qv qs) w' ∧ Kept w.heap.size (fun u => SlR tSpanS u fv fs) w' ∧ zL tQuery qs ≤ 200 ∧ zL tSpanS fs ≤ 8000 ∧ Dr w0 c v xs w w'
set_option maxHeartbeats 8000000 in
set_option maxRecDepth 100000 in
theorem index_any (w0 : World) (c : Nat) (v : Value) (xs : List Int) (w : World) (hC : Cur w0 c v xs w) :
  Calls Tryd.prog 78 #[.pointer (some ⟨c, 0, none⟩)] w (DrawnIx w0 c v xs w) := by
 have D0 := Lib.hid ((Dr.start hC).alloc (.cells #[.slice none 0 0, .slice none 0 0] 49))
 have z0 : Hid (_) := Lib.hid (heap_alloc_new w (.cells #[.slice none 0 0, .slice none 0 0] 49))
 have s0 : Hid (w.heap.size < (w.alloc (.cells #[.slice none 0 0, .slice none 0 0] 49)).heap.size) := Lib.hid (by simp)
 have hcB := cur_lt hC
 clear hC
 go_enter Tryd.func78, Tryd.ntmps78
 go_wp2_with fail
 generalize w.alloc (.cells #[.slice none 0 0, .slice none 0 0] 49) = W at *
 refine (queriesV_any w0 c v xs _ D0.out.cur).mono ?_
 rintro e w1 ⟨u, qs, rfl, hq, hql, ⟨hqa, _⟩, d1⟩
 have D1 := Lib.hid (D0.out.call d1.cur d1.gr)
 have z1 := Lib.hid (keep d1.gr (D0.out.ne (Nat.le_refl _)) z0.out)
 have HS := Lib.hid (build_small qs hqa)
 have HE : Hid (buildB qs = (qs, fldTo qs 3)) := Lib.hid (by unfold buildB; rw [if_pos hqa])
 have hi := specBuildIndex u qs w1 (queries_slR (holdsQ_queries hq)) (by have := HS.out.1; omega)
 rw [HE.out] at hi
 obtain ⟨ua, uc, rfl⟩ := holdsQ_len hq
 have HI := Lib.hid hi
 have s1 := Lib.hid (Nat.lt_of_lt_of_le s0.out d1.size)
 clear hi hq d1 D0 z0 hqa
 go_wp2_with fail
 refine HI.out.mono ?_
 rintro e w2 ⟨cs, rfl, ho, b2⟩
 obtain ⟨v0, v1, F0, F1, rfl, o0, o1, f0, f1, hd⟩ := tIndex_O ho
 obtain ⟨a0, c0, rfl⟩ := slO_len o0
 rcases slO_form o1 with ⟨_, h⟩ | ⟨g1, c1, rfl, _, _⟩
 ·
  exact absurd (congrArg List.length h) (by rw [fldTo_len]; decide)
 have HF : ∃ y ys, fldTo qs 3 = y :: ys := by
  cases h : fldTo qs 3 with
  | nil => exact absurd (congrArg List.length h) (by rw [fldTo_len]; decide)
  | cons y ys => exact ⟨y, ys, rfl⟩
 obtain ⟨y, ys, hf⟩ := HF
 have HF := Lib.hid hf
 rw [fldTo_len] at o1
 have HC1 := Lib.hid (slR_cap (slO_reads tSpanS_law o1))
 have HL : Hid (qs.length ≤ 1048576) := Lib.hid (by omega)
 have D2 := Lib.hid (D1.out.below b2 D1.out.size)
 have z2 := Lib.hid ((b2.block w.heap.size s1.out).trans z1.out)
 have s2 := Lib.hid (Nat.lt_of_lt_of_le s1.out b2.size)
 have O0 := Lib.hid (slO_lt tQuery_law o0)
 have O1 := Lib.hid (slO_lt tSpanS_law o1)
 have Q0 : Hid (∀ b, (fun b => F0 b ∧ b < w2.heap.size) b → w.heap.size < b ∧ b < w2.heap.size) := Lib.hid (fun b h => ⟨Nat.lt_of_lt_of_le s1.out (f0 b h.1), h.2⟩)
 have Q1 : Hid (∀ b, (fun b => F1 b ∧ b < w2.heap.size) b → w.heap.size < b ∧ b < w2.heap.size) := Lib.hid (fun b h => ⟨Nat.lt_of_lt_of_le s1.out (f1 b h.1), h.2⟩)
 have Q01 : Hid (∀ b, (fun b => F0 b ∧ b < w2.heap.size) b → ¬ (fun b => F1 b ∧ b < w2.heap.size) b) := Lib.hid (fun b h g => hd b h.1 g.1)
 generalize (fun b => F0 b ∧ b < w2.heap.size) = G0 at *
 generalize (fun b => F1 b ∧ b < w2.heap.size) = G1 at *
 clear HI ho o0 o1 b2 D1 z1 s0 f0 f1 hd hf
 rw [fldTo_len]
 go_wp2_with fail
 have hal : Below w2.heap.size w2 (w2.alloc (.cells #[.slice a0 qs.length c0, .slice (some ⟨g1, 0, none⟩) 3 c1] 49)) := (Below.refl _ _).alloc (Nat.le_refl _) _
 have B0 := Lib.hid (keepA (.cells #[.slice a0 qs.length c0, .slice (some ⟨g1, 0, none⟩) 3 c1] 49) z2.out)
 have BX := Lib.hid (heap_alloc_new w2 (.cells #[.slice a0 qs.length c0, .slice (some ⟨g1, 0, none⟩) 3 c1] 49))
 have P0 := Lib.hid (slO_fresh tQuery_law O0.out hal)
 have P1 := Lib.hid (slO_fresh tSpanS_law O1.out hal)
 have D := Lib.hid (D2.out.alloc (.cells #[.slice a0 qs.length c0, .slice (some ⟨g1, 0, none⟩) 3 c1] 49))
 have ZX := s2
 have ZX2 : Hid (w2.heap.size < (w2.alloc (.cells #[.slice a0 qs.length c0, .slice (some ⟨g1, 0, none⟩) 3 c1] 49)).heap.size) := Lib.hid (by simp [World.size_alloc])
 clear hal O0 O1 D2 z2 s2
 generalize w2.alloc (.cells #[.slice a0 qs.length c0, .slice (some ⟨g1, 0, none⟩) 3 c1] 49) = W2 at *
 generalize w2.heap.size = X at *
 refine (below_any w0 c v xs _ D.out.cur 16 (by omega) (by omega)).mono ?_
 rintro e w3 ⟨x, x0, x1, rfl, hC3, hg3⟩
 replace B0 := Lib.hid (keep hg3 (D.out.ne (Nat.le_refl _)) B0.out)
 replace BX := Lib.hid (keep hg3 (D.out.ne (Nat.le_of_lt ZX.out)) BX.out)
 replace P0 := Lib.hid (slO_turn tQuery_law P0.out (turn_grown (G := fun b => b = c) hg3 (fun b hb => by cases hb; rfl)) (fun b h1 h2 => by have := (Q0.out b h1).1; omega))
 replace P1 := Lib.hid (slO_turn tSpanS_law P1.out (turn_grown (G := fun b => b = c) hg3 (fun b hb => by cases hb; rfl)) (fun b h1 h2 => by have := (Q1.out b h1).1; omega))
 have ZX3 : Hid (X < w3.heap.size) := Lib.hid (Nat.lt_of_lt_of_le ZX2.out hg3.size)
 replace D := Lib.hid (D.out.call hC3 hg3)
 clear hC3 hg3 ZX2 W2
 by_cases hx0 : x = 0
 ·
  subst hx0
  go_wp2
  refine wp_region_held_drew (S := fun w' => True) (by kernel_rfl) trivial (fun hHeld => ?_)
  have cdr : Below w3.heap.size w3 w3.drew := below_drew (Below.refl _ _)
  replace B0 := Lib.hid ((cdr.block w.heap.size (Array.getElem?_eq_some_iff.1 B0.out).1).trans B0.out)
  replace BX := Lib.hid ((cdr.block X (Array.getElem?_eq_some_iff.1 BX.out).1).trans BX.out)
  replace P0 := Lib.hid (slO_fresh tQuery_law P0.out cdr)
  replace P1 := Lib.hid (slO_fresh tSpanS_law P1.out cdr)
  replace D := Lib.hid (D.out.below cdr D.out.size)
  clear cdr
  refine tR (i := 0) (v := ?_) ?_ ?_; rotate_left
  ·
   intro w hSw; (try dsimp only at hSw); go_simp; try (with_reducible rfl)
  try simp only [Act.put, lA, lB, lC]
  refine tR (i := 2) (v := ?_) ?_ ?_; rotate_left
  ·
   intro w hSw; (try dsimp only at hSw); go_simp; try (with_reducible rfl)
  try simp only [Act.put, lA, lB, lC]
  refine wpAnyH_ready (rs := [1, 3]) (by kernel_rfl) (by simp) ?_
  refine (AllReadyH.cons (o := _) (by simp only [hA, hB, hC]; rfl) (fun K hK => ?_) (AllReadyH.cons (o := _) (by simp only [hA, hB, hC]; rfl) (fun K hK => ?_) AllReadyH.nil))
  ·
   have p_BX_0 := (cell_of_row (w3.drew) _ 0 _ _ _ BX.out).trans (show _ = some (Value.slice a0 qs.length c0) from rfl)
   have p_BX_1 := (cell_of_row (w3.drew) _ 1 _ _ _ BX.out).trans (show _ = some (Value.slice (some ⟨g1, 0, none⟩) 3 c1) from rfl)
   go_simp
   clear p_BX_0 p_BX_1
   refine hK.out _ _ trivial (fun hHeld => ?_)
   clear hK K
   try simp only [Act.put, lA, lB, lC]
   refine wpAnyH_ready (rs := [3]) (by kernel_rfl) (by simp) ?_
   refine (AllReadyH.cons (o := _) (by simp only [hA, hB, hC]; rfl) (fun K hK => ?_) AllReadyH.nil)
   go_simp
   refine (anyQuery_any w0 c v xs _ D.out.cur).mono ?_
   rintro e w5 ⟨id, tn, cs, os, cv, ov, rfl, oc, on, hcl, hol, d5⟩
   have hdr := Lib.hid (ap_CN oc on)
   obtain ⟨ca, cc, rfl⟩ := ownsC_len oc
   obtain ⟨oa, occ, rfl⟩ := ints_len (ownsN_ints on)
   have hne : w.heap.size ≤ w.heap.size := Nat.le_refl _
   replace B0 := Lib.hid (keep d5.gr (D.out.ne (by have := ZX.out; omega)) B0.out)
   replace BX := Lib.hid (keep d5.gr (D.out.ne (by have := ZX.out; omega)) BX.out)
   replace P0 := Lib.hid (slO_turn tQuery_law P0.out (turn_grown (G := fun b => b = c) d5.gr (fun b hb => by cases hb; rfl)) (fun b h1 h2 => by have := (Q0.out b h1).1; omega))
   replace P1 := Lib.hid (slO_turn tSpanS_law P1.out (turn_grown (G := fun b => b = c) d5.gr (fun b hb => by cases hb; rfl)) (fun b h1 h2 => by have := (Q1.out b h1).1; omega))
   have ZY : Hid (X < w3.heap.size) := ZX3
   have Z5 : Hid (w3.heap.size ≤ w5.heap.size) := Lib.hid d5.gr.size
   have HN : Hid (tQuery.O w5 (fun b => w3.heap.size ≤ b) [.int .i64 id, .int .i64 tn, .slice ca cs.length cc, .slice oa os.length occ] (id, tn, cs, os)) := Lib.hid (tQuery_mkO (ownsC_slO oc (F := fun b => (Value.slice ca cs.length cc).ownBlock = some b) (fun b h => h)) (own_slO on (F := fun b => (Value.slice oa os.length occ).ownBlock = some b) (fun b h => h)) (fun b h => (oc.lt b h).1) (fun b h => (on.lt b h).1) (fun b h g => hdr.out b h g))
   have HCL := Lib.hid hcl
   have HOL := Lib.hid hol
   replace D := Lib.hid (D.out.call d5.cur d5.gr)
   clear d5 oc on hcl hol hdr hne
   refine hK.out _ _ trivial (fun hHeld => ?_)
   clear hK K
   try simp only [Act.put, lA, lB, lC]
   refine wpAnyH_ready (rs := [4]) (by kernel_rfl) (by simp) ?_
   refine (AllReadyH.cons (o := _) (by simp only [hA, hB, hC]; rfl) (fun K hK => ?_) AllReadyH.nil)
   have KB0 := B0
   have KBX := BX
   have KP0 := P0
   have KP1 := P1
   have KD := D
   go_simp
   have hal : Below w5.heap.size w5 (w5.alloc (.cells #[.int .i64 id, .int .i64 tn, .slice ca cs.length cc, .slice oa os.length occ] 63)) := (Below.refl _ _).alloc (Nat.le_refl _) _
   replace B0 := Lib.hid ((hal.block w.heap.size (Array.getElem?_eq_some_iff.1 B0.out).1).trans B0.out)
   replace BX := Lib.hid ((hal.block X (Array.getElem?_eq_some_iff.1 BX.out).1).trans BX.out)
   replace P0 := Lib.hid (slO_fresh tQuery_law P0.out hal)
   replace P1 := Lib.hid (slO_fresh tSpanS_law P1.out hal)
   replace D := Lib.hid (D.out.below hal D.out.size)
   clear hal
   refine hK.out _ _ trivial (fun hHeld => ?_)
   clear hK K
   try simp only [Act.put, lA, lB, lC]
   refine wpAnyH_ready (rs := [5]) (by kernel_rfl) (by simp) ?_
   refine (AllReadyH.cons (o := _) (by simp only [hA, hB, hC]; rfl) (fun K hK => ?_) AllReadyH.nil)
   refine step_append_T tQuery_law info_T_Query Tryd.underlying34 rfl rfl (.tmp 12) (.tmp 15) rfl (fun b => G0 b ∨ w3.heap.size ≤ b) w3.heap.size _ qs rfl (slO_mono KP0.out (fun b hb => ⟨Or.inl hb, by have := (Q0.out b hb).2; have := ZX3.out; omega⟩)) Z5.out (fun b hb => Or.inr hb) (by have := HL.out; omega) [.int .i64 id, .int .i64 tn, .slice ca cs.length cc, .slice oa os.length occ] (id, tn, cs, os) HN.out (by simp [Value.oneCell']) 1 _ rfl rfl ?_
   intro v' w6 o6 t6
   obtain ⟨ga, gc, hv⟩ := slO_len o6
   generalize (qs ++ [(id, tn, cs, os)]).length = n6 at hv
   subst hv
   have y1 := ZX.out; have y2 := ZX3.out; have y3 := Z5.out
   replace B0 := Lib.hid ((t6.block w.heap.size (by omega) (fun h => by rcases h with ⟨h | h, h'⟩; (have := (Q0.out _ h).1; omega); omega)).trans KB0.out)
   replace BX := Lib.hid ((t6.block X (by omega) (fun h => by rcases h with ⟨h | h, h'⟩; (have := (Q0.out _ h).2; omega); omega)).trans KBX.out)
   replace P1 := Lib.hid (slO_turn tSpanS_law KP1.out t6 (fun b h1 h => by rcases h with ⟨h | h, h'⟩; (exact Q01.out b h h1); (have := (Q1.out b h1).2; omega)))
   replace D := Lib.hid (KD.out.below (below_turn (Below.refl w.heap.size w5) t6 (fun b h => by rcases h with ⟨h | h, h'⟩; (have := (Q0.out _ h).1; omega); (have := KD.out.size; omega)) KD.out.size) (Nat.le_refl _))
   have PG := Lib.hid o6
   clear o6 t6 P0 KP0 KP1 KD KB0 KBX y1 y2 y3
   refine hK.out _ _ trivial (fun hHeld => ?_)
   clear hK K
   try simp only [Act.put, lA, lB, lC]
   refine tR (i := 6) (v := ?_) ?_ ?_; rotate_left
   ·
    intro w hSw; (try dsimp only at hSw); go_simp; try (with_reducible rfl)
   try simp only [Act.put, lA, lB, lC]
   refine wpAnyH_ready (rs := [7]) (by kernel_rfl) (by simp) ?_
   refine (AllReadyH.cons (o := _) (by simp only [hA, hB, hC]; rfl) (fun K hK => ?_) AllReadyH.nil)
   have cx0 := (cell_of_row w6 _ 0 _ _ _ BX.out).trans (show _ = some (Value.slice a0 qs.length c0) from rfl)
   have fx0 := frozen_of_row w6 _ 0 _ _ BX.out
   go_simp
   clear cx0 fx0
   have tt : Turn (fun b => b = X) w6 (w6.setCell ⟨X, 0, none⟩ (.slice ga n6 gc)) := turn_set (G := fun b => b = X) (g := X) (j := 0) (u := (.slice ga n6 gc)) rfl
   have r := heap_setCell_same w6 X 0 _ _ (.slice ga n6 gc) BX.out
   have y1 := ZX.out; have y2 := ZX3.out
   replace BX : Hid ((w6.setCell ⟨X, 0, none⟩ (.slice ga n6 gc)).heap[X]? = some (.cells #[(.slice ga n6 gc), .slice (some ⟨g1, 0, none⟩) 3 c1] 49 (0, 0))) := Lib.hid (by simpa using r)
   have e6 := (Array.getElem?_eq_some_iff.1 B0.out).1
   replace B0 := Lib.hid ((tt.block w.heap.size e6 (fun h => by omega)).trans B0.out)
   replace P1 := Lib.hid (slO_turn tSpanS_law P1.out tt (fun b h1 h2 => by have := (Q1.out b h1).2; omega))
   replace PG := Lib.hid (slO_turn tQuery_law PG.out tt (fun b h1 h2 => by rcases h1 with h1 | h1; (have := (Q0.out b h1).2; omega); omega))
   replace D := Lib.hid (D.out.set (R := X) (by omega) 0 (.slice ga n6 gc))
   clear tt y1 y2 r e6
   generalize w6.setCell ⟨X, 0, none⟩ (.slice ga n6 gc) = w7 at *
   refine hK.out _ _ trivial (fun hHeld => ?_)
   clear hK K
   try simp only [Act.put, lA, lB, lC]
   refine wpAnyH_done (by kernel_rfl) ?_ _
   clear hHeld
   have cx0 := (cell_of_row w7 _ 0 _ _ _ BX.out).trans (show _ = some (Value.slice ga n6 gc) from rfl)
   have cx1 := (cell_of_row w7 _ 1 _ _ _ BX.out).trans (show _ = some (Value.slice (some ⟨g1, 0, none⟩) 3 c1) from rfl)
   have bc0 := (cell_of_row w7 _ 0 _ _ _ B0.out).trans (show _ = some (Value.slice none 0 0) from rfl)
   have bc1 := (cell_of_row w7 _ 1 _ _ _ B0.out).trans (show _ = some (Value.slice none 0 0) from rfl)
   have bf0 := frozen_of_row w7 _ 0 _ _ B0.out
   have bf1 := frozen_of_row w7 _ 1 _ _ B0.out
   have r := heap_setCell_same _ w.heap.size 1 _ _ (Value.slice (some ⟨g1, 0, none⟩) 3 c1) (heap_setCell_same w7 w.heap.size 0 _ _ (Value.slice ga n6 gc) B0.out)
   have tt : Turn (fun b => b = w.heap.size) w7 ((w7.setCell ⟨w.heap.size, 0, none⟩ (Value.slice ga n6 gc)).setCell ⟨w.heap.size, 1, none⟩ (Value.slice (some ⟨g1, 0, none⟩) 3 c1)) := ((Turn.refl (fun b => b = w.heap.size) w7).trans (turn_set (G := fun b => b = w.heap.size) (g := w.heap.size) (j := 0) (u := (Value.slice ga n6 gc)) rfl)).trans (turn_set (G := fun b => b = w.heap.size) (g := w.heap.size) (j := 1) (u := (Value.slice (some ⟨g1, 0, none⟩) 3 c1)) rfl)
   have e0 := cell_of_row _ _ 0 _ _ _ r
   have e1 := cell_of_row _ _ 1 _ _ _ r
   simp at e0 e1
   have y1 := ZX.out; have y2 := ZX3.out
   have sQ := slO_turn tQuery_law PG.out tt (fun b h1 h2 => by rcases h1 with h1 | h1; (have := (Q0.out b h1).1; omega); omega)
   have KQ := Lib.hid (kept_slO (B := w.heap.size) tQuery_law sQ (fun b h1 => by rcases h1 with h1 | h1; (have := (Q0.out b h1).1; omega); omega))
   have sF := slO_turn tSpanS_law P1.out tt (fun b h1 h2 => by have := (Q1.out b h1).1; omega)
   have KF := Lib.hid (kept_slO (B := w.heap.size) tSpanS_law sF (fun b h1 => by have := (Q1.out b h1).1; omega))
   have DE := Lib.hid ((D.out.set (R := w.heap.size) (Nat.le_refl _) 0 (Value.slice ga n6 gc)).set (R := w.heap.size) (Nat.le_refl _) 1 (Value.slice (some ⟨g1, 0, none⟩) 3 c1))
   clear r tt y1 y2 D BX B0 sQ sF
   go_wp2
   refine bodyPost_ret (v := .agg #[(Value.slice ga n6 gc), (Value.slice (some ⟨g1, 0, none⟩) 3 c1)]) ?_ rfl ?_
   ·
    simp [results, Tryd.f78, go_sem, e0, e1]
   ·
    exact ⟨_, _, _, _, rfl, KQ.out, KF.out, by have := HS.out.1; exact zL_one HCL.out HOL.out this, by have := HS.out.2; omega, DE.out⟩
  ·
   go_simp
   refine (anyQuery_any w0 c v xs _ D.out.cur).mono ?_
   rintro e w5 ⟨id, tn, cs, os, cv, ov, rfl, oc, on, hcl, hol, d5⟩
   have hdr := Lib.hid (ap_CN oc on)
   obtain ⟨ca, cc, rfl⟩ := ownsC_len oc
   obtain ⟨oa, occ, rfl⟩ := ints_len (ownsN_ints on)
   have hne : w.heap.size ≤ w.heap.size := Nat.le_refl _
   replace B0 := Lib.hid (keep d5.gr (D.out.ne (by have := ZX.out; omega)) B0.out)
   replace BX := Lib.hid (keep d5.gr (D.out.ne (by have := ZX.out; omega)) BX.out)
   replace P0 := Lib.hid (slO_turn tQuery_law P0.out (turn_grown (G := fun b => b = c) d5.gr (fun b hb => by cases hb; rfl)) (fun b h1 h2 => by have := (Q0.out b h1).1; omega))
   replace P1 := Lib.hid (slO_turn tSpanS_law P1.out (turn_grown (G := fun b => b = c) d5.gr (fun b hb => by cases hb; rfl)) (fun b h1 h2 => by have := (Q1.out b h1).1; omega))
   have ZY : Hid (X < w3.heap.size) := ZX3
   have Z5 : Hid (w3.heap.size ≤ w5.heap.size) := Lib.hid d5.gr.size
   have HN : Hid (tQuery.O w5 (fun b => w3.heap.size ≤ b) [.int .i64 id, .int .i64 tn, .slice ca cs.length cc, .slice oa os.length occ] (id, tn, cs, os)) := Lib.hid (tQuery_mkO (ownsC_slO oc (F := fun b => (Value.slice ca cs.length cc).ownBlock = some b) (fun b h => h)) (own_slO on (F := fun b => (Value.slice oa os.length occ).ownBlock = some b) (fun b h => h)) (fun b h => (oc.lt b h).1) (fun b h => (on.lt b h).1) (fun b h g => hdr.out b h g))
   have HCL := Lib.hid hcl
   have HOL := Lib.hid hol
   replace D := Lib.hid (D.out.call d5.cur d5.gr)
   clear d5 oc on hcl hol hdr hne
   refine hK.out _ _ trivial (fun hHeld => ?_)
   clear hK K
   try simp only [Act.put, lA, lB, lC]
   refine wpAnyH_ready (rs := [1, 4]) (by kernel_rfl) (by simp) ?_
   refine (AllReadyH.cons (o := _) (by simp only [hA, hB, hC]; rfl) (fun K hK => ?_) (AllReadyH.cons (o := _) (by simp only [hA, hB, hC]; rfl) (fun K hK => ?_) AllReadyH.nil))
   ·
    have p_BX_0 := (cell_of_row w5 _ 0 _ _ _ BX.out).trans (show _ = some (Value.slice a0 qs.length c0) from rfl)
    have p_BX_1 := (cell_of_row w5 _ 1 _ _ _ BX.out).trans (show _ = some (Value.slice (some ⟨g1, 0, none⟩) 3 c1) from rfl)
    go_simp
    clear p_BX_0 p_BX_1
    refine hK.out _ _ trivial (fun hHeld => ?_)
    clear hK K
    try simp only [Act.put, lA, lB, lC]
    refine wpAnyH_ready (rs := [4]) (by kernel_rfl) (by simp) ?_
    refine (AllReadyH.cons (o := _) (by simp only [hA, hB, hC]; rfl) (fun K hK => ?_) AllReadyH.nil)
    have KB0 := B0
    have KBX := BX
    have KP0 := P0
    have KP1 := P1
    have KD := D
    go_simp
    have hal : Below w5.heap.size w5 (w5.alloc (.cells #[.int .i64 id, .int .i64 tn, .slice ca cs.length cc, .slice oa os.length occ] 63)) := (Below.refl _ _).alloc (Nat.le_refl _) _
    replace B0 := Lib.hid ((hal.block w.heap.size (Array.getElem?_eq_some_iff.1 B0.out).1).trans B0.out)
    replace BX := Lib.hid ((hal.block X (Array.getElem?_eq_some_iff.1 BX.out).1).trans BX.out)
    replace P0 := Lib.hid (slO_fresh tQuery_law P0.out hal)
    replace P1 := Lib.hid (slO_fresh tSpanS_law P1.out hal)
    replace D := Lib.hid (D.out.below hal D.out.size)
    clear hal
    refine hK.out _ _ trivial (fun hHeld => ?_)
    clear hK K
    try simp only [Act.put, lA, lB, lC]
    refine wpAnyH_ready (rs := [5]) (by kernel_rfl) (by simp) ?_
    refine (AllReadyH.cons (o := _) (by simp only [hA, hB, hC]; rfl) (fun K hK => ?_) AllReadyH.nil)
    refine step_append_T tQuery_law info_T_Query Tryd.underlying34 rfl rfl (.tmp 12) (.tmp 15) rfl (fun b => G0 b ∨ w3.heap.size ≤ b) w3.heap.size _ qs rfl (slO_mono KP0.out (fun b hb => ⟨Or.inl hb, by have := (Q0.out b hb).2; have := ZX3.out; omega⟩)) Z5.out (fun b hb => Or.inr hb) (by have := HL.out; omega) [.int .i64 id, .int .i64 tn, .slice ca cs.length cc, .slice oa os.length occ] (id, tn, cs, os) HN.out (by simp [Value.oneCell']) 1 _ rfl rfl ?_
    intro v' w6 o6 t6
    obtain ⟨ga, gc, hv⟩ := slO_len o6
    generalize (qs ++ [(id, tn, cs, os)]).length = n6 at hv
    subst hv
    have y1 := ZX.out; have y2 := ZX3.out; have y3 := Z5.out
    replace B0 := Lib.hid ((t6.block w.heap.size (by omega) (fun h => by rcases h with ⟨h | h, h'⟩; (have := (Q0.out _ h).1; omega); omega)).trans KB0.out)
    replace BX := Lib.hid ((t6.block X (by omega) (fun h => by rcases h with ⟨h | h, h'⟩; (have := (Q0.out _ h).2; omega); omega)).trans KBX.out)
    replace P1 := Lib.hid (slO_turn tSpanS_law KP1.out t6 (fun b h1 h => by rcases h with ⟨h | h, h'⟩; (exact Q01.out b h h1); (have := (Q1.out b h1).2; omega)))
    replace D := Lib.hid (KD.out.below (below_turn (Below.refl w.heap.size w5) t6 (fun b h => by rcases h with ⟨h | h, h'⟩; (have := (Q0.out _ h).1; omega); (have := KD.out.size; omega)) KD.out.size) (Nat.le_refl _))
    have PG := Lib.hid o6
    clear o6 t6 P0 KP0 KP1 KD KB0 KBX y1 y2 y3
    refine hK.out _ _ trivial (fun hHeld => ?_)
    clear hK K
    try simp only [Act.put, lA, lB, lC]
    refine tR (i := 6) (v := ?_) ?_ ?_; rotate_left
    ·
     intro w hSw; (try dsimp only at hSw); go_simp; try (with_reducible rfl)
    try simp only [Act.put, lA, lB, lC]
    refine wpAnyH_ready (rs := [7]) (by kernel_rfl) (by simp) ?_
    refine (AllReadyH.cons (o := _) (by simp only [hA, hB, hC]; rfl) (fun K hK => ?_) AllReadyH.nil)
    have cx0 := (cell_of_row w6 _ 0 _ _ _ BX.out).trans (show _ = some (Value.slice a0 qs.length c0) from rfl)
    have fx0 := frozen_of_row w6 _ 0 _ _ BX.out
    go_simp
    clear cx0 fx0
    have tt : Turn (fun b => b = X) w6 (w6.setCell ⟨X, 0, none⟩ (.slice ga n6 gc)) := turn_set (G := fun b => b = X) (g := X) (j := 0) (u := (.slice ga n6 gc)) rfl
    have r := heap_setCell_same w6 X 0 _ _ (.slice ga n6 gc) BX.out
    have y1 := ZX.out; have y2 := ZX3.out
    replace BX : Hid ((w6.setCell ⟨X, 0, none⟩ (.slice ga n6 gc)).heap[X]? = some (.cells #[(.slice ga n6 gc), .slice (some ⟨g1, 0, none⟩) 3 c1] 49 (0, 0))) := Lib.hid (by simpa using r)
    have e6 := (Array.getElem?_eq_some_iff.1 B0.out).1
    replace B0 := Lib.hid ((tt.block w.heap.size e6 (fun h => by omega)).trans B0.out)
    replace P1 := Lib.hid (slO_turn tSpanS_law P1.out tt (fun b h1 h2 => by have := (Q1.out b h1).2; omega))
    replace PG := Lib.hid (slO_turn tQuery_law PG.out tt (fun b h1 h2 => by rcases h1 with h1 | h1; (have := (Q0.out b h1).2; omega); omega))
    replace D := Lib.hid (D.out.set (R := X) (by omega) 0 (.slice ga n6 gc))
    clear tt y1 y2 r e6
    generalize w6.setCell ⟨X, 0, none⟩ (.slice ga n6 gc) = w7 at *
    refine hK.out _ _ trivial (fun hHeld => ?_)
    clear hK K
    try simp only [Act.put, lA, lB, lC]
    refine wpAnyH_done (by kernel_rfl) ?_ _
    clear hHeld
    have cx0 := (cell_of_row w7 _ 0 _ _ _ BX.out).trans (show _ = some (Value.slice ga n6 gc) from rfl)
    have cx1 := (cell_of_row w7 _ 1 _ _ _ BX.out).trans (show _ = some (Value.slice (some ⟨g1, 0, none⟩) 3 c1) from rfl)
    have bc0 := (cell_of_row w7 _ 0 _ _ _ B0.out).trans (show _ = some (Value.slice none 0 0) from rfl)
    have bc1 := (cell_of_row w7 _ 1 _ _ _ B0.out).trans (show _ = some (Value.slice none 0 0) from rfl)
    have bf0 := frozen_of_row w7 _ 0 _ _ B0.out
    have bf1 := frozen_of_row w7 _ 1 _ _ B0.out
    have r := heap_setCell_same _ w.heap.size 1 _ _ (Value.slice (some ⟨g1, 0, none⟩) 3 c1) (heap_setCell_same w7 w.heap.size 0 _ _ (Value.slice ga n6 gc) B0.out)
    have tt : Turn (fun b => b = w.heap.size) w7 ((w7.setCell ⟨w.heap.size, 0, none⟩ (Value.slice ga n6 gc)).setCell ⟨w.heap.size, 1, none⟩ (Value.slice (some ⟨g1, 0, none⟩) 3 c1)) := ((Turn.refl (fun b => b = w.heap.size) w7).trans (turn_set (G := fun b => b = w.heap.size) (g := w.heap.size) (j := 0) (u := (Value.slice ga n6 gc)) rfl)).trans (turn_set (G := fun b => b = w.heap.size) (g := w.heap.size) (j := 1) (u := (Value.slice (some ⟨g1, 0, none⟩) 3 c1)) rfl)
    have e0 := cell_of_row _ _ 0 _ _ _ r
    have e1 := cell_of_row _ _ 1 _ _ _ r
    simp at e0 e1
    have y1 := ZX.out; have y2 := ZX3.out
    have sQ := slO_turn tQuery_law PG.out tt (fun b h1 h2 => by rcases h1 with h1 | h1; (have := (Q0.out b h1).1; omega); omega)
    have KQ := Lib.hid (kept_slO (B := w.heap.size) tQuery_law sQ (fun b h1 => by rcases h1 with h1 | h1; (have := (Q0.out b h1).1; omega); omega))
    have sF := slO_turn tSpanS_law P1.out tt (fun b h1 h2 => by have := (Q1.out b h1).1; omega)
    have KF := Lib.hid (kept_slO (B := w.heap.size) tSpanS_law sF (fun b h1 => by have := (Q1.out b h1).1; omega))
    have DE := Lib.hid ((D.out.set (R := w.heap.size) (Nat.le_refl _) 0 (Value.slice ga n6 gc)).set (R := w.heap.size) (Nat.le_refl _) 1 (Value.slice (some ⟨g1, 0, none⟩) 3 c1))
    clear r tt y1 y2 D BX B0 sQ sF
    go_wp2
    refine bodyPost_ret (v := .agg #[(Value.slice ga n6 gc), (Value.slice (some ⟨g1, 0, none⟩) 3 c1)]) ?_ rfl ?_
    ·
     simp [results, Tryd.f78, go_sem, e0, e1]
    ·
     exact ⟨_, _, _, _, rfl, KQ.out, KF.out, by have := HS.out.1; exact zL_one HCL.out HOL.out this, by have := HS.out.2; omega, DE.out⟩
   ·
    have KB0 := B0
    have KBX := BX
    have KP0 := P0
    have KP1 := P1
    have KD := D
    go_simp
    have hal : Below w5.heap.size w5 (w5.alloc (.cells #[.int .i64 id, .int .i64 tn, .slice ca cs.length cc, .slice oa os.length occ] 63)) := (Below.refl _ _).alloc (Nat.le_refl _) _
    replace B0 := Lib.hid ((hal.block w.heap.size (Array.getElem?_eq_some_iff.1 B0.out).1).trans B0.out)
    replace BX := Lib.hid ((hal.block X (Array.getElem?_eq_some_iff.1 BX.out).1).trans BX.out)
    replace P0 := Lib.hid (slO_fresh tQuery_law P0.out hal)
    replace P1 := Lib.hid (slO_fresh tSpanS_law P1.out hal)
    replace D := Lib.hid (D.out.below hal D.out.size)
    clear hal
    refine hK.out _ _ trivial (fun hHeld => ?_)
    clear hK K
    try simp only [Act.put, lA, lB, lC]
    refine wpAnyH_ready (rs := [1]) (by kernel_rfl) (by simp) ?_
    refine (AllReadyH.cons (o := _) (by simp only [hA, hB, hC]; rfl) (fun K hK => ?_) AllReadyH.nil)
    have p_BX_0 := (cell_of_row (w5.alloc (.cells #[.int .i64 id, .int .i64 tn, .slice ca cs.length cc, .slice oa os.length occ] 63)) _ 0 _ _ _ BX.out).trans (show _ = some (Value.slice a0 qs.length c0) from rfl)
    have p_BX_1 := (cell_of_row (w5.alloc (.cells #[.int .i64 id, .int .i64 tn, .slice ca cs.length cc, .slice oa os.length occ] 63)) _ 1 _ _ _ BX.out).trans (show _ = some (Value.slice (some ⟨g1, 0, none⟩) 3 c1) from rfl)
    go_simp
    clear p_BX_0 p_BX_1
    refine hK.out _ _ trivial (fun hHeld => ?_)
    clear hK K
    try simp only [Act.put, lA, lB, lC]
    refine wpAnyH_ready (rs := [5]) (by kernel_rfl) (by simp) ?_
    refine (AllReadyH.cons (o := _) (by simp only [hA, hB, hC]; rfl) (fun K hK => ?_) AllReadyH.nil)
    refine step_append_T tQuery_law info_T_Query Tryd.underlying34 rfl rfl (.tmp 12) (.tmp 15) rfl (fun b => G0 b ∨ w3.heap.size ≤ b) w3.heap.size _ qs rfl (slO_mono KP0.out (fun b hb => ⟨Or.inl hb, by have := (Q0.out b hb).2; have := ZX3.out; omega⟩)) Z5.out (fun b hb => Or.inr hb) (by have := HL.out; omega) [.int .i64 id, .int .i64 tn, .slice ca cs.length cc, .slice oa os.length occ] (id, tn, cs, os) HN.out (by simp [Value.oneCell']) 1 _ rfl rfl ?_
    intro v' w6 o6 t6
    obtain ⟨ga, gc, hv⟩ := slO_len o6
    generalize (qs ++ [(id, tn, cs, os)]).length = n6 at hv
    subst hv
    have y1 := ZX.out; have y2 := ZX3.out; have y3 := Z5.out
    replace B0 := Lib.hid ((t6.block w.heap.size (by omega) (fun h => by rcases h with ⟨h | h, h'⟩; (have := (Q0.out _ h).1; omega); omega)).trans KB0.out)
    replace BX := Lib.hid ((t6.block X (by omega) (fun h => by rcases h with ⟨h | h, h'⟩; (have := (Q0.out _ h).2; omega); omega)).trans KBX.out)
    replace P1 := Lib.hid (slO_turn tSpanS_law KP1.out t6 (fun b h1 h => by rcases h with ⟨h | h, h'⟩; (exact Q01.out b h h1); (have := (Q1.out b h1).2; omega)))
    replace D := Lib.hid (KD.out.below (below_turn (Below.refl w.heap.size w5) t6 (fun b h => by rcases h with ⟨h | h, h'⟩; (have := (Q0.out _ h).1; omega); (have := KD.out.size; omega)) KD.out.size) (Nat.le_refl _))
    have PG := Lib.hid o6
    clear o6 t6 P0 KP0 KP1 KD KB0 KBX y1 y2 y3
    refine hK.out _ _ trivial (fun hHeld => ?_)
    clear hK K
    try simp only [Act.put, lA, lB, lC]
    refine tR (i := 6) (v := ?_) ?_ ?_; rotate_left
    ·
     intro w hSw; (try dsimp only at hSw); go_simp; try (with_reducible rfl)
    try simp only [Act.put, lA, lB, lC]
    refine wpAnyH_ready (rs := [7]) (by kernel_rfl) (by simp) ?_
    refine (AllReadyH.cons (o := _) (by simp only [hA, hB, hC]; rfl) (fun K hK => ?_) AllReadyH.nil)
    have cx0 := (cell_of_row w6 _ 0 _ _ _ BX.out).trans (show _ = some (Value.slice a0 qs.length c0) from rfl)
    have fx0 := frozen_of_row w6 _ 0 _ _ BX.out
    go_simp
    clear cx0 fx0
    have tt : Turn (fun b => b = X) w6 (w6.setCell ⟨X, 0, none⟩ (.slice ga n6 gc)) := turn_set (G := fun b => b = X) (g := X) (j := 0) (u := (.slice ga n6 gc)) rfl
    have r := heap_setCell_same w6 X 0 _ _ (.slice ga n6 gc) BX.out
    have y1 := ZX.out; have y2 := ZX3.out
    replace BX : Hid ((w6.setCell ⟨X, 0, none⟩ (.slice ga n6 gc)).heap[X]? = some (.cells #[(.slice ga n6 gc), .slice (some ⟨g1, 0, none⟩) 3 c1] 49 (0, 0))) := Lib.hid (by simpa using r)
    have e6 := (Array.getElem?_eq_some_iff.1 B0.out).1
    replace B0 := Lib.hid ((tt.block w.heap.size e6 (fun h => by omega)).trans B0.out)
    replace P1 := Lib.hid (slO_turn tSpanS_law P1.out tt (fun b h1 h2 => by have := (Q1.out b h1).2; omega))
    replace PG := Lib.hid (slO_turn tQuery_law PG.out tt (fun b h1 h2 => by rcases h1 with h1 | h1; (have := (Q0.out b h1).2; omega); omega))
    replace D := Lib.hid (D.out.set (R := X) (by omega) 0 (.slice ga n6 gc))
    clear tt y1 y2 r e6
    generalize w6.setCell ⟨X, 0, none⟩ (.slice ga n6 gc) = w7 at *
    refine hK.out _ _ trivial (fun hHeld => ?_)
    clear hK K
    try simp only [Act.put, lA, lB, lC]
    refine wpAnyH_done (by kernel_rfl) ?_ _
    clear hHeld
    have cx0 := (cell_of_row w7 _ 0 _ _ _ BX.out).trans (show _ = some (Value.slice ga n6 gc) from rfl)
    have cx1 := (cell_of_row w7 _ 1 _ _ _ BX.out).trans (show _ = some (Value.slice (some ⟨g1, 0, none⟩) 3 c1) from rfl)
    have bc0 := (cell_of_row w7 _ 0 _ _ _ B0.out).trans (show _ = some (Value.slice none 0 0) from rfl)
    have bc1 := (cell_of_row w7 _ 1 _ _ _ B0.out).trans (show _ = some (Value.slice none 0 0) from rfl)
    have bf0 := frozen_of_row w7 _ 0 _ _ B0.out
    have bf1 := frozen_of_row w7 _ 1 _ _ B0.out
    have r := heap_setCell_same _ w.heap.size 1 _ _ (Value.slice (some ⟨g1, 0, none⟩) 3 c1) (heap_setCell_same w7 w.heap.size 0 _ _ (Value.slice ga n6 gc) B0.out)
    have tt : Turn (fun b => b = w.heap.size) w7 ((w7.setCell ⟨w.heap.size, 0, none⟩ (Value.slice ga n6 gc)).setCell ⟨w.heap.size, 1, none⟩ (Value.slice (some ⟨g1, 0, none⟩) 3 c1)) := ((Turn.refl (fun b => b = w.heap.size) w7).trans (turn_set (G := fun b => b = w.heap.size) (g := w.heap.size) (j := 0) (u := (Value.slice ga n6 gc)) rfl)).trans (turn_set (G := fun b => b = w.heap.size) (g := w.heap.size) (j := 1) (u := (Value.slice (some ⟨g1, 0, none⟩) 3 c1)) rfl)
    have e0 := cell_of_row _ _ 0 _ _ _ r
    have e1 := cell_of_row _ _ 1 _ _ _ r
    simp at e0 e1
    have y1 := ZX.out; have y2 := ZX3.out
    have sQ := slO_turn tQuery_law PG.out tt (fun b h1 h2 => by rcases h1 with h1 | h1; (have := (Q0.out b h1).1; omega); omega)
    have KQ := Lib.hid (kept_slO (B := w.heap.size) tQuery_law sQ (fun b h1 => by rcases h1 with h1 | h1; (have := (Q0.out b h1).1; omega); omega))
    have sF := slO_turn tSpanS_law P1.out tt (fun b h1 h2 => by have := (Q1.out b h1).1; omega)
    have KF := Lib.hid (kept_slO (B := w.heap.size) tSpanS_law sF (fun b h1 => by have := (Q1.out b h1).1; omega))
    have DE := Lib.hid ((D.out.set (R := w.heap.size) (Nat.le_refl _) 0 (Value.slice ga n6 gc)).set (R := w.heap.size) (Nat.le_refl _) 1 (Value.slice (some ⟨g1, 0, none⟩) 3 c1))
    clear r tt y1 y2 D BX B0 sQ sF
    go_wp2
    refine bodyPost_ret (v := .agg #[(Value.slice ga n6 gc), (Value.slice (some ⟨g1, 0, none⟩) 3 c1)]) ?_ rfl ?_
    ·
     simp [results, Tryd.f78, go_sem, e0, e1]
    ·
     exact ⟨_, _, _, _, rfl, KQ.out, KF.out, by have := HS.out.1; exact zL_one HCL.out HOL.out this, by have := HS.out.2; omega, DE.out⟩
 ·
  by_cases hx1 : x = 1
  ·
   subst hx1
   have cx1 := (cell_of_row w3 _ 1 _ _ _ BX.out).trans (show _ = some (Value.slice (some ⟨g1, 0, none⟩) 3 c1) from rfl)
   have fx1 := frozen_of_row w3 _ 1 _ _ BX.out
   have hc3 := HC1.out
   have r := heap_setCell_same w3 X 1 _ _ (.slice (some ⟨g1, 1, none⟩) 2 (c1 - 1)) BX.out
   have tt : Turn (fun b => b = X) w3 (w3.setCell ⟨X, 1, none⟩ (.slice (some ⟨g1, 1, none⟩) 2 (c1 - 1))) := turn_set (G := fun b => b = X) (g := X) (j := 1) (u := .slice (some ⟨g1, 1, none⟩) 2 (c1 - 1)) rfl
   have y1 := ZX.out; have y2 := ZX3.out
   have e6 := (Array.getElem?_eq_some_iff.1 B0.out).1
   have BX' : Hid ((w3.setCell ⟨X, 1, none⟩ (.slice (some ⟨g1, 1, none⟩) 2 (c1 - 1))).heap[X]? = some (.cells #[.slice a0 qs.length c0, .slice (some ⟨g1, 1, none⟩) 2 (c1 - 1)] 49 (0, 0))) := Lib.hid (by simpa using r)
   replace B0 := Lib.hid ((tt.block w.heap.size e6 (fun h => by omega)).trans B0.out)
   replace P0 := Lib.hid (slO_turn tQuery_law P0.out tt (fun b h1 h2 => by have := (Q0.out b h1).2; omega))
   replace P1 := Lib.hid (slO_turn tSpanS_law P1.out tt (fun b h1 h2 => by have := (Q1.out b h1).2; omega))
   replace D := Lib.hid (D.out.set (R := X) (by omega) 1 (.slice (some ⟨g1, 1, none⟩) 2 (c1 - 1)))
   clear BX r tt y1 y2 e6
   have BX := BX'
   clear BX'
   have p1 := P1.out
   rw [HF.out] at p1
   replace P1 := Lib.hid p1
   clear p1
   have cx0 := (cell_of_row (w3.setCell ⟨X, 1, none⟩ (.slice (some ⟨g1, 1, none⟩) 2 (c1 - 1))) _ 0 _ _ _ BX.out).trans (show _ = some (Value.slice a0 qs.length c0) from rfl)
   have cx1 := (cell_of_row (w3.setCell ⟨X, 1, none⟩ (.slice (some ⟨g1, 1, none⟩) 2 (c1 - 1))) _ 1 _ _ _ BX.out).trans (show _ = some (Value.slice (some ⟨g1, 1, none⟩) 2 (c1 - 1)) from rfl)
   have bc0 := (cell_of_row (w3.setCell ⟨X, 1, none⟩ (.slice (some ⟨g1, 1, none⟩) 2 (c1 - 1))) _ 0 _ _ _ B0.out).trans (show _ = some (Value.slice none 0 0) from rfl)
   have bc1 := (cell_of_row (w3.setCell ⟨X, 1, none⟩ (.slice (some ⟨g1, 1, none⟩) 2 (c1 - 1))) _ 1 _ _ _ B0.out).trans (show _ = some (Value.slice none 0 0) from rfl)
   have bf0 := frozen_of_row (w3.setCell ⟨X, 1, none⟩ (.slice (some ⟨g1, 1, none⟩) 2 (c1 - 1))) _ 0 _ _ B0.out
   have bf1 := frozen_of_row (w3.setCell ⟨X, 1, none⟩ (.slice (some ⟨g1, 1, none⟩) 2 (c1 - 1))) _ 1 _ _ B0.out
   have r := heap_setCell_same _ w.heap.size 1 _ _ (Value.slice (some ⟨g1, 1, none⟩) 2 (c1 - 1)) (heap_setCell_same (w3.setCell ⟨X, 1, none⟩ (.slice (some ⟨g1, 1, none⟩) 2 (c1 - 1))) w.heap.size 0 _ _ (Value.slice a0 qs.length c0) B0.out)
   have tt : Turn (fun b => b = w.heap.size) (w3.setCell ⟨X, 1, none⟩ (.slice (some ⟨g1, 1, none⟩) 2 (c1 - 1))) (((w3.setCell ⟨X, 1, none⟩ (.slice (some ⟨g1, 1, none⟩) 2 (c1 - 1))).setCell ⟨w.heap.size, 0, none⟩ (Value.slice a0 qs.length c0)).setCell ⟨w.heap.size, 1, none⟩ (Value.slice (some ⟨g1, 1, none⟩) 2 (c1 - 1))) := ((Turn.refl (fun b => b = w.heap.size) (w3.setCell ⟨X, 1, none⟩ (.slice (some ⟨g1, 1, none⟩) 2 (c1 - 1)))).trans (turn_set (G := fun b => b = w.heap.size) (g := w.heap.size) (j := 0) (u := (Value.slice a0 qs.length c0)) rfl)).trans (turn_set (G := fun b => b = w.heap.size) (g := w.heap.size) (j := 1) (u := (Value.slice (some ⟨g1, 1, none⟩) 2 (c1 - 1))) rfl)
   have e0 := cell_of_row _ _ 0 _ _ _ r
   have e1 := cell_of_row _ _ 1 _ _ _ r
   simp at e0 e1
   have y1 := ZX.out; have y2 := ZX3.out
   have sQ := slO_turn tQuery_law P0.out tt (fun b h1 h2 => by have := (Q0.out b h1).1; omega)
   have KQ := Lib.hid (kept_slO (B := w.heap.size) tQuery_law sQ (fun b h1 => by have := (Q0.out b h1).1; omega))
   have sF := slO_turn tSpanS_law P1.out tt (fun b h1 h2 => by have := (Q1.out b h1).1; omega)
   have KF := Lib.hid (kept_tail (kept_slO (B := w.heap.size) tSpanS_law sF (fun b h1 => by have := (Q1.out b h1).1; omega)))
   have DE := Lib.hid ((D.out.set (R := w.heap.size) (Nat.le_refl _) 0 (Value.slice a0 qs.length c0)).set (R := w.heap.size) (Nat.le_refl _) 1 (Value.slice (some ⟨g1, 1, none⟩) 2 (c1 - 1)))
   clear r tt y1 y2 D BX B0 sQ sF
   go_wp2
   refine bodyPost_ret (v := .agg #[(Value.slice a0 qs.length c0), (Value.slice (some ⟨g1, 1, none⟩) 2 (c1 - 1))]) ?_ rfl ?_
   ·
    simp [results, Tryd.f78, go_sem, e0, e1]
   ·
    exact ⟨_, _, _, _, rfl, KQ.out, KF.out, by have := HS.out.1; omega, by have h1 := HS.out.2; rw [HF.out] at h1; have := zL_tail h1; omega, DE.out⟩
  ·
   skip
   have cx0 := (cell_of_row w3 _ 0 _ _ _ BX.out).trans (show _ = some (Value.slice a0 qs.length c0) from rfl)
   have cx1 := (cell_of_row w3 _ 1 _ _ _ BX.out).trans (show _ = some (Value.slice (some ⟨g1, 0, none⟩) 3 c1) from rfl)
   have bc0 := (cell_of_row w3 _ 0 _ _ _ B0.out).trans (show _ = some (Value.slice none 0 0) from rfl)
   have bc1 := (cell_of_row w3 _ 1 _ _ _ B0.out).trans (show _ = some (Value.slice none 0 0) from rfl)
   have bf0 := frozen_of_row w3 _ 0 _ _ B0.out
   have bf1 := frozen_of_row w3 _ 1 _ _ B0.out
   have r := heap_setCell_same _ w.heap.size 1 _ _ (Value.slice (some ⟨g1, 0, none⟩) 3 c1) (heap_setCell_same w3 w.heap.size 0 _ _ (Value.slice a0 qs.length c0) B0.out)
   have tt : Turn (fun b => b = w.heap.size) w3 ((w3.setCell ⟨w.heap.size, 0, none⟩ (Value.slice a0 qs.length c0)).setCell ⟨w.heap.size, 1, none⟩ (Value.slice (some ⟨g1, 0, none⟩) 3 c1)) := ((Turn.refl (fun b => b = w.heap.size) w3).trans (turn_set (G := fun b => b = w.heap.size) (g := w.heap.size) (j := 0) (u := (Value.slice a0 qs.length c0)) rfl)).trans (turn_set (G := fun b => b = w.heap.size) (g := w.heap.size) (j := 1) (u := (Value.slice (some ⟨g1, 0, none⟩) 3 c1)) rfl)
   have e0 := cell_of_row _ _ 0 _ _ _ r
   have e1 := cell_of_row _ _ 1 _ _ _ r
   simp at e0 e1
   have y1 := ZX.out; have y2 := ZX3.out
   have sQ := slO_turn tQuery_law P0.out tt (fun b h1 h2 => by have := (Q0.out b h1).1; omega)
   have KQ := Lib.hid (kept_slO (B := w.heap.size) tQuery_law sQ (fun b h1 => by have := (Q0.out b h1).1; omega))
   have sF := slO_turn tSpanS_law P1.out tt (fun b h1 h2 => by have := (Q1.out b h1).1; omega)
   have KF := Lib.hid (kept_slO (B := w.heap.size) tSpanS_law sF (fun b h1 => by have := (Q1.out b h1).1; omega))
   have DE := Lib.hid ((D.out.set (R := w.heap.size) (Nat.le_refl _) 0 (Value.slice a0 qs.length c0)).set (R := w.heap.size) (Nat.le_refl _) 1 (Value.slice (some ⟨g1, 0, none⟩) 3 c1))
   clear r tt y1 y2 D BX B0 sQ sF
   go_wp2
   refine bodyPost_ret (v := .agg #[(Value.slice a0 qs.length c0), (Value.slice (some ⟨g1, 0, none⟩) 3 c1)]) ?_ rfl ?_
   ·
    simp [results, Tryd.f78, go_sem, e0, e1]
   ·
    exact ⟨_, _, _, _, rfl, KQ.out, KF.out, by have := HS.out.1; omega, by have := HS.out.2; omega, DE.out⟩
end Go.Proofs.YtededfficggkaaaDoor
