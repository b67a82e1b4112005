/-
  The walk of the program's splitInts.
-/
import Derived.Test.YtjmiihgaaagojaaDoorSplitC
import Derived.Test.YtjmiihgaaagojaaDoorRowParM
import Derived.Test.YtjmiihgaaagojaaDoorParImpl
import Derived.Test.YtjmiihgaaagojaaDoorRowEq
namespace Go.Proofs.YtjmiihgaaagojaaDoor.Comma
open Go.RowKit Go.Shelf
attribute [local go_sem] Oper.semAt_some
set_option linter.unusedVariables false
set_option linter.unusedSimpArgs false
theorem boxed_below {W W' : World} {C j : Nat} {t : TypeId} {v : Value} (h : Boxed W j t v) (hj : j < C) (hb : Below C W W') : Boxed W' j t v := (hb.block j hj).trans h
theorem boxed_only {W W' : World} {B hi j : Nat} {t : TypeId} {v : Value} (h : Boxed W j t v) (hj : j < B) (hb : Only B hi W W') : Boxed W' j t v := (hb.block j h.lt (Or.inl hj)).trans h
theorem ownsN_only {B hi C : Nat} {w w' : World} {v : Value} {xs : List Int} (h : OwnsN w C v xs) (k : Only B hi w w') (hc : hi ≤ C) : OwnsN w' C v xs := by
  refine ⟨h.1, ?_⟩
  rcases h.2 with hn | ⟨g, cap, cur, rfl, hb', hg, rest⟩
  · exact .inl hn
  · refine .inr ⟨g, cap, cur, rfl, hb', ?_, rest⟩
    rw [k.block g (Array.getElem?_eq_some_iff.1 hg).1 (Or.inr (by omega))]
    exact hg
theorem append_ints_in {F : Fence} {n : Nat} {w : World} {ops : Array Oper} {rest : List Oper} {o : Oper} {a : Act} {Q : Exit → Act → World → Prop} (hgd : o.guard = none) (s x : Operand)
    (ho : o.op = .call { callee := .builtin .append, args := #[s, x], argTypes := #[22, 22] })
    (B : Nat) (v : Value) (xs : List Int) (hs : a.eval s = v) (hown : OwnsN w B v xs) (hB : B ≤ w.heap.size)
    (C : Array Value) (ys : List Int) (m c : Nat) (hx : a.eval x = .slice (some ⟨w.heap.size, 0, none⟩) m c) (hC : C.toList = ys.map (Value.int .i64)) (hm : m = ys.length)
    (h63 : xs.length + ys.length ≤ 17592186044416)
    (h : ∀ v' w', OwnsN w' B v' (xs ++ ys) → Below B w w' → wpListIn F n Tryd.prog ops Q rest (a.put o.dst v') w') : wpListIn F n Tryd.prog ops Q (o :: rest) a (w.alloc (.cells C 3)) := by
  obtain ⟨i0, hi, hz0, hz1, hz2⟩ := info_parts Tryd.infoI64
  subst hm
  refine wpListIn_append_own _ hgd s x 22 ho B 3 i0 (.int .i64 0) 1 8 Tryd.underlying22 hi hz0 hz1 hz2 rfl (by decide) v xs.length _ hs (hown.alloc _) ⟨w.heap.size, 0, none⟩ ys.length c (ys.map (Value.int .i64)) hx (by simp) ?_ (by intro u hu; simp at hu; obtain ⟨y, _, rfl⟩ := hu; rfl) (by unfold maxLen; omega) (by omega) (by simp; omega) ?_
  · intro j u hj
    have e : (⟨w.heap.size, 0, none⟩ : Addr).add j = ⟨w.heap.size, j, none⟩ := by unfold Addr.add; split <;> simp_all
    rw [e, cell_lit]
    rw [← hC] at hj
    simpa using hj
  · intro v' w' h1 h2 _
    refine h v' w' ?_ ?_
    · unfold OwnsN
      simpa using h1
    · exact ((Below.refl B w).alloc hB _).grown h2 (by simp; omega) (fun k hk => (hown.lt k hk).1)
theorem ret_w {a b : Value} (h : a = b) : Ending.returned a = .returned b := by rw [h]
/-- What splitInts answers: a slice of its own, and whether all pieces are numerals. -/
def SplitAns (w : World) (r : Option (List Int)) (e : Ending) (w' : World) : Prop := ∃ v, e = .returned (.tuple #[v, .bool r.isSome]) ∧ OwnsN w' w.heap.size v (r.getD []) ∧ Below w.heap.size w w'
theorem splitAns_yes {w w' : World} {r : Option (List Int)} {ys : List Int} {v : Value} (h : r = some ys) (o : OwnsN w' w.heap.size v ys) (b : Below w.heap.size w w') : SplitAns w r (.returned (.tuple #[v, .bool true])) w' := ⟨v, by rw [h]; rfl, by rw [h]; exact o, b⟩
theorem splitAns_no {w w' : World} {r : Option (List Int)} (h : r = none) (b : Below w.heap.size w w') : SplitAns w r (.returned (.tuple #[.slice none 0 0, .bool false])) w' := ⟨.slice none 0 0, by rw [h]; rfl, by rw [h]; exact ownsN_nil _ _, b⟩
set_option maxHeartbeats 8000000 in
set_option maxRecDepth 100000 in
theorem splitInts_any (l : List UInt8) (w : World) (hl : l.length ≤ 1048576) (hT : Tab w) :
    Calls Tryd.prog 27 #[.string (strB l)] w (SplitAns w (intsGo [] (cutL 44 l))) := by
  refine (callsIn_wide (n := 6)).1 ?_
  refine callsIn_of_wp_marks Tryd.func27 rfl trivial ?_ rfl
  simp only [Tryd.ntmps27, List.size_toArray, List.length_cons, List.length_nil, Nat.reduceAdd, Nat.reduceSub, Array.replicate_succ, Array.replicate_zero, List.push_toArray, List.append_toArray, List.nil_append, List.cons_append]
  gi_wp2_with (refine ⟨trivial, ?_⟩; gi_at_call 39; refine (callsIn_wide.2 (splitSeq0 _ _ _)).mono ?_; rintro e w' ⟨rfl, rfl⟩)
  have HT := Lib.hid hT
  have HQ : Hid (∀ k, ((cutL 44 l).getD k []).length ≤ 1048576) := Lib.hid (fun k => Nat.le_trans (cut_piece 44 l k) hl)
  have HPL := Lib.hid (cut_len 44 l)
  have HL := Lib.hid hl
  have HSP := splitStops 5 (w.heap.size + 1 + 1 + 1) (w.heap.size + 1 + 1 + 1 + 1) (w.heap.size + 1 + 1 + 1 + 2) (by omega) l hl
  obtain ⟨W0, hW0⟩ : ∃ W0, ((((((w.alloc (.cells #[.slice none 0 0] 22)).alloc (.cells #[.bool false] 4)).alloc (.cells #[.slice none 0 0] 22)).alloc (.cells #[.string (strB l)] 9)).alloc (.cells #[.string ⟨#[44]⟩] 9)).alloc (.cells #[.int .i64 0] 3)) = W0 := ⟨_, rfl⟩
  rw [hW0]
  have x0 : Boxed W0 w.heap.size 22 (.slice none 0 0) := by
    have := Boxed.new w 22 (.slice none 0 0)
    rw [← hW0]; exact (((((this.alloc _).alloc _).alloc _).alloc _).alloc _)
  have x1 : Boxed W0 (w.heap.size + 1) 4 (.bool false) := by
    have := Boxed.new (w.alloc (.cells #[.slice none 0 0] 22)) 4 (.bool false)
    simp only [World.size_alloc] at this
    rw [← hW0]; exact ((((this.alloc _).alloc _).alloc _).alloc _)
  have x2 : Boxed W0 (w.heap.size + 1 + 1) 22 (.slice none 0 0) := by
    have := Boxed.new ((w.alloc (.cells #[.slice none 0 0] 22)).alloc (.cells #[.bool false] 4)) 22 (.slice none 0 0)
    simp only [World.size_alloc] at this
    rw [← hW0]; exact (((this.alloc _).alloc _).alloc _)
  have x3 : Boxed W0 (w.heap.size + 1 + 1 + 1) 9 (.string (strB l)) := by
    have := Boxed.new (((w.alloc (.cells #[.slice none 0 0] 22)).alloc (.cells #[.bool false] 4)).alloc (.cells #[.slice none 0 0] 22)) 9 (.string (strB l))
    simp only [World.size_alloc] at this
    rw [← hW0]; exact ((this.alloc _).alloc _)
  have x4 : Boxed W0 (w.heap.size + 1 + 1 + 1 + 1) 9 (.string ⟨#[44]⟩) := by
    have := Boxed.new ((((w.alloc (.cells #[.slice none 0 0] 22)).alloc (.cells #[.bool false] 4)).alloc (.cells #[.slice none 0 0] 22)).alloc (.cells #[.string (strB l)] 9)) 9 (.string ⟨#[44]⟩)
    simp only [World.size_alloc] at this
    rw [← hW0]; exact (this.alloc _)
  have x5 : Boxed W0 (w.heap.size + 1 + 1 + 1 + 2) 3 (.int .i64 0) := by
    have := Boxed.new (((((w.alloc (.cells #[.slice none 0 0] 22)).alloc (.cells #[.bool false] 4)).alloc (.cells #[.slice none 0 0] 22)).alloc (.cells #[.string (strB l)] 9)).alloc (.cells #[.string ⟨#[44]⟩] 9)) 3 (.int .i64 0)
    simp only [World.size_alloc] at this
    rw [← hW0]; exact this
  have xs : W0.heap.size = w.heap.size + 1 + 1 + 1 + 3 := by rw [← hW0]; simp [World.size_alloc]
  have xb : Below w.heap.size w W0 := by
    rw [← hW0]
    exact ((((((Below.refl _ w).alloc (Nat.le_refl _) _).alloc (by simp) _).alloc (by simp; omega) _).alloc (by simp; omega) _).alloc (by simp; omega) _).alloc (by simp; omega) _
  clear hW0 hT hl
  refine rangeSplit (by omega) (w.heap.size + 1 + 1 + 1) l rfl xs HSP x3 x4 x5
    (fun k W => ∃ (ys : List Int) (v : Value), ys.length = k ∧ Hid (intsGo ys ((cutL 44 l).drop k) = intsGo [] (cutL 44 l)) ∧ Boxed W w.heap.size 22 (.slice none 0 0) ∧ Boxed W (w.heap.size + 1) 4 (.bool false) ∧ Boxed W (w.heap.size + 1 + 1) 22 v ∧ OwnsN W (w.heap.size + 1 + 1 + 1 + 5) v ys ∧ Below w.heap.size w W)
    (fun W => Hid (intsGo [] (cutL 44 l) = none) ∧ Boxed W w.heap.size 22 (.slice none 0 0) ∧ Boxed W (w.heap.size + 1) 4 (.bool false) ∧ Below w.heap.size w W)
    ?hI ?hIx ⟨[], .slice none 0 0, rfl, Lib.hid rfl, x0, x1, x2, ownsN_nil _ _, xb⟩
    (fun x => { tmps := #[.string (strB l), undef, .pointer (some ⟨w.heap.size, 0, none⟩), .pointer (some ⟨w.heap.size + 1, 0, none⟩), .pointer (some ⟨w.heap.size + 1 + 1, 0, none⟩), .string (strB x), undef, undef, .string (strB l), .func (.func 57) #[] #[.pointer (some ⟨w.heap.size + 1 + 1 + 1 + 1, 0, none⟩), .pointer (some ⟨w.heap.size + 1 + 1 + 1, 0, none⟩), .pointer (some ⟨w.heap.size + 1 + 1 + 1 + 2, 0, none⟩)], .string (strB x), undef, undef, undef, undef, undef, undef, undef, undef, undef, undef, undef, undef], defers := [] })
    rfl ?assign ?body ?done ?stop
  case hI =>
    rintro k W W' ⟨ys, v, hy, hgo, b0, b1, b2, hown, hbel⟩ hb
    exact ⟨ys, v, hy, hgo, boxed_only b0 (by omega) hb, boxed_only b1 (by omega) hb, boxed_only b2 (by omega) hb, ownsN_only hown hb (Nat.le_refl _), only_below hbel hb (by omega) (by have := b0.lt; omega)⟩
  case hIx =>
    rintro W W' ⟨hgo, b0, b1, hbel⟩ hb
    exact ⟨hgo, boxed_only b0 (by omega) hb, boxed_only b1 (by omega) hb, only_below hbel hb (by omega) (by have := b0.lt; omega)⟩
  case assign =>
    intro L x W K hK
    gi_wp2
    exact hK
  case body =>
    rintro L k W hk h8 ⟨ys, v, hy, hgo, b0, b1, b2, hown, hbel⟩
    clear x0 x1 x2 x3 x4 x5 xs xb HSP
    have hQ := HQ.out k
    have hkl : ys.length + 1 ≤ 17592186044416 := by have := HPL.out; have := HL.out; omega
    have HY := Lib.hid hy
    have HITK : Hid ((parI ((cutL 44 l).getD k [])).2 = true → intsGo (ys ++ [(parI ((cutL 44 l).getD k [])).1]) ((cutL 44 l).drop (k + 1)) = intsGo [] (cutL 44 l)) := Lib.hid (fun h => by rw [← intsGo_hit hk h]; exact hgo.out)
    have HMISS : Hid ((parI ((cutL 44 l).getD k [])).2 = false → intsGo [] (cutL 44 l) = none) := Lib.hid (fun h => by rw [← hgo.out]; exact intsGo_miss hk h)
    clear hgo hy
    generalize (cutL 44 l).getD k [] = q at *
    have HRUN := Lib.hid (implPar (strB q) W (by rw [strB_size]; exact hQ) (HT.out.on hbel))
    have eq : (strB q).data.toList = q := rfl
    rw [eq] at HRUN
    clear eq
    obtain ⟨pn, hpn⟩ : ∃ pn, (parI q).1 = pn := ⟨_, rfl⟩
    rw [hpn] at HRUN HITK
    clear hpn
    cases hpo : (parI q).2 with
    | true =>
      have HG := Lib.hid (HITK.out hpo)
      rw [hpo] at HRUN
      clear hpo HITK HMISS hQ
      gi_wp2_with (first | (refine ⟨trivial, ?_⟩; gi_at_call 26; refine (CallsIn.inRound L (callsIn_wide.2 HRUN.out)).mono ?_; rintro e w1 ⟨rfl, hb⟩; have k0 := boxed_below b0 (by omega) hb; have k1 := boxed_below b1 (by omega) hb; have k2 := boxed_below b2 (by omega) hb; have c2 := k2.cell; have o1 := ownsN_below hown hb; have z1 := hb.size) | (gi_at_builtin; refine append_ints_in rfl _ _ rfl (w.heap.size + 1 + 1 + 1 + 5) _ ys rfl o1 (by omega) _ [pn] 1 _ rfl rfl rfl (by simpa using hkl) ?_; intro u w2 o2 h2; have j0 := boxed_below k0 (by omega) h2; have j1 := boxed_below k1 (by omega) h2; have j2 := boxed_below k2 (by omega) h2; have d2 := j2.cell; have f2 := j2.frozen; obtain ⟨ua, ucap, rfl⟩ := ints_len (ownsN_ints o2)))
      have o3 : OwnsN w2 (w.heap.size + 1 + 1 + 1 + 5) (.slice ua (ys.length + 1) ucap) (ys ++ [pn]) := by simpa using o2
      exact ⟨((stays_below hb).trans (stays_hi h2 (by omega))).trans (stays_set (by omega) _), ys ++ [pn], .slice ua (ys.length + 1) ucap, by have := HY.out; simp; omega, HG, j0.other (by omega) _, j1.other (by omega) _, j2.set _, ownsN_low o3 (by omega) 0 _, ((hbel.trans (hb.mono (by omega))).trans (h2.mono (by omega))).setCell (p := ⟨_, 0, none⟩) (by simp; omega) _⟩
    | false =>
      have HG := Lib.hid (HMISS.out hpo)
      rw [hpo] at HRUN
      clear hpo HITK HMISS hQ
      gi_wp2_with (refine ⟨trivial, ?_⟩; gi_at_call 26; refine (CallsIn.inRound L (callsIn_wide.2 HRUN.out)).mono ?_; rintro e w1 ⟨rfl, hb⟩; have k0 := boxed_below b0 (by omega) hb; have k1 := boxed_below b1 (by omega) hb; have c0 := k0.cell; have f0 := k0.frozen; have c1 := k1.cell; have f1 := k1.frozen)
      exact ⟨((stays_below hb).trans (stays_set (by omega) _)).trans (stays_set (by omega) _), HG, (k0.set _).other (by omega) _, (k1.other (by omega) _).set _, ((hbel.trans (hb.mono (by omega))).setCell (p := ⟨_, 0, none⟩) (by simp) _).setCell (p := ⟨_, 0, none⟩) (by simp) _⟩
  case done =>
    rintro D W hD hD5 ⟨ys, v, hy, hgo, b0, b1, b2, hown, hbel⟩ hK
    clear x0 x1 x2 x3 x4 x5 xs xb HSP
    have HA : Hid (intsGo [] (cutL 44 l) = some ys) := Lib.hid (by have := hgo.out; rw [List.drop_eq_nil_of_le (Nat.le_refl _)] at this; exact this.symm)
    obtain ⟨va, vcap, rfl⟩ := ints_len (ownsN_ints hown)
    have c0 := b0.cell
    have f0 := b0.frozen
    have c1 := b1.cell
    have f1 := b1.frozen
    have c2 := b2.cell
    clear hgo hy
    gi_wp2
    have k0 := (b0.set (.slice va ys.length vcap)).other (B' := w.heap.size + 1) (by omega) (.bool true)
    have k1 := (b1.other (B' := w.heap.size) (by omega) (.slice va ys.length vcap)).set (.bool true)
    have hKD : ((W.setCell ⟨w.heap.size, 0, none⟩ (.slice va ys.length vcap)).setCell ⟨w.heap.size + 1, 0, none⟩ (.bool true)).heap[D]? = some (.deferred (some [])) :=
      ((Below.heap_setCell _ _ _ D (by simp; omega)).trans (Below.heap_setCell _ _ _ D (by simp; omega))).trans hK
    have hbel5 : Below w.heap.size w ((W.setCell ⟨w.heap.size, 0, none⟩ (.slice va ys.length vcap)).setCell ⟨w.heap.size + 1, 0, none⟩ (.bool true)) := (hbel.setCell (p := ⟨w.heap.size, 0, none⟩) (by simp) _).setCell (p := ⟨w.heap.size + 1, 0, none⟩) (by simp) _
    have o5 := ownsN_low (ownsN_low hown (b := w.heap.size) (by omega) 0 (.slice va ys.length vcap)) (b := w.heap.size + 1) (by omega) 0 (.bool true)
    clear c0 f0 c1 f1 c2 hK hbel b0 b1 b2 hown
    generalize (W.setCell ⟨w.heap.size, 0, none⟩ (.slice va ys.length vcap)).setCell ⟨w.heap.size + 1, 0, none⟩ (.bool true) = W5 at *
    refine ⟨by simp, .inl ⟨_, _, rfl, run_takeDeferred hKD, ?_⟩⟩
    have hput := only_put (B := w.heap.size + 1 + 1 + 1) W5 (.deferred none) hKD hD hD5
    have e0 := (boxed_only k0 (by omega) hput).cell
    have e1 := (boxed_only k1 (by omega) hput).cell
    refine ⟨_, ?_, splitAns_yes HA.out (ownsN_up (ownsN_only o5 hput (Nat.le_refl _)) (by omega)) (only_below hbel5 hput (by omega) (by have := k0.lt; omega))⟩
    simp [results, Tryd.f27, go_sem, e0, e1]
  case stop =>
    rintro D W hD hD5 ⟨hgo, b0, b1, hbel⟩ hK
    clear x0 x1 x2 x3 x4 x5 xs xb HSP
    gi_wp2
    refine ⟨by simp, .inl ⟨_, _, rfl, run_takeDeferred hK, ?_⟩⟩
    have hput := only_put (B := w.heap.size + 1 + 1 + 1) W (.deferred none) hK hD hD5
    have e0 := (boxed_only b0 (by omega) hput).cell
    have e1 := (boxed_only b1 (by omega) hput).cell
    refine ⟨_, ?_, splitAns_no hgo.out (only_below hbel hput (by omega) (by have := b0.lt; omega))⟩
    simp [results, Tryd.f27, go_sem, e0, e1]
end Go.Proofs.YtjmiihgaaagojaaDoor.Comma
