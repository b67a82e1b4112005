/-
  Texts of the proof, merged: RowSl, RowOwn, RowLaw1, RowLaws, RowEq, Take, QueryCut, CondVal, CondSpec, QueryVal.
-/
import Derived.Test.YteelgogfpidcdaaDoorG2
import Derived.BigQuiet
import Derived.Deep.QuietTactic
namespace Go.Proofs.YteelgogfpidcdaaDoor
open Go.RowKit
set_option linter.unusedVariables false
/-- The slice v reads as the rows rs; vs: where their values lie. -/
def RowsR (w : World) (v : Value) (rs : List RowD) : Prop :=
  (rs = [] ∧ ∃ a cap, v = .slice a 0 cap) ∨ ∃ (b off cap : Nat) (vs : Nat → Value), v = .slice (some ⟨b, off, none⟩) rs.length cap ∧ rs.length ≤ cap ∧ b < w.heap.size ∧
    ∀ j, j < rs.length → w.cell? ⟨b, off + j * 2, none⟩ = some (.int .i64 (rs.getD j (0, [])).1) ∧ w.cell? ⟨b, off + j * 2 + 1, none⟩ = some (vs j) ∧ Ints w (vs j) (rs.getD j (0, [])).2
theorem rowsR_len {w : World} {v : Value} {rs : List RowD} (h : RowsR w v rs) : ∃ a cap, v = .slice a rs.length cap := by
  rcases h with ⟨rfl, a, cap, rfl⟩ | ⟨b, off, cap, vs, rfl, _⟩
  · exact ⟨a, cap, rfl⟩
  · exact ⟨_, cap, rfl⟩
theorem rowsR_below {W w : World} {v : Value} {rs : List RowD} (h : RowsR W v rs) (hb : Below W.heap.size W w) : RowsR w v rs := by
  rcases h with h | ⟨b, off, cap, vs, h1, h2, h3, h4⟩
  · exact Or.inl h
  · refine Or.inr ⟨b, off, cap, vs, h1, h2, Nat.lt_of_lt_of_le h3 hb.size, fun j hj => ?_⟩
    obtain ⟨g1, g2, g3⟩ := h4 j hj
    exact ⟨(hb.cell (p := ⟨b, off + j * 2, none⟩) h3).trans g1, (hb.cell (p := ⟨b, off + j * 2 + 1, none⟩) h3).trans g2, ints_below g3 hb⟩
theorem rowsR_at {w : World} {v : Value} {rs : List RowD} (h : RowsR w v rs) {k : Nat} (hk : k < rs.length) : ∃ (b off cap : Nat) (vv : Value), v = .slice (some ⟨b, off, none⟩) rs.length cap ∧ b < w.heap.size ∧
    w.cell? ⟨b, off + k * 2, none⟩ = some (.int .i64 (rs.getD k (0, [])).1) ∧ w.cell? ⟨b, off + k * 2 + 1, none⟩ = some vv ∧ Ints w vv (rs.getD k (0, [])).2 := by
  rcases h with ⟨rfl, _⟩ | ⟨b, off, cap, vs, h1, h2, h3, h4⟩
  · simp at hk
  · obtain ⟨g1, g2, g3⟩ := h4 k hk
    exact ⟨b, off, cap, vs k, h1, h3, g1, g2, g3⟩
/-- How many values and elements the first k rows hold. -/
def szTo (rs : List RowD) (k : Nat) : Nat := rs.length + ((rs.take k).map fun r => r.2.length).sum
def szL (rs : List RowD) : Nat := szTo rs rs.length
theorem szTo_zero (rs : List RowD) : szTo rs 0 = rs.length := by simp [szTo]
theorem szTo_step {rs : List RowD} {k : Nat} (hk : k < rs.length) : szTo rs (k + 1) = szTo rs k + (rs.getD k (0, [])).2.length := by
  unfold szTo
  have e : rs.getD k (0, []) = rs[k] := by simp [List.getD, hk]
  rw [e, List.take_succ_eq_append_getElem hk, List.map_append, List.sum_append]
  simp; omega
theorem szTo_le {rs : List RowD} {k : Nat} (hk : k ≤ rs.length) : szTo rs k ≤ szL rs := by
  unfold szL szTo
  obtain ⟨d, hd⟩ : ∃ d, rs.length = k + d := ⟨rs.length - k, by omega⟩
  have : rs = rs.take k ++ rs.drop k := (List.take_append_drop k rs).symm
  have h2 : (rs.map fun r => r.2.length).sum = ((rs.take k).map fun r => r.2.length).sum + ((rs.drop k).map fun r => r.2.length).sum := by
    rw [← List.sum_append, ← List.map_append, List.take_append_drop]
  rw [List.take_length, h2]
  omega
end Go.Proofs.YteelgogfpidcdaaDoor
namespace Go.Proofs.YteelgogfpidcdaaDoor
open Go.RowKit
set_option linter.unusedVariables false
theorem ownsRow_below {w w' : World} {B : Nat} {e : TypeId} {size : Nat} {v : Value} {n : Nat} {xs : List Value} (h : w.ownsRow B e size v n xs) (hb : Below w.heap.size w w') : w'.ownsRow B e size v n xs := by
  refine ⟨h.1, ?_⟩
  rcases h.2 with hn | ⟨g, cap, cur, rfl, hb', hg, rest⟩
  · exact .inl hn
  · refine .inr ⟨g, cap, cur, rfl, hb', ?_, rest⟩
    rw [hb.block g (Array.getElem?_eq_some_iff.1 hg).1]
    exact hg
theorem madeRow_at (n j : Nat) (hj : j < n) : (madeCells #[Value.int .i64 0, Value.slice none 0 0] (n * 2)).toList[j * 2]? = some (.int .i64 0) ∧ (madeCells #[Value.int .i64 0, Value.slice none 0 0] (n * 2)).toList[j * 2 + 1]? = some (.slice none 0 0) := by
  have e1 : (j * 2) % 2 = 0 := by omega
  have e2 : (j * 2 + 1) % 2 = 1 := by omega
  constructor
  · rw [Array.getElem?_toList]
    unfold madeCells
    rw [Array.getElem?_map, Array.getElem?_range]
    simp [e1, show j * 2 < n * 2 by omega]
  · rw [Array.getElem?_toList]
    unfold madeCells
    rw [Array.getElem?_map, Array.getElem?_range]
    simp [e2, show j * 2 + 1 < n * 2 by omega]
end Go.Proofs.YteelgogfpidcdaaDoor
namespace Go.Proofs.YteelgogfpidcdaaDoor
open Go.RowKit
set_option linter.unusedVariables false
theorem ints_heap {w w' : World} {v : Value} {xs : List Int} (h : Ints w v xs) (hh : w'.heap = w.heap) : Ints w' v xs := by
  rcases h with h | ⟨b, off, cap, h1, h2, h3, h4⟩
  · exact Or.inl h
  · refine Or.inr ⟨b, off, cap, h1, h2, by rw [hh]; exact h3, fun j hj => ?_⟩
    have := h4 j hj
    unfold World.cell? at this ⊢
    rw [hh]; exact this
theorem box_cells {W w : World} {t : TypeId} {x y : Value} {b : Nat} (h : W.heap[b]? = some (.cells #[x, y] t (0, 0))) (hb : Below W.heap.size W w) :
    w.cell? ⟨b, 0, none⟩ = some x ∧ w.cell? ⟨b, 1, none⟩ = some y := by
  have hlt := (Array.getElem?_eq_some_iff.1 h).1
  have h' := (hb.block b hlt).trans h
  exact ⟨(cell_of_row w b 0 _ _ _ h').trans rfl, (cell_of_row w b 1 _ _ _ h').trans rfl⟩
theorem below_drew {B : Nat} {a w : World} (h : Below B a w) : Below B a w.drew := ⟨h.os, h.tape, h.output, h.size, h.block⟩
end Go.Proofs.YteelgogfpidcdaaDoor
namespace Go.Proofs.YteelgogfpidcdaaDoor
open Go.RowKit
set_option linter.unusedVariables false
theorem rows_copied (rs : List RowD) (k : Nat) (h : k < rs.length) : (rs.take k ++ List.replicate (rs.length - k) (0, [])).set k (rs.getD k (0, [])) = rs.take (k + 1) ++ List.replicate (rs.length - (k + 1)) (0, []) := by
  have hk : (rs.take k).length = k := by rw [List.length_take]; omega
  rw [List.set_append_right _ _ (by omega), hk, Nat.sub_self, show rs.length - k = (rs.length - (k + 1)) + 1 by omega, List.replicate_succ, List.set_cons_zero, List.take_succ_eq_append_getElem h, List.append_assoc]
  simp [List.getD, h]
end Go.Proofs.YteelgogfpidcdaaDoor
namespace Go.Proofs.YteelgogfpidcdaaDoor
open Go.RowKit
set_option linter.unusedVariables false
theorem below_dn {B : Nat} {a w : World} (h : Below B a w) (q : Nat) : Below B a (w.drewN q) := ⟨h.os, h.tape, h.output, h.size, h.block⟩
theorem list_ne_at {xs ys : List Int} {k : Nat} (hx : k < xs.length) (h : ¬ xs.getD k 0 = ys.getD k 0) : ¬ xs = ys := fun e => h (by rw [e])
theorem list_eq_all {xs ys : List Int} (hl : xs.length = ys.length) (h : ∀ j, j < xs.length → xs.getD j 0 = ys.getD j 0) : xs = ys := by
  apply List.ext_getElem hl
  intro i h1 h2
  have := h i h1
  simpa [List.getD, h1, h2] using this
set_option maxHeartbeats 2000000 in
set_option maxRecDepth 100000 in
theorem specInts (v u : Value) (xs ys : List Int) (w : World) (h : Ints w v xs) (g : Ints w u ys) (hn : xs.length ≤ 1048576) (hm : ys.length ≤ 1048576) :
    Calls Tryd.prog 36 #[v, u] w fun e w' => e = .returned (.bool (decide (xs = ys))) ∧ Below w.heap.size w w' := by
  have H := Lib.hid h
  have G := Lib.hid g
  obtain ⟨a, cap, rfl⟩ := ints_len h
  obtain ⟨a2, cap2, rfl⟩ := ints_len g
  clear h g
  by_cases hl : xs.length = ys.length
  · have HL := Lib.hid hl
    have hne : ((xs.length : Int) != (ys.length : Int)) = false := by rw [hl]; simp
    clear hl
    go_enter Tryd.func36, Tryd.ntmps36
    go_wp2
    clear hne
    go_loopw [5] (fun i wr => ∃ k : Nat, k ≤ xs.length ∧ i = .int .i64 k ∧ Hid (∀ j, j < k → xs.getD j 0 = ys.getD j 0) ∧ Below w.heap.size w wr) (fun i _ => xs.length - (intOf i).toNat)
    case atStart => exact ⟨0, Nat.zero_le _, rfl, Lib.hid (fun j hj => by omega), Below.refl _ _⟩
    case round =>
      obtain ⟨k, hk, rfl, hall, hbel⟩ := hrel
      by_cases hlt : k < xs.length
      · obtain ⟨b, off, cap', hv, hbl, hc⟩ := ints_cell H.out (by omega)
        simp only [Value.slice.injEq] at hv
        obtain ⟨rfl, _, rfl⟩ := hv
        obtain ⟨b2, off2, cap2', hv2, hbl2, hc2⟩ := ints_cell G.out (by have := HL.out; omega)
        simp only [Value.slice.injEq] at hv2
        obtain ⟨rfl, _, rfl⟩ := hv2
        have hcell := (hbel.cell (p := ⟨b, off + k, none⟩) hbl).trans (hc k hlt)
        have hcell2 := (hbel.cell (p := ⟨b2, off2 + k, none⟩) hbl2).trans (hc2 k (by have := HL.out; omega))
        have i1 : (0 : Int) ≤ (k : Int) := by omega
        have i2 : (k : Int) < (xs.length : Int) := by omega
        have i3 : (k : Int) < (ys.length : Int) := by have := HL.out; omega
        clear hc hc2
        by_cases he : xs.getD k 0 = ys.getD k 0
        · have HA : Hid (∀ j, j < k + 1 → xs.getD j 0 = ys.getD j 0) := Lib.hid (fun j hj => by
            by_cases e : j = k
            · exact e ▸ he
            · exact hall.out j (by omega))
          rw [← he] at hcell2
          clear he hall
          generalize xs.getD k 0 = y at hcell hcell2
          go_wp2
          go_quiet (fail)
          go_wp2
          go_roundw
          case rel => exact ⟨k + 1, by omega, by go_num, HA, below_dn hbel _⟩
          case measure => simp [intOf]; omega
        · have HF := Lib.hid (decide_eq_false (list_ne_at hlt he))
          have heq : (xs.getD k 0 != ys.getD k 0) = true := by rw [bne_iff_ne]; exact he
          clear he hall
          generalize xs.getD k 0 = y at hcell heq
          generalize ys.getD k 0 = z at hcell2 heq
          go_wp2
          go_quiet (fail)
          go_wp2
          go_ret
          exact ⟨ret_b HF.out.symm, below_dn hbel _⟩
      · obtain rfl : k = xs.length := by omega
        have HT := Lib.hid (decide_eq_true (list_eq_all HL.out hall.out))
        clear hall
        go_wp2
        go_ret
        exact ⟨ret_b HT.out.symm, hbel⟩
  · have HF := Lib.hid (decide_eq_false (show ¬ xs = ys from fun e => hl (by rw [e])))
    have hne : ((xs.length : Int) != (ys.length : Int)) = true := by rw [bne_iff_ne]; omega
    clear hl
    go_enter Tryd.func36, Tryd.ntmps36
    go_wp2
    go_ret
    exact ⟨ret_b HF.out.symm, Below.refl _ _⟩
theorem szL_row {rs : List RowD} (hs : szL rs ≤ 1048576) {k : Nat} (hk : k < rs.length) : (rs.getD k (0, [])).2.length ≤ 1048576 := by
  have h1 := szTo_step hk
  have h2 := szTo_le (rs := rs) (k := k + 1) (by omega)
  omega
theorem szL_len {rs : List RowD} (hs : szL rs ≤ 1048576) : rs.length ≤ 1048576 := by
  have := szTo_le (rs := rs) (Nat.zero_le _); rw [szTo_zero] at this; omega
theorem rows_ne_at {rs ss : List RowD} {k : Nat} (h : ¬ rs.getD k (0, []) = ss.getD k (0, [])) : ¬ rs = ss := fun e => h (by rw [e])
theorem rows_eq_all {rs ss : List RowD} (hl : rs.length = ss.length) (h : ∀ j, j < rs.length → rs.getD j (0, []) = ss.getD j (0, [])) : rs = ss := by
  apply List.ext_getElem hl
  intro i h1 h2
  have := h i h1
  simpa [List.getD, h1, h2] using this
end Go.Proofs.YteelgogfpidcdaaDoor
namespace Go.Proofs.YteelgogfpidcdaaDoor
open Go.RowKit
set_option linter.unusedVariables false
theorem take_runs {P : Program} {ops : Array Oper} {Q : Exit → Act → World → Prop} {md : Region.Mode} {S : World → Prop} {i : Nat} {oi : Oper} {d : Option Tmp} {v : Value} {fuel : Nat} {listed : Array Bool} {a : Act} {w : World} (hi : ops[i]? = some oi)
    (hs : Region.noSelect ops = true) (hf : Region.free md ops listed i = true) (hr : (Region.ready md ops listed).contains i = true) (hd : oi.dst = d)
    (hQ : ∀ c a w, Q (.panic c) (a.put oi.dst v) w → Q (.panic c) a w) (hw : Region.wanted oi (yielded ops a.tmps) = true) (hy : ∀ w, S w → (execOp a.eval oi).run P w = .ok (.value v) w) (hS : S w)
    (h : wpAnyH P md ops Q S fuel (listed.setIfInBounds i true) (a.put d v) w) : wpAnyH P md ops Q S (fuel + 1) listed a w := by
  subst hd
  exact wpAnyH_take hi hs hf hr hQ (Or.inl ⟨hw, hy⟩) hS h
theorem take_over {P : Program} {ops : Array Oper} {Q : Exit → Act → World → Prop} {md : Region.Mode} {S : World → Prop} {i : Nat} {oi : Oper} {d : Option Tmp} {fuel : Nat} {listed : Array Bool} {a : Act} {w : World} (hi : ops[i]? = some oi)
    (hs : Region.noSelect ops = true) (hf : Region.free md ops listed i = true) (hr : (Region.ready md ops listed).contains i = true) (hd : oi.dst = d)
    (hQ : ∀ c a w, Q (.panic c) (a.put oi.dst undef) w → Q (.panic c) a w) (hw : Region.wanted oi (yielded ops a.tmps) = false) (hS : S w)
    (h : wpAnyH P md ops Q S fuel (listed.setIfInBounds i true) (a.put d undef) w) : wpAnyH P md ops Q S (fuel + 1) listed a w := by
  subst hd
  exact wpAnyH_take hi hs hf hr hQ (Or.inr ⟨hw, rfl⟩) hS h
end Go.Proofs.YteelgogfpidcdaaDoor
namespace Go.Proofs.YteelgogfpidcdaaDoor
open Go.RowKit
set_option linter.unusedVariables false
set_option linter.unusedSimpArgs false
/-- The number behind the letter b. -/
def aftL (b : UInt8) (l : List UInt8) : Int := if 2 ≤ l.length ∧ l.getD 0 0 = b then numL (l.drop 1) else -100000
theorem drop_strB (s : ByteArray) (m : Nat) : s.extract m s.size = strB (s.data.toList.drop m) := by
  apply ByteArray.ext
  apply Array.ext'
  simp [strB]
  exact List.take_of_length_le (by simp)
theorem take_strB (s : ByteArray) (m : Nat) (h : m ≤ s.size) : s.extract 0 m = strB (s.data.toList.take m) := by
  apply ByteArray.ext
  apply Array.ext'
  simp [strB]
set_option maxHeartbeats 2000000 in
set_option maxRecDepth 100000 in
theorem specAfter (s : ByteArray) (b : UInt8) (c : Int) (w : World) (hc : (b.toNat : Int) = c) (hs : s.size ≤ 1048576) :
    Calls Tryd.prog 62 #[.string s, .int .u8 c] w fun e w' => e = .returned (.int .i64 (aftL b s.data.toList)) ∧ Below w.heap.size w w' := by
  subst hc
  have hl : s.data.toList.length = s.size := by simp
  by_cases h2 : s.size < 2
  · have HF : Hid (aftL b s.data.toList = -100000) := Lib.hid (by unfold aftL; rw [if_neg (by omega)])
    have i2 : (s.size : Int) < 2 := by omega
    have d2 : decide ((s.size : Int) < 2) = true := decide_eq_true i2
    clear h2 hl
    go_enter Tryd.func62, Tryd.ntmps62
    go_wp2
    go_ret
    exact ⟨ret_n HF.out.symm, Below.refl _ _⟩
  · have i2 : ¬ (s.size : Int) < 2 := by omega
    have d2 : decide ((s.size : Int) < 2) = false := decide_eq_false i2
    have i0 : (0 : Int) < (s.size : Int) := by omega
    have i1 : (1 : Int) ≤ (s.size : Int) := by omega
    have h0 : 0 < s.size := by omega
    have h1 : 1 ≤ s.size := by omega
    have g0 : s.data.toList.getD 0 0 = s[0] := by
      rw [List.getD_eq_getElem?_getD, List.getElem?_eq_getElem (by omega)]
      rfl
    by_cases hb : s[0] = b
    · have HF : Hid (aftL b s.data.toList = numL (s.data.toList.drop 1)) := Lib.hid (by unfold aftL; rw [if_pos ⟨by omega, by rw [g0]; exact hb⟩])
      have hbn : s[0].toNat = b.toNat := by rw [hb]
      have HN := Lib.hid (fun w => specNum (s.data.toList.drop 1) w (by simp only [List.length_drop]; omega))
      rw [← drop_strB] at HN
      clear h2 hl g0 hb
      go_enter Tryd.func62, Tryd.ntmps62
      go_wp2_with fail
      refine (HN.out _).mono ?_
      rintro e w1 ⟨rfl, b1⟩
      go_wp2
      go_ret
      exact ⟨ret_n (by rw [HF.out]; simp), b1⟩
    · have HF : Hid (aftL b s.data.toList = -100000) := Lib.hid (by unfold aftL; rw [if_neg (fun h => hb (by rw [← g0]; exact h.2))])
      have hbn : ¬ s[0].toNat = b.toNat := fun g => hb (UInt8.toNat_inj.1 g)
      clear h2 hl g0 hb
      go_enter Tryd.func62, Tryd.ntmps62
      go_wp2
      go_ret
      exact ⟨ret_n HF.out.symm, Below.refl _ _⟩
/-- The two numbers apart by the first two dots behind the bytes p. -/
def rngGo (p : List UInt8) : List UInt8 → Int × Int
  | a :: b :: r => if a = 46 ∧ b = 46 then (numL p, numL r) else rngGo (p ++ [a]) (b :: r)
  | _ => (-100000, -100000)
def rngL (l : List UInt8) : Int × Int := rngGo [] l
theorem rng_hit {p : List UInt8} {s : ByteArray} {m : Nat} (h : m + 1 < s.size) (h0 : s[m] = 46) (h1 : s[m + 1] = 46) : rngGo p (s.data.toList.drop m) = (numL p, numL (s.data.toList.drop (m + 2))) := by
  rw [drop_at s m (by omega), drop_at s (m + 1) h]
  unfold rngGo
  rw [if_pos ⟨h0, h1⟩]
theorem rng_miss {p : List UInt8} {s : ByteArray} {m : Nat} (h : m + 1 < s.size) (hn : ¬ (s[m] = 46 ∧ s[m + 1] = 46)) : rngGo p (s.data.toList.drop m) = rngGo (p ++ [s[m]]) (s.data.toList.drop (m + 1)) := by
  rw [drop_at s m (by omega), drop_at s (m + 1) h]
  conv => lhs; unfold rngGo
  rw [if_neg hn]
theorem rng_end {p : List UInt8} {s : ByteArray} {m : Nat} (h : ¬ m + 1 < s.size) : rngGo p (s.data.toList.drop m) = (-100000, -100000) := by
  by_cases h1 : m < s.size
  · rw [drop_at s m h1, List.drop_eq_nil_of_le (by simp; omega)]; rfl
  · rw [List.drop_eq_nil_of_le (by simp; omega)]; rfl
theorem ext_two (s : ByteArray) (m : Nat) (h : m + 1 < s.size) : s.extract m (m + 2) = strB [s[m], s[m + 1]] := by
  apply ByteArray.ext
  apply Array.ext'
  have e : s.data.toList.drop m = s[m] :: s[m + 1] :: s.data.toList.drop (m + 2) := by rw [drop_at s m (by omega), drop_at s (m + 1) h]
  simp only [ByteArray.data_extract, Array.toList_extract, List.extract_eq_take_drop, strB]
  rw [e, show m + 2 - m = 2 by omega]
  rfl
theorem take_next (s : ByteArray) (m : Nat) (h : m < s.size) : s.data.toList.take m ++ [s[m]] = s.data.toList.take (m + 1) := by
  rw [List.take_succ_eq_append_getElem (by simpa using h)]
  rfl
theorem ret_2i {a b c d : Int} (h : a = b) (g : c = d) : Ending.returned (.tuple #[.int .i64 a, .int .i64 c]) = .returned (.tuple #[.int .i64 b, .int .i64 d]) := by rw [h, g]
set_option maxHeartbeats 4000000 in
set_option maxRecDepth 100000 in
theorem specRange (s : ByteArray) (w : World) (hs : s.size ≤ 1048576) :
    Calls Tryd.prog 63 #[.string s] w fun e w' => e = .returned (.tuple #[.int .i64 (rngL s.data.toList).1, .int .i64 (rngL s.data.toList).2]) ∧ Below w.heap.size w w' := by
  go_enter Tryd.func63, Tryd.ntmps63
  go_wp2
  go_loopw [4] (fun i wr => ∃ m : Nat, m ≤ s.size ∧ i = .int .i64 m ∧ Hid (rngL s.data.toList = rngGo (s.data.toList.take m) (s.data.toList.drop m)) ∧ Below w.heap.size w wr) (fun i _ => s.size - (intOf i).toNat)
  case atStart => exact ⟨0, Nat.zero_le _, rfl, Lib.hid rfl, Below.refl _ _⟩
  case round =>
    obtain ⟨m, hm, rfl, hR, hbel⟩ := hrel
    by_cases hlt : m + 1 < s.size
    · have i1 : (0 : Int) ≤ (m : Int) := by omega
      have i2 : (m : Int) + 1 < (s.size : Int) := by omega
      have i3 : (m : Int) + 2 ≤ (s.size : Int) := by omega
      have i4 : m + 2 ≤ s.size := by omega
      have i5 : (0 : Int) ≤ (m : Int) + 2 := by omega
      have e3 : ((m : Int) + 2).toNat = m + 2 := by omega
      have e1 : IntKind.i64.wrap ((m : Int) + 1) = (m : Int) + 1 := IntWalk.i64_in _ (by omega)
      have e2 : IntKind.i64.wrap ((m : Int) + 2) = (m : Int) + 2 := IntWalk.i64_in _ (by omega)
      have hq : (s.extract m (m + 2)).toList = [s[m], s[m + 1]] := by rw [ext_two s m hlt, strB_toList]
      by_cases hb : s[m] = 46 ∧ s[m + 1] = 46
      · have HE : Hid (rngL s.data.toList = (numL (s.data.toList.take m), numL (s.data.toList.drop (m + 2)))) := Lib.hid (by rw [hR.out, rng_hit hlt hb.1 hb.2])
        have heq : ((s.extract m (m + 2)).toList == [46, 46]) = true := by rw [hq, hb.1, hb.2]; rfl
        have H1 := Lib.hid (fun w => specNum (s.data.toList.take m) w (by simp only [List.length_take]; omega))
        have H2 := Lib.hid (fun w => specNum (s.data.toList.drop (m + 2)) w (by simp only [List.length_drop, ByteArray.size_data, Array.length_toList]; omega))
        rw [← take_strB s m hm] at H1
        rw [← drop_strB] at H2
        clear hR hq hb
        generalize numL (s.data.toList.take m) = x at *
        generalize numL (s.data.toList.drop (m + 2)) = y at *
        go_wp2
        refine wp_region_held_drew (S := fun _ => True) (by kernel_rfl) trivial (fun hHeld => ?_)
        have e0 := below_drew (Below.refl wr.heap.size wr)
        refine take_runs (i := 0) (v := ?_) (by simp only [List.getElem?_toArray, List.getElem?_cons_succ, List.getElem?_cons_zero]; rfl) (by kernel_rfl) (by kernel_rfl) (by kernel_rfl) rfl (by exact fun _ _ _ h => h) (by rfl) ?_ (by assumption) ?_
        rotate_left
        · intro w hSw; (try dsimp only at hSw); go_simp; try (with_reducible rfl)
        try simp only [Act.put, List.setIfInBounds_toArray, List.set_cons_zero, List.set_cons_succ]
        refine take_runs (i := 1) (v := ?_) (by simp only [List.getElem?_toArray, List.getElem?_cons_succ, List.getElem?_cons_zero]; rfl) (by kernel_rfl) (by kernel_rfl) (by kernel_rfl) rfl (by exact fun _ _ _ h => h) (by rfl) ?_ (by assumption) ?_
        rotate_left
        · intro w hSw; (try dsimp only at hSw); go_simp; try (with_reducible rfl)
        try simp only [Act.put, List.setIfInBounds_toArray, List.set_cons_zero, List.set_cons_succ]
        refine take_runs (i := 2) (v := ?_) (by simp only [List.getElem?_toArray, List.getElem?_cons_succ, List.getElem?_cons_zero]; rfl) (by kernel_rfl) (by kernel_rfl) (by kernel_rfl) rfl (by exact fun _ _ _ h => h) (by rfl) ?_ (by assumption) ?_
        rotate_left
        · intro w hSw; (try dsimp only at hSw); go_simp; try (with_reducible rfl)
        try simp only [Act.put, List.setIfInBounds_toArray, List.set_cons_zero, List.set_cons_succ]
        refine take_runs (i := 4) (v := ?_) (by simp only [List.getElem?_toArray, List.getElem?_cons_succ, List.getElem?_cons_zero]; rfl) (by kernel_rfl) (by kernel_rfl) (by kernel_rfl) rfl (by exact fun _ _ _ h => h) (by rfl) ?_ (by assumption) ?_
        rotate_left
        · intro w hSw; (try dsimp only at hSw); go_simp; try (with_reducible rfl)
        try simp only [Act.put, List.setIfInBounds_toArray, List.set_cons_zero, List.set_cons_succ]
        refine take_runs (i := 5) (v := ?_) (by simp only [List.getElem?_toArray, List.getElem?_cons_succ, List.getElem?_cons_zero]; rfl) (by kernel_rfl) (by kernel_rfl) (by kernel_rfl) rfl (by exact fun _ _ _ h => h) (by rfl) ?_ (by assumption) ?_
        rotate_left
        · intro w hSw; (try dsimp only at hSw); go_simp; try (with_reducible rfl)
        try simp only [Act.put, List.setIfInBounds_toArray, List.set_cons_zero, List.set_cons_succ]
        refine take_runs (i := 6) (v := ?_) (by simp only [List.getElem?_toArray, List.getElem?_cons_succ, List.getElem?_cons_zero]; rfl) (by kernel_rfl) (by kernel_rfl) (by kernel_rfl) rfl (by exact fun _ _ _ h => h) (by rfl) ?_ (by assumption) ?_
        rotate_left
        · intro w hSw; (try dsimp only at hSw); go_simp; try (with_reducible rfl)
        try simp only [Act.put, List.setIfInBounds_toArray, List.set_cons_zero, List.set_cons_succ]
        refine take_runs (i := 7) (v := ?_) (by simp only [List.getElem?_toArray, List.getElem?_cons_succ, List.getElem?_cons_zero]; rfl) (by kernel_rfl) (by kernel_rfl) (by kernel_rfl) rfl (by exact fun _ _ _ h => h) (by rfl) ?_ (by assumption) ?_
        rotate_left
        · intro w hSw; (try dsimp only at hSw); go_simp; try (with_reducible rfl)
        try simp only [Act.put, List.setIfInBounds_toArray, List.set_cons_zero, List.set_cons_succ]
        refine wpAnyH_ready (rs := [3]) (by kernel_rfl) (by simp) ?_
        refine AllReadyH.cons (o := _) (by simp only [List.getElem?_toArray, List.getElem?_cons_succ, List.getElem?_cons_zero]; rfl) (fun K hK => ?_) AllReadyH.nil
        go_simp
        refine (H1.out _).mono ?_
        rintro e x1 ⟨rfl, c1⟩
        have f1 := e0.trans (c1.mono e0.size)
        refine hK.out _ _ trivial (fun hHeld => ?_)
        clear hK K
        try simp only [Act.put, List.setIfInBounds_toArray, List.set_cons_zero, List.set_cons_succ]
        refine wpAnyH_ready (rs := [8]) (by kernel_rfl) (by simp) ?_
        refine AllReadyH.cons (o := _) (by simp only [List.getElem?_toArray, List.getElem?_cons_succ, List.getElem?_cons_zero]; rfl) (fun K hK => ?_) AllReadyH.nil
        go_simp
        refine (H2.out _).mono ?_
        rintro e x2 ⟨rfl, c2⟩
        have f2 := f1.trans (c2.mono f1.size)
        refine hK.out _ _ trivial (fun hHeld => ?_)
        clear hK K
        try simp only [Act.put, List.setIfInBounds_toArray, List.set_cons_zero, List.set_cons_succ]
        refine take_runs (i := 9) (v := ?_) (by simp only [List.getElem?_toArray, List.getElem?_cons_succ, List.getElem?_cons_zero]; rfl) (by kernel_rfl) (by kernel_rfl) (by kernel_rfl) rfl (by exact fun _ _ _ h => h) (by rfl) ?_ (by assumption) ?_
        rotate_left
        · intro w hSw; (try dsimp only at hSw); go_simp; try (with_reducible rfl)
        try simp only [Act.put, List.setIfInBounds_toArray, List.set_cons_zero, List.set_cons_succ]
        refine take_runs (i := 10) (v := ?_) (by simp only [List.getElem?_toArray, List.getElem?_cons_succ, List.getElem?_cons_zero]; rfl) (by kernel_rfl) (by kernel_rfl) (by kernel_rfl) rfl (by exact fun _ _ _ h => h) (by rfl) ?_ (by assumption) ?_
        rotate_left
        · intro w hSw; (try dsimp only at hSw); go_simp; try (with_reducible rfl)
        try simp only [Act.put, List.setIfInBounds_toArray, List.set_cons_zero, List.set_cons_succ]
        refine wpAnyH_done (by kernel_rfl) ?_ _
        have b9 := hbel.trans (f2.mono hbel.size)
        go_wp2
        go_ret2
        exact ⟨ret_2i (by rw [HE.out]) (by rw [HE.out]), b9⟩
      · have HR : Hid (rngL s.data.toList = rngGo (s.data.toList.take (m + 1)) (s.data.toList.drop (m + 1))) := Lib.hid (by rw [hR.out, rng_miss hlt hb, take_next s m (by omega)])
        have heq : ((s.extract m (m + 2)).toList == [46, 46]) = false := by
          rw [hq, beq_eq_false_iff_ne]
          intro g
          simp only [List.cons.injEq, and_true] at g
          exact hb g
        clear hR hq hb
        go_wp2
        go_roundw
        case rel => exact ⟨m + 1, by omega, by go_num, HR, hbel⟩
        case measure => simp [intOf]; omega
    · have HE : Hid (rngL s.data.toList = (-100000, -100000)) := Lib.hid (by rw [hR.out, rng_end hlt])
      have i2 : ¬ (m : Int) + 1 < (s.size : Int) := by omega
      have e1 : IntKind.i64.wrap ((m : Int) + 1) = (m : Int) + 1 := IntWalk.i64_in _ (by omega)
      clear hR
      go_wp2
      go_ret2
      exact ⟨ret_2i (by rw [HE.out]) (by rw [HE.out]), hbel⟩
end Go.Proofs.YteelgogfpidcdaaDoor
namespace Go.Proofs.YteelgogfpidcdaaDoor
open Go.RowKit
set_option linter.unusedVariables false
/-- A condition: field, low, high. -/
abbrev CondD := Int × Int × Int
theorem Tryd.infoCond : (Tryd.prog.info? 79).map (fun i => (i.zero, i.size, i.bytes)) = some (some (.agg #[.int .i64 0, .int .i64 0, .int .i64 0]), 3, 24) := by kernel_rfl
/-- The cells of conditions. -/
def flatC (cs : List CondD) : List Value := cs.flatMap fun c => [.int .i64 c.1, .int .i64 c.2.1, .int .i64 c.2.2]
theorem flatC_len (cs : List CondD) : (flatC cs).length = cs.length * 3 := by
  induction cs with
  | nil => rfl
  | cons c cs ih => simp only [flatC, List.flatMap_cons, List.length_append, List.length_cons, List.length_nil] at ih ⊢; rw [ih]; omega
theorem flatC_cons (c : CondD) (cs : List CondD) : flatC (c :: cs) = [.int .i64 c.1, .int .i64 c.2.1, .int .i64 c.2.2] ++ flatC cs := rfl
theorem flatC_app (a b : List CondD) : flatC (a ++ b) = flatC a ++ flatC b := by simp [flatC]
theorem flatC_at : ∀ (cs : List CondD) (j : Nat), j < cs.length → (flatC cs)[j * 3]? = some (.int .i64 (cs.getD j (0, 0, 0)).1) ∧ (flatC cs)[j * 3 + 1]? = some (.int .i64 (cs.getD j (0, 0, 0)).2.1) ∧ (flatC cs)[j * 3 + 2]? = some (.int .i64 (cs.getD j (0, 0, 0)).2.2)
  | [], j, h => by simp at h
  | c :: cs, 0, _ => ⟨rfl, rfl, rfl⟩
  | c :: cs, j + 1, h => by
    obtain ⟨h1, h2, h3⟩ := flatC_at cs j (by simpa using h)
    rw [flatC_cons]
    refine ⟨?_, ?_, ?_⟩
    · rw [List.getElem?_append_right (by simp; omega), show (j + 1) * 3 - [Value.int .i64 c.1, .int .i64 c.2.1, .int .i64 c.2.2].length = j * 3 by simp; omega, h1]; rfl
    · rw [List.getElem?_append_right (by simp; omega), show (j + 1) * 3 + 1 - [Value.int .i64 c.1, .int .i64 c.2.1, .int .i64 c.2.2].length = j * 3 + 1 by simp; omega, h2]; rfl
    · rw [List.getElem?_append_right (by simp; omega), show (j + 1) * 3 + 2 - [Value.int .i64 c.1, .int .i64 c.2.1, .int .i64 c.2.2].length = j * 3 + 2 by simp; omega, h3]; rfl
theorem flatC_one : ∀ (cs : List CondD), ∀ u ∈ flatC cs, u.oneCell' = true := by
  intro cs u hu
  simp only [flatC, List.mem_flatMap, List.mem_cons, List.not_mem_nil, or_false] at hu
  obtain ⟨c, _, rfl | rfl | rfl⟩ := hu <;> rfl
/-- The slice v reads as the conditions cs. -/
def CondsR (w : World) (v : Value) (cs : List CondD) : Prop :=
  (cs = [] ∧ ∃ a cap, v = .slice a 0 cap) ∨ ∃ b off cap, v = .slice (some ⟨b, off, none⟩) cs.length cap ∧ cs.length ≤ cap ∧ b < w.heap.size ∧ ∀ j, j < cs.length →
    w.cell? ⟨b, off + j * 3, none⟩ = some (.int .i64 (cs.getD j (0, 0, 0)).1) ∧ w.cell? ⟨b, off + j * 3 + 1, none⟩ = some (.int .i64 (cs.getD j (0, 0, 0)).2.1) ∧ w.cell? ⟨b, off + j * 3 + 2, none⟩ = some (.int .i64 (cs.getD j (0, 0, 0)).2.2)
theorem condsR_len {w : World} {v : Value} {cs : List CondD} (h : CondsR w v cs) : ∃ a cap, v = .slice a cs.length cap := by
  rcases h with ⟨rfl, a, cap, rfl⟩ | ⟨b, off, cap, rfl, _⟩
  · exact ⟨a, cap, rfl⟩
  · exact ⟨_, cap, rfl⟩
theorem condsR_below {W w : World} {v : Value} {cs : List CondD} (h : CondsR W v cs) (hb : Below W.heap.size W w) : CondsR w v cs := by
  rcases h with h | ⟨b, off, cap, h1, h2, h3, h4⟩
  · exact Or.inl h
  · exact Or.inr ⟨b, off, cap, h1, h2, Nat.lt_of_lt_of_le h3 hb.size, fun j hj => ⟨(hb.cell (p := ⟨b, off + j * 3, none⟩) h3).trans (h4 j hj).1, (hb.cell (p := ⟨b, off + j * 3 + 1, none⟩) h3).trans (h4 j hj).2.1, (hb.cell (p := ⟨b, off + j * 3 + 2, none⟩) h3).trans (h4 j hj).2.2⟩⟩
theorem condsR_heap {w w' : World} {v : Value} {cs : List CondD} (h : CondsR w v cs) (hh : w'.heap = w.heap) : CondsR w' v cs := by
  rcases h with h | ⟨b, off, cap, h1, h2, h3, h4⟩
  · exact Or.inl h
  · refine Or.inr ⟨b, off, cap, h1, h2, by rw [hh]; exact h3, fun j hj => ?_⟩
    have := h4 j hj
    unfold World.cell? at this ⊢
    rw [hh]; exact this
theorem condsR_at {w : World} {v : Value} {cs : List CondD} (h : CondsR w v cs) {k : Nat} (hk : k < cs.length) : ∃ (b off cap : Nat), v = .slice (some ⟨b, off, none⟩) cs.length cap ∧ b < w.heap.size ∧
    w.cell? ⟨b, off + k * 3, none⟩ = some (.int .i64 (cs.getD k (0, 0, 0)).1) ∧ w.cell? ⟨b, off + k * 3 + 1, none⟩ = some (.int .i64 (cs.getD k (0, 0, 0)).2.1) ∧ w.cell? ⟨b, off + k * 3 + 2, none⟩ = some (.int .i64 (cs.getD k (0, 0, 0)).2.2) := by
  rcases h with ⟨rfl, _⟩ | ⟨b, off, cap, h1, h2, h3, h4⟩
  · simp at hk
  · exact ⟨b, off, cap, h1, h3, h4 k hk⟩
/-- The slice v owns the conditions cs, in a block from B on. -/
def OwnsC (w : World) (B : Nat) (v : Value) (cs : List CondD) : Prop := w.ownsRow B 79 3 v cs.length (flatC cs)
theorem ownsC_nil (w : World) (B : Nat) : OwnsC w B (.slice none 0 0) [] := World.ownsRow_nil w B _ _
theorem ownsC_conds {w : World} {B : Nat} {v : Value} {cs : List CondD} (h : OwnsC w B v cs) : CondsR w v cs := by
  have h1' := h
  rcases h.2 with ⟨rfl, h0⟩ | ⟨g, cap, cur, rfl, hb, hg, hn, hm, hcs, htake⟩
  · exact Or.inl ⟨List.eq_nil_of_length_eq_zero h0, none, 0, rfl⟩
  · refine Or.inr ⟨g, 0, cap, rfl, hn, (Array.getElem?_eq_some_iff.1 hg).1, fun j hj => ?_⟩
    obtain ⟨f1, f2, f3⟩ := flatC_at cs j hj
    refine ⟨?_, ?_, ?_⟩
    · rw [Nat.zero_add, World.ownsRow.cellAt h1' (j * 3) (by omega)]; exact f1
    · rw [Nat.zero_add, World.ownsRow.cellAt h1' (j * 3 + 1) (by omega)]; exact f2
    · rw [Nat.zero_add, World.ownsRow.cellAt h1' (j * 3 + 2) (by omega)]; exact f3
theorem ownsC_below {w w' : World} {B : Nat} {v : Value} {cs : List CondD} (h : OwnsC w B v cs) (hb : Below w.heap.size w w') : OwnsC w' B v cs := ownsRow_below h hb
theorem ownsC_up {w : World} {B C : Nat} {v : Value} {cs : List CondD} (h : OwnsC w C v cs) (hb : B ≤ C) : OwnsC w B v cs := by
  refine ⟨h.1, ?_⟩
  rcases h.2 with hn | ⟨g, cap, cur, e, hb', rest⟩
  · exact .inl hn
  · exact .inr ⟨g, cap, cur, e, Nat.le_trans hb hb', rest⟩
theorem ownsC_low {w : World} {C : Nat} {v : Value} {cs : List CondD} (h : OwnsC w C v cs) {b : Nat} (hb : b < C) (j : Nat) (u : Value) : OwnsC (w.setCell ⟨b, j, none⟩ u) C v cs := by
  refine h.kept (grow_set w b j u) ?_
  cases hv : v.ownBlock with
  | none => exact Or.inl rfl
  | some k => exact Or.inr (by intro e; have := (h.lt k hv).1; simp at e; omega)
theorem ownsC_len {w : World} {B : Nat} {v : Value} {cs : List CondD} (h : OwnsC w B v cs) : ∃ a cap, v = .slice a cs.length cap := condsR_len (ownsC_conds h)
theorem flatC_set : ∀ (cs : List CondD) (j : Nat) (c : CondD), j < cs.length → (((flatC cs).set (j * 3) (.int .i64 c.1)).set (j * 3 + 1) (.int .i64 c.2.1)).set (j * 3 + 2) (.int .i64 c.2.2) = flatC (cs.set j c)
  | [], j, c, h => by simp at h
  | d :: cs, 0, c, _ => rfl
  | d :: cs, j + 1, c, h => by
    have ih := flatC_set cs j c (by simpa using h)
    rw [List.set_cons_succ, flatC_cons, flatC_cons, ← ih]
    have e0 : (j + 1) * 3 = (((j * 3) + 1) + 1) + 1 := by omega
    simp only [e0, List.cons_append, List.nil_append, List.set_cons_succ]
/-- A condition is stored at place k. -/
theorem ownsC_store {w : World} {B g n cap : Nat} {cs : List CondD} (h : OwnsC w B (.slice (some ⟨g, 0, none⟩) n cap) cs) {k : Nat} (hk : k < cs.length) (c : CondD) :
    OwnsC (((w.setCell ⟨g, k * 3, none⟩ (.int .i64 c.1)).setCell ⟨g, k * 3 + 1, none⟩ (.int .i64 c.2.1)).setCell ⟨g, k * 3 + 2, none⟩ (.int .i64 c.2.2)) B (.slice (some ⟨g, 0, none⟩) n cap) (cs.set k c) := by
  have hn : n = cs.length := by
    rcases h.2 with ⟨h', _⟩ | ⟨_, _, _, h', _⟩
    · simp at h'
    · simp only [Value.slice.injEq] at h'; exact h'.2.1
  subst hn
  have s1 := (World.ownsRow.stored h (k * 3) (.int .i64 c.1)).1
  have s2 := (World.ownsRow.stored s1 (k * 3 + 1) (.int .i64 c.2.1)).1
  have s3 := (World.ownsRow.stored s2 (k * 3 + 2) (.int .i64 c.2.2)).1
  rw [flatC_set cs k c hk] at s3
  unfold OwnsC
  rw [List.length_set]
  exact s3
theorem ownsC_cells {w : World} {B g n cap : Nat} {cs : List CondD} (h : OwnsC w B (.slice (some ⟨g, 0, none⟩) n cap) cs) {k : Nat} (hk : k < cs.length) :
    (∃ x, w.cell? ⟨g, k * 3, none⟩ = some x) ∧ (∃ x, w.cell? ⟨g, k * 3 + 1, none⟩ = some x) ∧ (∃ x, w.cell? ⟨g, k * 3 + 2, none⟩ = some x) ∧ w.frozen? ⟨g, k * 3, none⟩ = false ∧ w.frozen? ⟨g, k * 3 + 1, none⟩ = false ∧ w.frozen? ⟨g, k * 3 + 2, none⟩ = false := by
  have hn : n = cs.length := by
    rcases h.2 with ⟨h', _⟩ | ⟨_, _, _, h', _⟩
    · simp at h'
    · simp only [Value.slice.injEq] at h'; exact h'.2.1
  subst hn
  obtain ⟨f1, f2, f3⟩ := flatC_at cs k hk
  exact ⟨⟨_, (World.ownsRow.cellAt h (k * 3) (by omega)).trans f1⟩, ⟨_, (World.ownsRow.cellAt h (k * 3 + 1) (by omega)).trans f2⟩, ⟨_, (World.ownsRow.cellAt h (k * 3 + 2) (by omega)).trans f3⟩, World.ownsRow.frozenAt h _, World.ownsRow.frozenAt h _, World.ownsRow.frozenAt h _⟩
theorem ownsC_ge {w : World} {B g n cap : Nat} {cs : List CondD} (h : OwnsC w B (.slice (some ⟨g, 0, none⟩) n cap) cs) : B ≤ g ∧ g < w.heap.size := h.lt g rfl
theorem flatC_zero (n : Nat) : (madeCells #[Value.int .i64 0, Value.int .i64 0, Value.int .i64 0] (n * 3)).toList = flatC (List.replicate n (0, 0, 0)) := by
  apply List.ext_getElem?
  intro i
  by_cases hi : i < n * 3
  · obtain ⟨f1, f2, f3⟩ := flatC_at (List.replicate n (0, 0, 0)) (i / 3) (by simp; omega)
    have hz : (List.replicate n ((0, 0, 0) : CondD)).getD (i / 3) (0, 0, 0) = (0, 0, 0) := by simp [List.getD, List.getElem?_replicate]; split <;> rfl
    rw [hz] at f1 f2 f3
    have hm : (madeCells #[Value.int .i64 0, Value.int .i64 0, Value.int .i64 0] (n * 3)).toList[i]? = some (.int .i64 0) := by
      have h3 : i % 3 < 3 := Nat.mod_lt _ (by omega)
      simp only [madeCells, Array.getElem?_toList]
      simp [hi]
      have : i % 3 = 0 ∨ i % 3 = 1 ∨ i % 3 = 2 := by omega
      rcases this with e | e | e <;> simp [e]
    rw [hm]
    have : i = i / 3 * 3 ∨ i = i / 3 * 3 + 1 ∨ i = i / 3 * 3 + 2 := by omega
    rcases this with e | e | e
    · rw [e]; exact f1.symm
    · rw [e]; exact f2.symm
    · rw [e]; exact f3.symm
  · rw [List.getElem?_eq_none (by simp [madeCells]; omega), List.getElem?_eq_none (by rw [flatC_len]; simp; omega)]
theorem ownsC_made {w : World} {B g n : Nat} (h : w.ownsRow B 79 3 (.slice (some ⟨g, 0, none⟩) n n) n (madeCells #[Value.int .i64 0, Value.int .i64 0, Value.int .i64 0] (n * 3)).toList) : OwnsC w B (.slice (some ⟨g, 0, none⟩) n n) (List.replicate n (0, 0, 0)) := by
  rw [flatC_zero] at h
  unfold OwnsC
  simpa using h
end Go.Proofs.YteelgogfpidcdaaDoor
namespace Go.Proofs.YteelgogfpidcdaaDoor
open Go.RowKit
set_option linter.unusedVariables false
set_option linter.unusedSimpArgs false
def condB (c : CondD) : Bool := decide (0 ≤ c.1 ∧ c.1 ≤ 2) && (decide (0 ≤ c.2.1 ∧ c.2.1 ≤ c.2.2) && decide (c.2.2 ≤ 99))
abbrev condV (f l h : Int) : Value := .agg #[.int .i64 f, .int .i64 l, .int .i64 h]
theorem box_cells3 {W w : World} {t : TypeId} {x y z : Value} {b : Nat} (h : W.heap[b]? = some (.cells #[x, y, z] t (0, 0))) (hb : Below W.heap.size W w) :
    w.cell? ⟨b, 0, none⟩ = some x ∧ w.cell? ⟨b, 1, none⟩ = some y ∧ w.cell? ⟨b, 2, none⟩ = some z := by
  have hlt := (Array.getElem?_eq_some_iff.1 h).1
  have h' := (hb.block b hlt).trans h
  exact ⟨(cell_of_row w b 0 _ _ _ h').trans rfl, (cell_of_row w b 1 _ _ _ h').trans rfl, (cell_of_row w b 2 _ _ _ h').trans rfl⟩
theorem eq_below {W w w' : World} (h : w' = w) (hb : Below W.heap.size W w) : Below W.heap.size W w' := by rw [h]; exact hb
set_option maxHeartbeats 4000000 in
set_option maxRecDepth 100000 in
theorem specIsCond (f l h : Int) (w : World) :
    Calls Tryd.prog 87 #[condV f l h] w fun e w' => e = .returned (.bool (condB (f, l, h))) ∧ Below w.heap.size w w' := by
  have hb : Below w.heap.size w (w.alloc (.cells #[.int .i64 f, .int .i64 l, .int .i64 h] 79)) := (Below.refl _ w).alloc (Nat.le_refl _) _
  by_cases h1 : 0 ≤ f ∧ f ≤ 2
  · have H1 := Lib.hid (fun w => in_yes f 0 2 w h1.1 h1.2)
    by_cases h2 : 0 ≤ l ∧ l ≤ h
    · have H2 := Lib.hid (fun w => in_yes l 0 h w h2.1 h2.2)
      have HF : Hid (condB (f, l, h) = decide (h ≤ 99)) := Lib.hid (by unfold condB; rw [decide_eq_true h1, decide_eq_true h2]; simp)
      by_cases h3 : h ≤ 99
      · have HT : Hid (condB (f, l, h) = true) := Lib.hid (by rw [HF.out]; exact decide_eq_true h3)
        clear h1 h2 HF
        go_enter Tryd.func87, Tryd.ntmps87
        go_wp2_with fail
        refine (H1.out _).mono ?_
        rintro e w1 ⟨rfl, rfl⟩
        go_wp2_with fail
        refine (H2.out _).mono ?_
        rintro e w2 ⟨rfl, rfl⟩
        go_wp2
        go_ret
        exact ⟨ret_b HT.out.symm, hb⟩
      · have HT : Hid (condB (f, l, h) = false) := Lib.hid (by rw [HF.out]; exact decide_eq_false h3)
        clear h1 h2 HT
        go_enter Tryd.func87, Tryd.ntmps87
        go_wp2_with fail
        refine (H1.out _).mono ?_
        rintro e w1 ⟨rfl, rfl⟩
        go_wp2_with fail
        refine (H2.out _).mono ?_
        rintro e w2 ⟨rfl, rfl⟩
        go_wp2
        go_ret
        exact ⟨ret_b HF.out.symm, hb⟩
    · have H2 := Lib.hid (fun w => in_no l 0 h w h2)
      have HT : Hid (condB (f, l, h) = false) := Lib.hid (by unfold condB; rw [decide_eq_false h2]; simp)
      clear h1 h2
      go_enter Tryd.func87, Tryd.ntmps87
      go_wp2_with fail
      refine (H1.out _).mono ?_
      rintro e w1 ⟨rfl, rfl⟩
      go_wp2_with fail
      refine (H2.out _).mono ?_
      rintro e w2 ⟨rfl, rfl⟩
      go_wp2
      go_ret
      exact ⟨ret_b HT.out.symm, hb⟩
  · have H1 := Lib.hid (fun w => in_no f 0 2 w h1)
    have HT : Hid (condB (f, l, h) = false) := Lib.hid (by unfold condB; rw [decide_eq_false h1]; simp)
    clear h1
    go_enter Tryd.func87, Tryd.ntmps87
    go_wp2_with fail
    refine (H1.out _).mono ?_
    rintro e w1 ⟨rfl, rfl⟩
    go_wp2
    go_ret
    exact ⟨ret_b HT.out.symm, hb⟩
set_option maxHeartbeats 4000000 in
set_option maxRecDepth 100000 in
theorem toCond_any (f l h : Int) (w : World) :
    Calls Tryd.prog 89 #[condV f l h] w fun e w' => e = .returned (condV f l h) ∧ Below w.heap.size w w' := by
  go_enter Tryd.func89, Tryd.ntmps89
  go_wp2
  refine bodyPost_ret (v := condV f l h) ?_ rfl ?_
  · simp [results, Tryd.f89, go_sem]
  · refine ⟨rfl, ?_⟩
    exact (((Below.refl _ w).alloc (Nat.le_refl _) _).alloc (by simp) _).alloc (by simp; omega) _
set_option maxHeartbeats 4000000 in
set_option maxRecDepth 100000 in
theorem eqCond_same (f l h : Int) (w : World) :
    Calls Tryd.prog 91 #[condV f l h, condV f l h] w fun e w' => e = .returned (.bool true) ∧ Below w.heap.size w w' := by
  have e1 : (f != f) = false := by simp
  have e2 : (l != l) = false := by simp
  have e3 : (h != h) = false := by simp
  go_enter Tryd.func91, Tryd.ntmps91
  go_wp2
  go_ret
  exact ⟨rfl, ((Below.refl _ w).alloc (Nat.le_refl _) _).alloc (by simp) _⟩
end Go.Proofs.YteelgogfpidcdaaDoor
namespace Go.Proofs.YteelgogfpidcdaaDoor
open Go.RowKit
set_option linter.unusedVariables false
set_option linter.unusedSimpArgs false
abbrev qV (id tn : Int) (cv ov : Value) : Value := .agg #[.int .i64 id, .int .i64 tn, cv, ov]
theorem szCond_yes (a : Option Addr) (cap n : Nat) (k : Int) (w : World) (h : (n : Int) ≤ k) (hk : k ≤ 1048576) :
    Calls Tryd.prog 50 #[.slice a n cap, .int .i64 k] w fun e w' => e = .returned (.int .i64 (k - (n : Int))) ∧ w' = w := by
  have h0 : ¬ k - (n : Int) < 0 := by omega
  go_enter Tryd.func50, Tryd.ntmps50
  go_wp2
  go_ret
  exact ⟨rfl, rfl⟩
theorem szCond_no (a : Option Addr) (cap n : Nat) (k : Int) (w : World) (h : k < (n : Int)) (hk : 0 ≤ k) (hn : (n : Int) ≤ 9223372036854775807) :
    Calls Tryd.prog 50 #[.slice a n cap, .int .i64 k] w fun e w' => e = .returned (.int .i64 (-1)) ∧ w' = w := by
  have h0 : k - (n : Int) < 0 := by omega
  go_enter Tryd.func50, Tryd.ntmps50
  go_wp2
  go_ret
  exact ⟨rfl, rfl⟩
set_option maxRecDepth 100000 in
theorem szQuery_yes (id tn : Int) (a b : Option Addr) (cap cap2 n m : Nat) (k : Int) (w : World) (h : (n : Int) + (m : Int) ≤ k) (hk : k ≤ 1048576) :
    Calls Tryd.prog 20 #[qV id tn (.slice a n cap) (.slice b m cap2), .int .i64 k] w fun e w' => e = .returned (.int .i64 (k - (n : Int) - (m : Int))) ∧ Below w.heap.size w w' := by
  have H1 := Lib.hid (fun w => szCond_yes a cap n k w (by omega) hk)
  have H2 := Lib.hid (fun w => szInt_yes b cap2 m (k - (n : Int)) w (by omega) (by omega))
  have h0 : ¬ k - (n : Int) < 0 := by omega
  have h1 : ¬ k - (n : Int) - (m : Int) < 0 := by omega
  have hb : Below w.heap.size w (w.alloc (.cells #[.int .i64 id, .int .i64 tn, .slice a n cap, .slice b m cap2] 41)) := (Below.refl _ w).alloc (Nat.le_refl _) _
  go_enter Tryd.func20, Tryd.ntmps20
  go_wp2_with fail
  refine (H1.out _).mono ?_
  rintro e w1 ⟨rfl, rfl⟩
  go_wp2_with fail
  refine (H2.out _).mono ?_
  rintro e w1 ⟨rfl, rfl⟩
  go_wp2
  go_ret
  exact ⟨rfl, hb⟩
set_option maxRecDepth 100000 in
theorem szQuery_no (id tn : Int) (a b : Option Addr) (cap cap2 n m : Nat) (k : Int) (w : World) (h : k < (n : Int) + (m : Int)) (k0 : 0 ≤ k) (hk : k ≤ 1048576) (hn : (n : Int) ≤ 9223372036854775807) (hm : (m : Int) ≤ 9223372036854775807) :
    Calls Tryd.prog 20 #[qV id tn (.slice a n cap) (.slice b m cap2), .int .i64 k] w fun e w' => e = .returned (.int .i64 (-1)) ∧ Below w.heap.size w w' := by
  have hb : Below w.heap.size w (w.alloc (.cells #[.int .i64 id, .int .i64 tn, .slice a n cap, .slice b m cap2] 41)) := (Below.refl _ w).alloc (Nat.le_refl _) _
  by_cases hc : k < (n : Int)
  · have H1 := Lib.hid (fun w => szCond_no a cap n k w hc k0 hn)
    clear h k0 hk hn hm hc
    go_enter Tryd.func20, Tryd.ntmps20
    go_wp2_with fail
    refine (H1.out _).mono ?_
    rintro e w1 ⟨rfl, rfl⟩
    go_wp2
    go_ret
    exact ⟨rfl, hb⟩
  · have H1 := Lib.hid (fun w => szCond_yes a cap n k w (by omega) hk)
    have H2 := Lib.hid (fun w => szInt_no b cap2 m (k - (n : Int)) w (by omega) (by omega) hm)
    have h0 : ¬ k - (n : Int) < 0 := by omega
    clear h k0 hn hm hc
    go_enter Tryd.func20, Tryd.ntmps20
    go_wp2_with fail
    refine (H1.out _).mono ?_
    rintro e w1 ⟨rfl, rfl⟩
    go_wp2_with fail
    refine (H2.out _).mono ?_
    rintro e w1 ⟨rfl, rfl⟩
    go_wp2
    go_ret
    exact ⟨rfl, hb⟩
theorem conds_copied (cs : List CondD) (k : Nat) (h : k < cs.length) : (cs.take k ++ List.replicate (cs.length - k) (0, 0, 0)).set k (cs.getD k (0, 0, 0)) = cs.take (k + 1) ++ List.replicate (cs.length - (k + 1)) (0, 0, 0) := by
  have hk : (cs.take k).length = k := by rw [List.length_take]; omega
  rw [List.set_append_right _ _ (by omega), hk, Nat.sub_self, show cs.length - k = (cs.length - (k + 1)) + 1 by omega, List.replicate_succ, List.set_cons_zero, List.take_succ_eq_append_getElem h, List.append_assoc]
  simp [List.getD, h]
set_option maxHeartbeats 4000000 in
set_option maxRecDepth 100000 in
theorem toCondS_any (v : Value) (cs : List CondD) (w : World) (h : CondsR w v cs) (hn : cs.length ≤ 1048576) :
    Calls Tryd.prog 53 #[v] w fun e w' => ∃ u, e = .returned u ∧ OwnsC w' w.heap.size u cs ∧ Below w.heap.size w w' := by
  obtain ⟨i0, hi, hz0, hz1, hz2⟩ := info_parts Tryd.infoCond
  have HI := Lib.hid hi; have HZ0 := Lib.hid hz0; have HZ1 := Lib.hid hz1; have HZ2 := Lib.hid hz2
  clear hi hz0 hz1 hz2
  have H := Lib.hid h
  obtain ⟨a, cap, rfl⟩ := condsR_len h
  clear h
  go_enter Tryd.func53, Tryd.ntmps53
  go_wp2_with (at_make; refine wpList_make_full _ rfl (.tmp 6) (.tmp 6) 44 rfl w.heap.size 79 i0 (.agg #[.int .i64 0, .int .i64 0, .int .i64 0]) 3 Tryd.underlying44 HI.out HZ0.out HZ1.out _ _ _ _ cs.length rfl rfl rfl rfl (by rw [HZ2.out]; omega) (by unfold maxLen; omega) (Nat.le_refl _) ?_)
  intro w1 hown0 hg0
  have hown1 := ownsC_made hown0
  have hbel1 := (Below.refl w.heap.size w).grown hg0 (Nat.le_refl _) (fun k hk => by cases hk)
  clear hown0 hg0
  go_wp2
  go_loopw [4] (fun i wr => ∃ k : Nat, k ≤ cs.length ∧ i = .int .i64 k ∧ OwnsC wr w.heap.size (.slice (some ⟨w.heap.size, 0, none⟩) cs.length cs.length) (cs.take k ++ List.replicate (cs.length - k) (0, 0, 0)) ∧ Below w.heap.size w wr) (fun i _ => cs.length - (intOf i).toNat)
  case atStart => exact ⟨0, Nat.zero_le _, rfl, by simpa using hown1, hbel1⟩
  case round =>
    obtain ⟨k, hk, rfl, hown, hbel⟩ := hrel
    by_cases hlt : k < cs.length
    · obtain ⟨b, off, cap', hv, hbl, hc1, hc2, hc3⟩ := condsR_at (condsR_below H.out hbel) hlt
      simp only [Value.slice.injEq] at hv
      obtain ⟨rfl, _, rfl⟩ := hv
      have HSET := Lib.hid (conds_copied cs k hlt)
      have HKL : Hid (k < (cs.take k ++ List.replicate (cs.length - k) ((0, 0, 0) : CondD)).length) := Lib.hid (by simp; omega)
      have i1 : (0 : Int) ≤ (k : Int) := by omega
      have i2 : (k : Int) < (cs.length : Int) := by omega
      clear hown1 hbel1
      generalize cs.getD k (0, 0, 0) = c at *
      obtain ⟨f, l, hh⟩ := c
      simp only at hc1 hc2 hc3
      generalize cs.take k ++ List.replicate (cs.length - k) ((0, 0, 0) : CondD) = us at *
      go_wp2_with fail
      refine (toCond_any f l hh _).mono ?_
      rintro e w2 ⟨rfl, b2⟩
      have ho := ownsC_below hown b2
      have hst := Lib.hid (ownsC_store ho HKL.out (f, l, hh))
      rw [HSET.out] at hst
      have b3 := hbel.trans (b2.mono hbel.size)
      have B3 := ((b3.setCell (p := ⟨w.heap.size, k * 3, none⟩) (Nat.le_refl _) (.int .i64 f)).setCell (p := ⟨w.heap.size, k * 3 + 1, none⟩) (Nat.le_refl _) (.int .i64 l)).setCell (p := ⟨w.heap.size, k * 3 + 2, none⟩) (Nat.le_refl _) (.int .i64 hh)
      obtain ⟨⟨x0, q0⟩, ⟨x1, q1⟩, ⟨x2, q2⟩, f0, f1, f2⟩ := ownsC_cells ho HKL.out
      clear hown hbel b2 ho hc1 hc2 hc3
      go_wp2
      go_roundw
      case rel => exact ⟨k + 1, by omega, by go_num, hst.out, B3⟩
      case measure => simp [intOf]; omega
    · obtain rfl : k = cs.length := by omega
      have HE : Hid (cs.take cs.length ++ List.replicate (cs.length - cs.length) ((0, 0, 0) : CondD) = cs) := Lib.hid (by simp)
      rw [HE.out] at hown
      go_wp2
      go_ret
      exact ⟨_, rfl, hown, hbel⟩
/-- A query in new memory. -/
def FreshQ (w : World) (id tn : Int) (cs : List CondD) (os : List Int) (e : Ending) (w' : World) : Prop :=
  ∃ cv ov, e = .returned (qV id tn cv ov) ∧ OwnsC w' w.heap.size cv cs ∧ OwnsN w' w.heap.size ov os ∧ (∀ b, cv.ownBlock = some b → ov.ownBlock ≠ some b) ∧ Below w.heap.size w w'
set_option maxHeartbeats 8000000 in
set_option maxRecDepth 100000 in
theorem toQuery_any (id tn : Int) (cv ov : Value) (cs : List CondD) (os : List Int) (w : World) (h : CondsR w cv cs) (hn : cs.length ≤ 1048576) (g : Ints w ov os) (hm : os.length ≤ 1048576) :
    Calls Tryd.prog 22 #[qV id tn cv ov] w (FreshQ w id tn cs os) := by
  have H := Lib.hid h
  have HN := Lib.hid hn
  have G := Lib.hid g
  have HM := Lib.hid hm
  clear h hn g hm
  go_enter Tryd.func22, Tryd.ntmps22
  go_wp2_with fail
  have hh : Below w.heap.size w (((w.alloc (.cells #[.int .i64 id, .int .i64 tn, cv, ov] 41)).alloc (.cells #[.int .i64 0, .int .i64 0, .slice none 0 0, .slice none 0 0] 46)).alloc (.cells #[.int .i64 id, .int .i64 tn, .slice none 0 0, .slice none 0 0] 46)) := (((Below.refl _ w).alloc (Nat.le_refl _) _).alloc (by simp) _).alloc (by simp; omega) _
  have g2 : (((w.alloc (.cells #[.int .i64 id, .int .i64 tn, cv, ov] 41)).alloc (.cells #[.int .i64 0, .int .i64 0, .slice none 0 0, .slice none 0 0] 46)).alloc (.cells #[.int .i64 id, .int .i64 tn, .slice none 0 0, .slice none 0 0] 46)).heap[w.heap.size + 1 + 1]? = some (.cells #[.int .i64 id, .int .i64 tn, .slice none 0 0, .slice none 0 0] 46 (0, 0)) := by
    have := heap_alloc_new ((w.alloc (.cells #[.int .i64 id, .int .i64 tn, cv, ov] 41)).alloc (.cells #[.int .i64 0, .int .i64 0, .slice none 0 0, .slice none 0 0] 46)) (.cells #[.int .i64 id, .int .i64 tn, .slice none 0 0, .slice none 0 0] 46)
    simpa only [World.size_alloc] using this
  have g1 : (((w.alloc (.cells #[.int .i64 id, .int .i64 tn, cv, ov] 41)).alloc (.cells #[.int .i64 0, .int .i64 0, .slice none 0 0, .slice none 0 0] 46)).alloc (.cells #[.int .i64 id, .int .i64 tn, .slice none 0 0, .slice none 0 0] 46)).heap[w.heap.size + 1]? = some (.cells #[.int .i64 0, .int .i64 0, .slice none 0 0, .slice none 0 0] 46 (0, 0)) := by
    have := heap_alloc_new (w.alloc (.cells #[.int .i64 id, .int .i64 tn, cv, ov] 41)) (.cells #[.int .i64 0, .int .i64 0, .slice none 0 0, .slice none 0 0] 46)
    rw [Below.heap_alloc _ _ _ (by simp)]
    simpa only [World.size_alloc] using this
  have g0 : (((w.alloc (.cells #[.int .i64 id, .int .i64 tn, cv, ov] 41)).alloc (.cells #[.int .i64 0, .int .i64 0, .slice none 0 0, .slice none 0 0] 46)).alloc (.cells #[.int .i64 id, .int .i64 tn, .slice none 0 0, .slice none 0 0] 46)).heap[w.heap.size]? = some (.cells #[.int .i64 id, .int .i64 tn, cv, ov] 41 (0, 0)) := by
    rw [Below.heap_alloc _ _ _ (by simp; omega), Below.heap_alloc _ _ _ (by simp)]
    exact heap_alloc_new w _
  have hs : (((w.alloc (.cells #[.int .i64 id, .int .i64 tn, cv, ov] 41)).alloc (.cells #[.int .i64 0, .int .i64 0, .slice none 0 0, .slice none 0 0] 46)).alloc (.cells #[.int .i64 id, .int .i64 tn, .slice none 0 0, .slice none 0 0] 46)).heap.size = w.heap.size + 3 := by simp [World.size_alloc]
  generalize (((w.alloc (.cells #[.int .i64 id, .int .i64 tn, cv, ov] 41)).alloc (.cells #[.int .i64 0, .int .i64 0, .slice none 0 0, .slice none 0 0] 46)).alloc (.cells #[.int .i64 id, .int .i64 tn, .slice none 0 0, .slice none 0 0] 46)) = W at *
  refine (toCondS_any cv cs W (condsR_below H.out hh) HN.out).mono ?_
  rintro e w1 ⟨u, rfl, o1, b1⟩
  obtain ⟨ua, ucap, rfl⟩ := ownsC_len o1
  have k0 := (b1.block w.heap.size (by omega)).trans g0
  have k1 := (b1.block (w.heap.size + 1) (by omega)).trans g1
  have k2 := (b1.block (w.heap.size + 1 + 1) (by omega)).trans g2
  have B1 := hh.trans (b1.mono (by omega))
  have hz : W.heap.size ≤ w1.heap.size := b1.size
  clear g0 g1 g2 hh b1
  have c22 := (cell_of_row w1 _ 2 _ _ _ k2).trans (show _ = some (Value.slice none 0 0) from rfl)
  have f22 := frozen_of_row w1 _ 2 _ _ k2
  have p3 := (cell_of_row w1 _ 3 _ _ _ k0).trans (show _ = some ov from rfl)
  have hne1 : ¬ w.heap.size = w.heap.size + 1 + 1 := by omega
  have p3b : (w1.setCell ⟨w.heap.size + 1 + 1, 2, none⟩ (.slice ua cs.length ucap)).cell? ⟨w.heap.size, 3, none⟩ = some ov := by
    have m := (heap_setCell_other w1 ⟨w.heap.size + 1 + 1, 2, none⟩ w.heap.size (.slice ua cs.length ucap) (by simp <;> omega)).trans k0
    exact (cell_of_row _ _ 3 _ _ _ m).trans rfl
  go_wp2_with fail
  have m0 := (heap_setCell_other w1 ⟨w.heap.size + 1 + 1, 2, none⟩ w.heap.size (.slice ua cs.length ucap) (by simp <;> omega)).trans k0
  have m1 := (heap_setCell_other w1 ⟨w.heap.size + 1 + 1, 2, none⟩ (w.heap.size + 1) (.slice ua cs.length ucap) (by simp)).trans k1
  have m2 := heap_setCell_same w1 (w.heap.size + 1 + 1) 2 _ _ (.slice ua cs.length ucap) k2
  have o2 := ownsC_low o1 (b := w.heap.size + 1 + 1) (by omega) 2 (.slice ua cs.length ucap)
  have B2 := B1.setCell (p := ⟨w.heap.size + 1 + 1, 2, none⟩) (by simp; omega) (.slice ua cs.length ucap)
  have hz2 : W.heap.size ≤ (w1.setCell ⟨w.heap.size + 1 + 1, 2, none⟩ (.slice ua cs.length ucap)).heap.size := by simpa [World.setCell] using hz
  clear k0 k1 k2 o1 B1 c22 f22 p3 p3b hz
  generalize w1.setCell ⟨w.heap.size + 1 + 1, 2, none⟩ (.slice ua cs.length ucap) = W2 at *
  refine (toIntS_any ov os W2 (ints_below G.out B2) HM.out).mono ?_
  rintro e w3 ⟨x, rfl, o3, b3⟩
  obtain ⟨xa, xcap, rfl⟩ := ints_len (ownsN_ints o3)
  have k1 := (b3.block (w.heap.size + 1) (by omega)).trans m1
  have k2 := (b3.block (w.heap.size + 1 + 1) (by omega)).trans m2
  have B3 := B2.trans (b3.mono B2.size)
  have oc := ownsC_below o2 b3
  have hdis : ∀ b, (Value.slice ua cs.length ucap).ownBlock = some b → (Value.slice xa os.length xcap).ownBlock ≠ some b := fun b h1 h2 => by have := (o2.lt b h1).2; have := (o3.lt b h2).1; omega
  clear m0 m1 m2 o2 B2 b3
  replace k2 : w3.heap[w.heap.size + 1 + 1]? = some (.cells #[.int .i64 id, .int .i64 tn, .slice ua cs.length ucap, .slice none 0 0] 46 (0, 0)) := by simpa using k2
  have c20 := (cell_of_row w3 _ 0 _ _ _ k2).trans (show _ = some (Value.int .i64 id) from rfl)
  have c21 := (cell_of_row w3 _ 1 _ _ _ k2).trans (show _ = some (Value.int .i64 tn) from rfl)
  have c22 := (cell_of_row w3 _ 2 _ _ _ k2).trans (show _ = some (Value.slice ua cs.length ucap) from rfl)
  have c23 := (cell_of_row w3 _ 3 _ _ _ k2).trans (show _ = some (Value.slice none 0 0) from rfl)
  have c10 := (cell_of_row w3 _ 0 _ _ _ k1).trans (show _ = some (Value.int .i64 0) from rfl)
  have f10 := frozen_of_row w3 _ 0 _ _ k1
  have c11 := (cell_of_row w3 _ 1 _ _ _ k1).trans (show _ = some (Value.int .i64 0) from rfl)
  have f11 := frozen_of_row w3 _ 1 _ _ k1
  have c12 := (cell_of_row w3 _ 2 _ _ _ k1).trans (show _ = some (Value.slice none 0 0) from rfl)
  have f12 := frozen_of_row w3 _ 2 _ _ k1
  have c13 := (cell_of_row w3 _ 3 _ _ _ k1).trans (show _ = some (Value.slice none 0 0) from rfl)
  have f13 := frozen_of_row w3 _ 3 _ _ k1
  have f23 := frozen_of_row w3 _ 3 _ _ k2
  go_wp2
  have n1 := (heap_setCell_other w3 ⟨w.heap.size + 1 + 1, 3, none⟩ (w.heap.size + 1) (.slice xa os.length xcap) (by simp)).trans k1
  have r0 := heap_setCell_same _ (w.heap.size + 1) 0 _ _ (.int .i64 id) n1
  have r1 := heap_setCell_same _ (w.heap.size + 1) 1 _ _ (.int .i64 tn) r0
  have r2 := heap_setCell_same _ (w.heap.size + 1) 2 _ _ (.slice ua cs.length ucap) r1
  have r3 := heap_setCell_same _ (w.heap.size + 1) 3 _ _ (.slice xa os.length xcap) r2
  have oc4 := (ownsC_low (ownsC_low (ownsC_low (ownsC_low (ownsC_low oc (b := w.heap.size + 1 + 1) (by omega) 3 (.slice xa os.length xcap)) (b := w.heap.size + 1) (by omega) 0 (.int .i64 id)) (b := w.heap.size + 1) (by omega) 1 (.int .i64 tn)) (b := w.heap.size + 1) (by omega) 2 (.slice ua cs.length ucap)) (b := w.heap.size + 1) (by omega) 3 (.slice xa os.length xcap))
  have on4 := (ownsN_low (ownsN_low (ownsN_low (ownsN_low (ownsN_low o3 (b := w.heap.size + 1 + 1) (by omega) 3 (.slice xa os.length xcap)) (b := w.heap.size + 1) (by omega) 0 (.int .i64 id)) (b := w.heap.size + 1) (by omega) 1 (.int .i64 tn)) (b := w.heap.size + 1) (by omega) 2 (.slice ua cs.length ucap)) (b := w.heap.size + 1) (by omega) 3 (.slice xa os.length xcap))
  have B4 := (((((B3.setCell (p := ⟨w.heap.size + 1 + 1, 3, none⟩) (by simp; omega) (.slice xa os.length xcap)).setCell (p := ⟨w.heap.size + 1, 0, none⟩) (by simp) (.int .i64 id)).setCell (p := ⟨w.heap.size + 1, 1, none⟩) (by simp) (.int .i64 tn)).setCell (p := ⟨w.heap.size + 1, 2, none⟩) (by simp) (.slice ua cs.length ucap)).setCell (p := ⟨w.heap.size + 1, 3, none⟩) (by simp) (.slice xa os.length xcap))
  have e0 := cell_of_row _ _ 0 _ _ _ r3
  have e1 := cell_of_row _ _ 1 _ _ _ r3
  have e2 := cell_of_row _ _ 2 _ _ _ r3
  have e3 := cell_of_row _ _ 3 _ _ _ r3
  simp at e0 e1 e2 e3
  refine bodyPost_ret (v := qV id tn (.slice ua cs.length ucap) (.slice xa os.length xcap)) ?_ rfl ?_
  · simp [results, Tryd.f22, go_sem, e0, e1, e2, e3]
  · exact ⟨_, _, rfl, ownsC_up oc4 (by omega), ownsN_up on4 (by omega), hdis, B4⟩
set_option maxHeartbeats 4000000 in
set_option maxRecDepth 100000 in
theorem eqCondS_same (v u : Value) (cs : List CondD) (w : World) (h : CondsR w v cs) (g : CondsR w u cs) (hn : cs.length ≤ 1048576) :
    Calls Tryd.prog 59 #[v, u] w fun e w' => e = .returned (.bool true) ∧ Below w.heap.size w w' := by
  have H := Lib.hid h
  have G := Lib.hid g
  obtain ⟨a, cap, rfl⟩ := condsR_len h
  obtain ⟨a2, cap2, rfl⟩ := condsR_len g
  clear h g
  go_enter Tryd.func59, Tryd.ntmps59
  go_wp2
  go_loopw [5] (fun i wr => ∃ k : Nat, k ≤ cs.length ∧ i = .int .i64 k ∧ Below w.heap.size w wr) (fun i _ => cs.length - (intOf i).toNat)
  case atStart => exact ⟨0, Nat.zero_le _, rfl, Below.refl _ _⟩
  case round =>
    obtain ⟨k, hk, rfl, hbel⟩ := hrel
    by_cases hlt : k < cs.length
    · obtain ⟨b, off, cap', hv, hbl, hc1, hc2, hc3⟩ := condsR_at (condsR_below H.out hbel) hlt
      simp only [Value.slice.injEq] at hv
      obtain ⟨rfl, _, rfl⟩ := hv
      obtain ⟨b2, off2, cap2', hv2, hbl2, hd1, hd2, hd3⟩ := condsR_at (condsR_below G.out hbel) hlt
      simp only [Value.slice.injEq] at hv2
      obtain ⟨rfl, _, rfl⟩ := hv2
      have i1 : (0 : Int) ≤ (k : Int) := by omega
      have i2 : (k : Int) < (cs.length : Int) := by omega
      generalize cs.getD k (0, 0, 0) = c at *
      obtain ⟨f, l, hh⟩ := c
      simp only at hc1 hc2 hc3 hd1 hd2 hd3
      go_wp2
      go_region_with (first | (go_at_call 91; refine (eqCond_same f l hh _).mono ?_; rintro e w8 ⟨rfl, b9⟩; have b10 : Below wr.heap.size wr w8 := ⟨b9.os, b9.tape, b9.output, b9.size, b9.block⟩))
      all_goals
        have b11 := hbel.trans (b10.mono hbel.size)
        go_wp2
        go_roundw
        case rel => exact ⟨k + 1, by omega, by go_num, b11⟩
        case measure => simp [intOf]; omega
    · go_wp2
      go_ret
      exact ⟨rfl, hbel⟩
set_option maxHeartbeats 4000000 in
set_option maxRecDepth 100000 in
theorem eqQuery_same (id tn : Int) (cv cu ov ou : Value) (cs : List CondD) (os : List Int) (w : World) (h : CondsR w cv cs) (h' : CondsR w cu cs) (g : Ints w ov os) (g' : Ints w ou os) (hn : cs.length ≤ 1048576) (hm : os.length ≤ 1048576) :
    Calls Tryd.prog 24 #[qV id tn cv ov, qV id tn cu ou] w fun e w' => e = .returned (.bool true) ∧ Below w.heap.size w w' := by
  have H1 := Lib.hid (fun w h h' => eqCondS_same cv cu cs w h h' hn)
  have H2 := Lib.hid (fun w h h' => eqIntS_same ov ou os w h h' hm)
  have A1 := Lib.hid h; have A2 := Lib.hid h'; have A3 := Lib.hid g; have A4 := Lib.hid g'
  clear h h' g g' hn hm
  have e1 : (id != id) = false := by simp
  have e2 : (tn != tn) = false := by simp
  go_enter Tryd.func24, Tryd.ntmps24
  go_wp2_with fail
  have hb : Below w.heap.size w ((w.alloc (.cells #[.int .i64 id, .int .i64 tn, cv, ov] 46)).alloc (.cells #[.int .i64 id, .int .i64 tn, cu, ou] 46)) := ((Below.refl _ w).alloc (Nat.le_refl _) _).alloc (by simp) _
  have g1 : ((w.alloc (.cells #[.int .i64 id, .int .i64 tn, cv, ov] 46)).alloc (.cells #[.int .i64 id, .int .i64 tn, cu, ou] 46)).heap[w.heap.size + 1]? = some (.cells #[.int .i64 id, .int .i64 tn, cu, ou] 46 (0, 0)) := by
    have := heap_alloc_new (w.alloc (.cells #[.int .i64 id, .int .i64 tn, cv, ov] 46)) (.cells #[.int .i64 id, .int .i64 tn, cu, ou] 46)
    simpa only [World.size_alloc] using this
  have g0 : ((w.alloc (.cells #[.int .i64 id, .int .i64 tn, cv, ov] 46)).alloc (.cells #[.int .i64 id, .int .i64 tn, cu, ou] 46)).heap[w.heap.size]? = some (.cells #[.int .i64 id, .int .i64 tn, cv, ov] 46 (0, 0)) := by
    rw [Below.heap_alloc _ _ _ (by simp)]
    exact heap_alloc_new w _
  have hs : w.heap.size + 1 < ((w.alloc (.cells #[.int .i64 id, .int .i64 tn, cv, ov] 46)).alloc (.cells #[.int .i64 id, .int .i64 tn, cu, ou] 46)).heap.size := by simp
  generalize ((w.alloc (.cells #[.int .i64 id, .int .i64 tn, cv, ov] 46)).alloc (.cells #[.int .i64 id, .int .i64 tn, cu, ou] 46)) = W at *
  refine (H1.out _ (condsR_below A1.out hb) (condsR_below A2.out hb)).mono ?_
  rintro e w1 ⟨rfl, b1⟩
  have k0 := (b1.block w.heap.size (by omega)).trans g0
  have k1 := (b1.block (w.heap.size + 1) hs).trans g1
  have c1 := hb.trans (b1.mono hb.size)
  have p3 := (cell_of_row w1 _ 3 _ _ _ k0).trans (show _ = some ov from rfl)
  have q3 := (cell_of_row w1 _ 3 _ _ _ k1).trans (show _ = some ou from rfl)
  clear k0 k1 g0 g1 hs hb b1
  go_wp2_with fail
  refine (H2.out _ (ints_below A3.out c1) (ints_below A4.out c1)).mono ?_
  rintro e w2 ⟨rfl, b2⟩
  have c2 := c1.trans (b2.mono c1.size)
  clear b2 c1 p3 q3
  go_wp2
  go_ret
  exact ⟨rfl, c2⟩
end Go.Proofs.YteelgogfpidcdaaDoor
