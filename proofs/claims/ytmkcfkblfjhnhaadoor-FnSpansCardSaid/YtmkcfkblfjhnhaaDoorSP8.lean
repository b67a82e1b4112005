/-
  Texts of the proof, merged: QueriesDraw, SpansLaw, CodeOpen.
-/
import Derived.Test.YtmkcfkblfjhnhaaDoorSP7
import Derived.WalkKit
import Derived.ProofKit
import Derived.OpenShut
import Derived.Carry
namespace Go.Proofs.YtmkcfkblfjhnhaaDoor
open Go.RowKit
set_option linter.unusedVariables false
set_option linter.unusedSimpArgs false
/-- Queries are drawn, in new memory. -/
def DrawnQs (w0 : World) (c : Nat) (v : Value) (xs : List Int) (w : World) (m : Nat) (e : Ending) (w' : World) : Prop :=
  ∃ (u : Value) (qs : List QD), e = .returned u ∧ HoldsQ w' w.heap.size u qs ∧ qs.length ≤ m ∧ (∀ q ∈ qs, q.2.2.1.length ≤ 4 ∧ q.2.2.2.length ≤ 4) ∧ Dr w0 c v xs w w'
set_option maxHeartbeats 8000000 in
set_option maxRecDepth 100000 in
theorem queries_any (w0 : World) (c : Nat) (v : Value) (xs : List Int) (w : World) (hC : Cur w0 c v xs w) :
    Calls Tryd.prog 59 #[.pointer (some ⟨c, 0, none⟩), .int .i64 5] w (DrawnQs w0 c v xs w 5) := by
  have D0 := (Dr.start hC).alloc (.cells #[] 59)
  have o0 := holdsQ_empty w
  have hcB := cur_lt hC
  clear hC
  go_enter Tryd.func59, Tryd.ntmps59
  go_wp2_with fail
  generalize w.alloc (.cells #[] 59) = W at *
  refine (below_any w0 c v xs _ D0.cur 2 (by omega) (by omega)).mono ?_
  rintro e w1 ⟨x, x0, x1, rfl, hC1, hg1⟩
  have D1 := D0.call hC1 hg1
  have o1 := holdsQ_grown o0 hg1 hcB
  clear D0 o0 hC1 hg1
  go_wp2_with fail
  refine (below_any w0 c v xs _ D1.cur 6 (by omega) (by omega)).mono ?_
  rintro e w2 ⟨n, n0, n1, rfl, hC2, hg2⟩
  obtain ⟨n, rfl⟩ := Int.eq_ofNat_of_zero_le n0
  have D2 := D1.call hC2 hg2
  have o2 := holdsQ_grown o1 hg2 hcB
  clear D1 o1 hC2 hg2
  go_wp2_with fail
  go_loopw [5, 6, 7] (fun l y i wr => ∃ (m : Nat) (z : Int) (qs : List QD), qs.length + m ≤ 5 ∧ 0 ≤ z ∧ z + 2 * (m : Int) ≤ 11 ∧ y = .int .i64 z ∧ i = .int .i64 m ∧ HoldsQ wr w.heap.size l qs ∧ Hid (∀ q ∈ qs, q.2.2.1.length ≤ 4 ∧ q.2.2.2.length ≤ 4) ∧ Dr w0 c v xs w wr) (fun _ _ i _ => (intOf i).toNat)
  case atStart => exact ⟨n, x, [], by simp; omega, x0, by omega, rfl, rfl, o2, Lib.hid (fun r hr => by simp at hr), D2⟩
  case round =>
    obtain ⟨m, z, qs, hrm, z0, z1, rfl, rfl, hown, hall, hD⟩ := hrel
    clear D2 o2
    by_cases hlt : 0 < m
    · go_wp2_with fail
      refine (query_drawn w0 c v xs _ hD.cur z).mono ?_
      rintro e w3 ⟨id, tn, cs, os, cv, ov, rfl, oc, on, hcl, hol, _, d3⟩
      obtain ⟨ca, ccap, rfl⟩ := ownsC_len oc
      obtain ⟨oa, ocap, rfl⟩ := ints_len (ownsN_ints on)
      have D3 := hD.call d3.cur d3.gr
      obtain ⟨rcs, oX, hnext⟩ := holdsQ_next (id := id) (tn := tn) hown d3.gr hcB hD.size oc on
      have HN := Lib.hid hnext
      have HRM : Hid (qs.length + m ≤ 5) := Lib.hid hrm
      have HALL : Hid (∀ r ∈ qs ++ [((id, tn, cs, os) : QD)], r.2.2.1.length ≤ 4 ∧ r.2.2.2.length ≤ 4) := Lib.hid (by
        intro r hr
        rcases List.mem_append.1 hr with h | h
        · exact hall.out r h
        · simp at h; rw [h]; exact ⟨by show cs.length ≤ 4; omega, by show os.length ≤ 4; omega⟩)
      have al : Below w3.heap.size w3 (w3.alloc (.cells #[.int .i64 id, .int .i64 tn, .slice ca cs.length ccap, .slice oa os.length ocap] 59)) := (Below.refl _ _).alloc (Nat.le_refl _) _
      have oX4 := queriesC_kept oX al
      have D4 := D3.alloc (.cells #[.int .i64 id, .int .i64 tn, .slice ca cs.length ccap, .slice oa os.length ocap] 59)
      have HAL := Lib.hid al
      have HD4 := Lib.hid D4
      clear hown hnext hall d3 D3 oX al oc on hD hcl hol D4
      go_wp2_with (at_builtin; refine append_queries rfl (.tmp 19) (.tmp 23) rfl w.heap.size _ _ _ rfl oX4 HD4.out.size ⟨w3.heap.size, 0, none⟩ 1 1 [.int .i64 id, .int .i64 tn, .slice ca cs.length ccap, .slice oa os.length ocap] rfl rfl (fun j u hj => by rw [Go.WideShapes.add_plain, Nat.zero_add, cell_lit]; simpa using hj) (by intro u hu; simp at hu; rcases hu with rfl | rfl | rfl | rfl <;> rfl) (by have := HRM.out; omega) ?_)
      intro u5 w5 o5 g5 _ hat
      have oR5 := HN.out _ w5 u5 HAL.out g5 o5 (by simpa [World.size_alloc] using hat)
      have D5 := HD4.out.below ((Below.refl w.heap.size _).grown g5 HD4.out.size (fun k hk => (oX4.lt k hk).1)) (Nat.le_refl _)
      clear o5 g5 hat oX4 HN HAL HD4
      go_wp2_with fail
      refine (below_any w0 c v xs _ D5.cur 2 (by omega) (by omega)).mono ?_
      rintro e w6 ⟨p, p0, p1, rfl, hC6, hg6⟩
      have D6 := D5.call hC6 hg6
      have o6 := holdsQ_grown oR5 hg6 hcB
      clear D5 oR5 hC6 hg6
      go_wp2
      go_roundw
      case rel => exact ⟨m - 1, z + 1 + p, qs ++ [(id, tn, cs, os)], by have := HRM.out; simp; omega, by omega, by omega, by go_num, by go_num, o6, HALL, D6⟩
      case measure => simp [intOf]; omega
    · obtain rfl : m = 0 := by omega
      go_wp2
      go_ret
      exact ⟨_, qs, rfl, hown, by omega, hall.out, hD⟩
set_option maxHeartbeats 8000000 in
set_option maxRecDepth 100000 in
theorem anyQueries_any (w0 : World) (c : Nat) (v : Value) (xs : List Int) (w : World) (hC : Cur w0 c v xs w) :
    Calls Tryd.prog 41 #[.pointer (some ⟨c, 0, none⟩)] w (DrawnQs w0 c v xs w 6) := by
  have hcB := cur_lt hC
  go_enter Tryd.func41, Tryd.ntmps41
  go_wp2_with fail
  refine (queries_any w0 c v xs _ hC).mono ?_
  rintro e w1 ⟨u, qs, rfl, o1, hl, hall, D1⟩
  go_wp2_with fail
  refine (once_any w0 c v xs _ D1.cur 8 (by omega) (by omega)).mono ?_
  rintro e w2 ⟨⟨b, rfl⟩, hC2, hg2⟩
  have D2 := D1.call hC2 hg2
  have o2 := holdsQ_grown o1 hg2 hcB
  clear D1 o1 hC2 hg2 hC
  cases b with
  | false =>
    go_wp2
    go_ret
    exact ⟨_, qs, rfl, o2, by omega, hall, D2⟩
  | true =>
    have HALL0 := Lib.hid hall
    clear hall
    go_wp2_with fail
    refine (anyQuery_any w0 c v xs _ D2.cur).mono ?_
    rintro e w3 ⟨id, tn, cs, os, cv, ov, rfl, oc, on, hcl, hol, d3⟩
    obtain ⟨ca, ccap, rfl⟩ := ownsC_len oc
    obtain ⟨oa, ocap, rfl⟩ := ints_len (ownsN_ints on)
    have D3 := D2.call d3.cur d3.gr
    obtain ⟨rcs, oX, hnext⟩ := holdsQ_next (id := id) (tn := tn) o2 d3.gr hcB D2.size oc on
    have HN := Lib.hid hnext
    have HRM : Hid (qs.length ≤ 5) := Lib.hid hl
    have HALL : Hid (∀ r ∈ qs ++ [((id, tn, cs, os) : QD)], r.2.2.1.length ≤ 4 ∧ r.2.2.2.length ≤ 4) := Lib.hid (by
      intro r hr
      rcases List.mem_append.1 hr with h | h
      · exact HALL0.out r h
      · simp at h; rw [h]; exact ⟨by show cs.length ≤ 4; omega, by show os.length ≤ 4; omega⟩)
    have al : Below w3.heap.size w3 (w3.alloc (.cells #[.int .i64 id, .int .i64 tn, .slice ca cs.length ccap, .slice oa os.length ocap] 59)) := (Below.refl _ _).alloc (Nat.le_refl _) _
    have oX4 := queriesC_kept oX al
    have D4 := D3.alloc (.cells #[.int .i64 id, .int .i64 tn, .slice ca cs.length ccap, .slice oa os.length ocap] 59)
    have HAL := Lib.hid al
    have HD4 := Lib.hid D4
    clear o2 hnext d3 D3 oX al oc on D2 hcl hol D4 hl
    go_wp2_with (at_builtin; refine append_queries rfl (.tmp 8) (.tmp 11) rfl w.heap.size _ _ _ rfl oX4 HD4.out.size ⟨w3.heap.size, 0, none⟩ 1 1 [.int .i64 id, .int .i64 tn, .slice ca cs.length ccap, .slice oa os.length ocap] rfl rfl (fun j u hj => by rw [Go.WideShapes.add_plain, Nat.zero_add, cell_lit]; simpa using hj) (by intro u hu; simp at hu; rcases hu with rfl | rfl | rfl | rfl <;> rfl) (by have := HRM.out; omega) ?_)
    intro u5 w5 o5 g5 _ hat
    have oR5 := HN.out _ w5 u5 HAL.out g5 o5 (by simpa [World.size_alloc] using hat)
    have D5 := HD4.out.below ((Below.refl w.heap.size _).grown g5 HD4.out.size (fun k hk => (oX4.lt k hk).1)) (Nat.le_refl _)
    clear o5 g5 hat oX4 HN HAL HD4
    go_wp2
    go_ret
    exact ⟨_, _, rfl, oR5, by have := HRM.out; simp; omega, HALL.out, D5⟩
theorem szQL_few {qs : List QD} (h : ∀ q ∈ qs, q.2.2.1.length ≤ 4 ∧ q.2.2.2.length ≤ 4) : szQL qs ≤ 9 * qs.length := by
  unfold szQL szQTo
  rw [List.take_length]
  induction qs with
  | nil => simp
  | cons q qs ih =>
    have h1 := h q List.mem_cons_self
    have h2 := ih (fun x hx => h x (List.mem_cons_of_mem _ hx))
    simp only [List.map_cons, List.sum_cons, List.length_cons]
    omega
def fpicks : List Int := [-1, 3]
theorem fpicks_in : ∀ x ∈ fpicks, -1 ≤ x ∧ x ≤ 3 := by decide
/-- A list of queries and a field. -/
def GotQf (w : World) (e : Ending) (w' : World) : Prop :=
  ∃ (u : Value) (qs : List QD) (f : Int), e = .returned (.tuple #[u, .int .i64 f]) ∧ QueriesR w' u qs ∧ qs.length ≤ 6 ∧ szQL qs ≤ 54 ∧ -1 ≤ f ∧ f ≤ 3 ∧ Below w.heap.size w w'
def GotCQf (w : World) (e : Ending) (w' : World) : Prop :=
  ∃ (p u : Value) (qs : List QD) (f : Int), e = .returned (.tuple #[p, u, .int .i64 f]) ∧ QueriesR w' u qs ∧ qs.length ≤ 6 ∧ szQL qs ≤ 54 ∧ -1 ≤ f ∧ f ≤ 3 ∧ Below w.heap.size w w'
set_option maxHeartbeats 8000000 in
set_option maxRecDepth 100000 in
theorem l5Draw_any (v : Value) (xs : List Int) (w : World) (hcode : Code w v xs) (hsm : xs.length ≤ 1048576) (hby : ∀ x ∈ xs, 0 ≤ x ∧ x ≤ 255) :
    Calls Tryd.prog 18 #[v] w (GotCQf w) := by
  have HN := Lib.hid (new_any v xs w hcode hsm hby)
  clear hcode hby
  go_enter Tryd.func18, Tryd.ntmps18
  go_wp2_with fail
  refine HN.out.mono ?_
  rintro e w1 ⟨rfl, hC⟩
  have hcB := cur_lt hC
  obtain ⟨c, hc⟩ : ∃ c, w.heap.size = c := ⟨_, rfl⟩
  rw [hc] at hC hcB ⊢
  go_wp2_with fail
  refine (anyQueries_any w c v xs _ hC).mono ?_
  rintro e w2 ⟨u, qs, rfl, o2, hl, hall, D2⟩
  obtain ⟨ua, ucap, rfl⟩ := holdsQ_len o2
  have HALL := Lib.hid (szQL_few hall)
  clear hall
  go_wp2_with fail
  refine (below_any w c v xs _ D2.cur 3 (by omega) (by omega)).mono ?_
  rintro e w3 ⟨f, f0, f1, rfl, hC3, hg3⟩
  have D3 := D2.call hC3 hg3
  have o3 := holdsQ_grown o2 hg3 hcB
  clear D2 o2 hC3 hg3
  go_wp2_with fail
  refine (once_any w c v xs _ D3.cur 10 (by omega) (by omega)).mono ?_
  rintro e w4 ⟨⟨b, rfl⟩, hC4, hg4⟩
  have D4 := D3.call hC4 hg4
  have o4 := holdsQ_grown o3 hg4 hcB
  clear D3 o3 hC4 hg4
  cases b with
  | false =>
    have B4 := D4.cur.old
    go_wp2
    go_ret3
    exact ⟨_, _, qs, f, rfl, holdsQ_queries o4, hl, by have := HALL.out; omega, by omega, by omega, B4⟩
  | true =>
    go_wp2_with fail
    have hp := pick_any w c v xs (w4.alloc (.cells (fpicks.map (Value.int .i64)).toArray 3 (0, 0))) (cur_alloc D4.cur _) w4.heap.size fpicks _ _ fpicks_in (by decide) (by decide) (heap_alloc_new w4 _) (by have := cur_lt D4.cur; omega)
    refine Calls.mono hp ?_
    rintro e w5 ⟨x, x0, x1, rfl, hC5, hg5⟩
    have D5 := (D4.alloc (.cells (fpicks.map (Value.int .i64)).toArray 3 (0, 0))).call hC5 hg5
    have o5 := holdsQ_grown (holdsQ_grown o4 (World.grownBy_alloc w4 (.cells (fpicks.map (Value.int .i64)).toArray 3 (0, 0)) (some c)) hcB) hg5 hcB
    have B5 := D5.cur.old
    clear D4 o4 hC5 hg5 hp
    go_wp2
    go_ret3
    exact ⟨_, _, qs, x, rfl, holdsQ_queries o5, hl, by have := HALL.out; omega, by omega, by omega, B5⟩
set_option maxHeartbeats 8000000 in
set_option maxRecDepth 100000 in
theorem drawStabIndex (v : Value) (xs : List Int) (w : World) (hcode : Code w v xs) (hsm : xs.length ≤ 1048576) (hby : ∀ x ∈ xs, 0 ≤ x ∧ x ≤ 255) :
    Calls Tryd.prog 5 #[v] w (GotQf w) := by
  have HD := Lib.hid (l5Draw_any v xs w hcode hsm hby)
  clear hcode hby
  go_enter Tryd.func5, Tryd.ntmps5
  go_wp2_with fail
  refine HD.out.mono ?_
  rintro e w1 ⟨p, u, qs, f, rfl, h1, h2, h3, h4, h5, h6⟩
  go_wp2
  go_ret2
  exact ⟨_, qs, f, rfl, h1, h2, h3, h4, h5, h6⟩
end Go.Proofs.YtmkcfkblfjhnhaaDoor
namespace Go.Proofs.YtmkcfkblfjhnhaaDoor
open Go.RowKit
set_option linter.unusedVariables false
set_option linter.unusedSimpArgs false
set_option maxHeartbeats 2000000 in
set_option maxRecDepth 100000 in
theorem sameS_any (v u : Value) (xs ys : List Int) (w : World) (h : Ints w v xs) (g : Ints w u ys) (hn : xs.length ≤ 1048576) (hm : ys.length ≤ 1048576) :
    Calls Tryd.prog 13 #[v, u] w fun e w' => e = .returned (.bool (decide (xs = ys))) ∧ Below w.heap.size w w' := by
  have H := Lib.hid h
  have G := Lib.hid g
  obtain ⟨a, cap, rfl⟩ := ints_len h
  obtain ⟨a2, cap2, rfl⟩ := ints_len g
  clear h g
  by_cases hl : xs.length = ys.length
  · have HL := Lib.hid hl
    have hne : ((xs.length : Int) != (ys.length : Int)) = false := by rw [hl]; simp
    clear hl
    go_enter Tryd.func13, Tryd.ntmps13
    go_wp2
    clear hne
    go_loopw [5] (fun i wr => ∃ k : Nat, k ≤ xs.length ∧ i = .int .i64 k ∧ Hid (∀ j, j < k → xs.getD j 0 = ys.getD j 0) ∧ Below w.heap.size w wr) (fun i _ => xs.length - (intOf i).toNat)
    case atStart => exact ⟨0, Nat.zero_le _, rfl, Lib.hid (fun j hj => by omega), Below.refl _ _⟩
    case round =>
      obtain ⟨k, hk, rfl, hall, hbel⟩ := hrel
      by_cases hlt : k < xs.length
      · obtain ⟨b, off, cap', hv, hbl, hc⟩ := ints_cell H.out (by omega)
        simp only [Value.slice.injEq] at hv
        obtain ⟨rfl, _, rfl⟩ := hv
        obtain ⟨b2, off2, cap2', hv2, hbl2, hc2⟩ := ints_cell G.out (by have := HL.out; omega)
        simp only [Value.slice.injEq] at hv2
        obtain ⟨rfl, _, rfl⟩ := hv2
        have hcell := (hbel.cell (p := ⟨b, off + k, none⟩) hbl).trans (hc k hlt)
        have hcell2 := (hbel.cell (p := ⟨b2, off2 + k, none⟩) hbl2).trans (hc2 k (by have := HL.out; omega))
        have i1 : (0 : Int) ≤ (k : Int) := by omega
        have i2 : (k : Int) < (xs.length : Int) := by omega
        have i3 : (k : Int) < (ys.length : Int) := by have := HL.out; omega
        clear hc hc2
        by_cases he : xs.getD k 0 = ys.getD k 0
        · have HA : Hid (∀ j, j < k + 1 → xs.getD j 0 = ys.getD j 0) := Lib.hid (fun j hj => by
            by_cases e : j = k
            · exact e ▸ he
            · exact hall.out j (by omega))
          rw [← he] at hcell2
          clear he hall
          generalize xs.getD k 0 = y at hcell hcell2
          go_wp2
          go_quiet (fail)
          go_wp2
          go_roundw
          case rel => exact ⟨k + 1, by omega, by go_num, HA, below_dn hbel _⟩
          case measure => simp [intOf]; omega
        · have HF := Lib.hid (decide_eq_false (list_ne_at hlt he))
          have heq : (xs.getD k 0 != ys.getD k 0) = true := by rw [bne_iff_ne]; exact he
          clear he hall
          generalize xs.getD k 0 = y at hcell heq
          generalize ys.getD k 0 = z at hcell2 heq
          go_wp2
          go_quiet (fail)
          go_wp2
          go_ret
          exact ⟨ret_b HF.out.symm, below_dn hbel _⟩
      · obtain rfl : k = xs.length := by omega
        have HT := Lib.hid (decide_eq_true (list_eq_all HL.out hall.out))
        clear hall
        go_wp2
        go_ret
        exact ⟨ret_b HT.out.symm, hbel⟩
  · have HF := Lib.hid (decide_eq_false (show ¬ xs = ys from fun e => hl (by rw [e])))
    have hne : ((xs.length : Int) != (ys.length : Int)) = true := by rw [bne_iff_ne]; omega
    clear hl
    go_enter Tryd.func13, Tryd.ntmps13
    go_wp2
    go_ret
    exact ⟨ret_b HF.out.symm, Below.refl _ _⟩
theorem bigS (a : Option Addr) (cap n : Nat) (w : World) : Calls Tryd.prog 4 #[.slice a n cap] w fun e w' => e = .returned (.bool (decide ((1048576 : Int) < (n : Int)))) ∧ w' = w := by
  go_enter Tryd.func4, Tryd.ntmps4
  go_wp2
  go_ret
  exact ⟨rfl, rfl⟩
set_option maxHeartbeats 2000000 in
set_option maxRecDepth 100000 in
theorem at_zero (v : Value) (xs : List Int) (w : World) (hcode : Code w v xs) (hsm : xs.length ≤ 1048576) (hby : ∀ x ∈ xs, 0 ≤ x ∧ x ≤ 255) :
    Calls Tryd.prog 14 #[v, .int .i64 0] w fun e w' => ∃ y : Int, 0 ≤ y ∧ y ≤ 255 ∧ e = .returned (.int .i64 y) ∧ Below w.heap.size w w' := by
  rcases hcode with ⟨rfl, a, cap, rfl⟩ | ⟨b, off, cap, rfl, hcap, hbl, hb⟩
  · go_enter Tryd.func14, Tryd.ntmps14
    go_wp2
    go_ret
    exact ⟨0, by omega, by omega, rfl, Below.refl _ _⟩
  · by_cases h0 : 0 < xs.length
    · have hc := hb 0 h0
      have hy := hby (xs.getD 0 0) (by rw [List.getD, List.getElem?_eq_getElem h0]; exact List.getElem_mem h0)
      have i2 : (0 : Int) < (xs.length : Int) := by omega
      generalize xs.getD 0 0 = y at *
      obtain ⟨y0, y1⟩ := hy
      rw [Nat.add_zero] at hc
      clear hb hby hcap
      go_enter Tryd.func14, Tryd.ntmps14
      go_wp2
      go_ret
      exact ⟨y, y0, y1, rfl, Below.refl _ _⟩
    · have hz : xs.length = 0 := by omega
      have hn : ¬ (0 : Int) < (xs.length : Int) := by omega
      rw [hz]
      clear hb hby hcap h0 hn hz
      go_enter Tryd.func14, Tryd.ntmps14
      go_wp2
      go_ret
      exact ⟨0, by omega, by omega, rfl, Below.refl _ _⟩
theorem spansTo_range (F : Int → List Int) : ∀ n, ∀ r ∈ spansTo F n, 0 ≤ r.1 ∧ r.1 < (n : Int) ∧ 0 ≤ r.2.1 ∧ r.2.1 < (n : Int)
  | 0 => by simp [spansTo]
  | n + 1 => by
    have ih := spansTo_range F n
    intro r hr
    unfold spansTo stepP at hr
    split at hr
    · next c =>
      rcases List.mem_or_eq_of_mem_set hr with h | h
      · have := ih r h; omega
      · subst h
        have := ih _ (getD_mem (rs := spansTo F n) (i := (spansTo F n).length - 1) (by omega))
        refine ⟨this.1, ?_, ?_, ?_⟩
        · have := this.2.1; show ((spansTo F n).getD ((spansTo F n).length - 1) p0D).1 < _; omega
        · show (0 : Int) ≤ (n : Int); omega
        · show (n : Int) < ((n + 1 : Nat) : Int); omega
    · rw [List.mem_append, List.mem_singleton] at hr
      rcases hr with h | h
      · have := ih r h; omega
      · subst h
        exact ⟨by show (0 : Int) ≤ (n : Int); omega, by show (n : Int) < ((n + 1 : Nat) : Int); omega, by show (0 : Int) ≤ (n : Int); omega, by show (n : Int) < ((n + 1 : Nat) : Int); omega⟩
def upTo (X : List SpanD) (k : Nat) : Int := if k = 0 then 0 else (X.getD (k - 1) p0D).2.1 + 1
theorem upTo_at {F : Int → List Int} {n : Nat} {X : List SpanD} (h : Tells F n X) {k : Nat} (hk : k < X.length) : upTo X k = (X.getD k p0D).1 := by
  unfold upTo
  split
  · next c => subst c; exact h.first.symm
  · next c =>
    have := h.next (k - 1) (by omega)
    rw [show k - 1 + 1 = k by omega] at this
    exact this.symm
theorem upTo_next (X : List SpanD) (k : Nat) : upTo X (k + 1) = (X.getD k p0D).2.1 + 1 := by
  unfold upTo; rw [if_neg (by omega), Nat.add_sub_cancel]
theorem upTo_end {F : Int → List Int} {n : Nat} {X : List SpanD} (h : Tells F n X) : upTo X X.length = (n : Int) := by
  have := h.pos
  have := h.last
  unfold upTo; rw [if_neg (by omega)]; omega
set_option maxHeartbeats 16000000 in
set_option maxRecDepth 100000 in
theorem law_fnSpans (p : Option Addr) (cap : Nat) (xs : List Int) (w : World) (hcode : Code w (.slice p xs.length cap) xs) (hby : ∀ x ∈ xs, 0 ≤ x ∧ x ≤ 255) (htab : TabZ w ∧ Tab w) :
    Calls Tryd.prog 3 #[.slice p xs.length cap] w fun e w' => e = .returned (.bool true) ∧ Below w.heap.size w w' := by
  obtain ⟨hTZ, hT⟩ := htab
  by_cases hl : xs.length ≤ 1048576
  · have HD := Lib.hid (drawStabIndex _ xs w hcode hl hby)
    have HAT := Lib.hid (fun w h => at_zero (.slice p xs.length cap) xs w h hl hby)
    have HCODE := Lib.hid hcode
    have HT := Lib.hid hT
    have HTZ := Lib.hid hTZ
    have HBG := Lib.hid (fun w => bigS p cap xs.length w)
    rw [show decide ((1048576 : Int) < (xs.length : Int)) = false from decide_eq_false (by omega)] at HBG
    clear hcode hby hT hTZ
    go_enter Tryd.func3, Tryd.ntmps3
    go_wp2_with fail
    refine (HBG.out _).mono ?_
    rintro e w0 ⟨rfl, rfl⟩
    go_wp2_with fail
    refine HD.out.mono ?_
    rintro e w1 ⟨u, qs, f, rfl, hq, hl6, hsz, f0, f1, D⟩
    obtain ⟨ua, ucap, rfl⟩ := queriesR_len hq
    clear HD HBG
    have HSZ : Hid (szQL qs ≤ 1048576) := Lib.hid (by omega)
    have HXZ : Hid (zpL (spansL qs f) ≤ 1048576) := Lib.hid (by have := spansL_size qs f; omega)
    obtain ⟨X, hX⟩ : ∃ X, spansL qs f = X := ⟨_, rfl⟩
    have HX := Lib.hid hX
    have HIX := Lib.hid (fun w h => implStabIndex (.slice ua qs.length ucap) qs f w h HSZ.out)
    have HSX := Lib.hid (fun w h => specStabIndex (.slice ua qs.length ucap) qs f w h HSZ.out)
    rw [hX] at HIX HSX HXZ
    have hXL := zpL_len HXZ.out
    clear hX hsz
    go_wp2_with fail
    refine (HIX.out _ hq).mono ?_
    rintro e w2 ⟨xv, rfl, ox, c⟩
    obtain ⟨xa, xcap, rfl⟩ := ownsP_len ox
    have hx := ownsP_spans ox
    replace hq := queriesR_below hq c
    replace D := D.trans (c.mono D.size)
    clear c ox HIX
    go_wp2_with fail
    refine (HSX.out _ hq).mono ?_
    rintro e w3 ⟨wv, rfl, ow, c⟩
    obtain ⟨wa, wcap, rfl⟩ := ownsP_len ow
    have hw := ownsP_spans ow
    replace hq := queriesR_below hq c
    replace hx := spansR_below hx c
    replace D := D.trans (c.mono D.size)
    clear c ow HSX
    have hXX : decide (X = X) = true := decide_eq_true rfl
    have HE1 := Lib.hid (fun w h g => specEqSpans (.slice xa X.length xcap) (.slice wa X.length wcap) X X w h g HXZ.out HXZ.out)
    have HE2 := Lib.hid (fun w h g => implEqualSpans (.slice xa X.length xcap) (.slice xa X.length xcap) X X w h g HXZ.out HXZ.out)
    rw [hXX] at HE1 HE2
    have HF1 := Lib.hid (fun w h hz ht => implFormatSpans (.slice xa X.length xcap) X w h HXZ.out hz ht)
    have HF2 := Lib.hid (fun w h => specFormatSpans (.slice wa X.length wcap) X w h HXZ.out)
    clear hXX
    generalize strB (fmtSp X) = tx at *
    have hrr : (!(tx.toList == tx.toList)) = false := by simp
    go_wp2_with fail
    refine (HE1.out _ hx hw).mono ?_
    rintro e w4 ⟨rfl, c⟩
    replace hq := queriesR_below hq c
    replace hx := spansR_below hx c
    replace hw := spansR_below hw c
    replace D := D.trans (c.mono D.size)
    clear c HE1
    go_wp2_with fail
    refine (HE2.out _ hx hx).mono ?_
    rintro e w5 ⟨rfl, c⟩
    replace hq := queriesR_below hq c
    replace hx := spansR_below hx c
    replace hw := spansR_below hw c
    replace D := D.trans (c.mono D.size)
    clear c HE2
    go_wp2_with fail
    refine (HF1.out _ hx (HTZ.out.on D) (HT.out.on D)).mono ?_
    rintro e w6 ⟨rfl, c⟩
    replace hq := queriesR_below hq c
    replace hx := spansR_below hx c
    replace hw := spansR_below hw c
    replace D := D.trans (c.mono D.size)
    clear c HF1
    go_wp2_with fail
    refine (HF2.out _ hw).mono ?_
    rintro e w7 ⟨rfl, c⟩
    replace hq := queriesR_below hq c
    replace hx := spansR_below hx c
    replace D := D.trans (c.mono D.size)
    clear c HF2 hw HT HTZ
    go_wp2_with fail
    refine (specAreQueries _ qs _ hq HSZ.out).mono ?_
    rintro e w8 ⟨rfl, c⟩
    replace hq := queriesR_below hq c
    replace hx := spansR_below hx c
    replace D := D.trans (c.mono D.size)
    clear c hrr
    cases ha : areQB qs with
    | false =>
      have h0 : X = [] := by rw [← HX.out]; exact spansL_no (by rw [ha, Bool.false_and])
      subst h0
      clear ha hx hq
      go_wp2
      go_ret
      exact ⟨rfl, D⟩
    | true =>
      by_cases hf0 : f < 0
      · have h0 : X = [] := by rw [← HX.out]; exact spansL_no (by rw [show okF f = false from decide_eq_false (by omega), Bool.and_false])
        subst h0
        clear ha hx hq
        go_wp2
        go_ret
        exact ⟨rfl, D⟩
      · by_cases hf3 : 3 ≤ f
        · have h0 : X = [] := by rw [← HX.out]; exact spansL_no (by rw [show okF f = false from decide_eq_false (by omega), Bool.and_false])
          have hn0 : decide (f < 0) = false := decide_eq_false hf0
          subst h0
          clear ha hx hq hf0
          go_wp2
          go_ret
          exact ⟨rfl, D⟩
        · have hf : 0 ≤ f ∧ f ≤ 2 := ⟨by omega, by omega⟩
          have hok : okF f = true := decide_eq_true hf
          have hXT : spansTo (stabL qs f) 100 = X := by rw [← HX.out]; exact (spansL_yes (by rw [ha, hok]; rfl)).symm
          have hTL := tells_all (stabL qs f) 99
          rw [show (99 + 1 : Nat) = 100 from rfl, hXT] at hTL
          have HTL := Lib.hid hTL
          have HRG : Hid (∀ r ∈ X, 0 ≤ r.1 ∧ r.1 < 100 ∧ 0 ≤ r.2.1 ∧ r.2.1 < 100) := Lib.hid (fun r hr => by rw [← hXT] at hr; exact spansTo_range _ 100 r hr)
          have HFW : Hid ((X.length : Int) ≤ 2 * (qs.length : Int) + 1) := Lib.hid (by have := spans_few ha hf; rw [hXT] at this; omega)
          have hn0 : decide (f < 0) = false := decide_eq_false hf0
          have hn3 : decide (3 ≤ f) = false := decide_eq_false hf3
          have HQ := Lib.hid hq
          have HXR := Lib.hid hx
          have HD8 := Lib.hid D
          clear ha hok hXT hTL hf hf0 hf3 hq hx D HX
          go_wp2
          clear hn0 hn3
          go_loopw [7, 8] (fun fr i wr => ∃ k : Nat, k ≤ X.length ∧ i = .int .i64 k ∧ fr = .int .i64 (upTo X k) ∧ Below w8.heap.size w8 wr) (fun _ i _ => X.length - (intOf i).toNat)
          case atStart => exact ⟨0, Nat.zero_le _, rfl, rfl, Below.refl _ _⟩
          case round =>
            obtain ⟨k, hk, rfl, rfl, hbel⟩ := hrel
            by_cases hlt : k < X.length
            · obtain ⟨b, off, cap', vv, hv, hbl, hc1, hc2, hc3, hI⟩ := spansR_at (spansR_below HXR.out hbel) hlt
              simp only [Value.slice.injEq] at hv
              obtain ⟨rfl, _, rfl⟩ := hv
              obtain ⟨va, vcap, rfl⟩ := ints_len hI
              have i1 : (0 : Int) ≤ (k : Int) := by omega
              have i2 : (k : Int) < (X.length : Int) := by omega
              have hup := upTo_at HTL.out hlt
              have HUN := Lib.hid (upTo_next X k)
              have hor := HTL.out.order k hlt
              have hrg := HRG.out _ (getD_mem hlt)
              have HYL := Lib.hid (zpL_span HXZ.out hlt)
              have HDF : Hid (∀ m, k = m + 1 → ¬ (X.getD k p0D).2.2 = (X.getD m p0D).2.2) := Lib.hid (fun m e => by subst e; exact HTL.out.differ m hlt)
              rw [hup]
              clear hup
              generalize X.getD k p0D = r at *
              obtain ⟨sf, st, ys⟩ := r
              simp only at hc1 hc2 hc3 hI hor hrg HUN HYL HDF
              obtain ⟨g0, g1, g2, g3⟩ := hrg
              have hn : decide (st < sf) = false := decide_eq_false (by omega)
              have hne : (sf != sf) = false := by simp
              by_cases hk0 : k = 0
              · have hg : decide ((0 : Int) < (k : Int)) = false := decide_eq_false (by omega)
                have hgn : decide (0 < k) = false := decide_eq_false (by omega)
                clear HDF hk0
                go_wp2
                refine wp_region_held_drew (S := fun w' => w'.cell? ⟨b, off + k * 3, none⟩ = some (.int .i64 sf) ∧ w'.cell? ⟨b, off + k * 3 + 1, none⟩ = some (.int .i64 st) ∧ w'.cell? ⟨b, off + k * 3 + 2, none⟩ = some (.slice va ys.length vcap)) (by kernel_rfl) ⟨hc1, hc2, hc3⟩ (fun hHeld => ?_)
                refine take_runs (i := 0) (v := ?_) (by simp only [List.getElem?_toArray, List.getElem?_cons_succ, List.getElem?_cons_zero]; rfl) (by kernel_rfl) (by kernel_rfl) (by kernel_rfl) rfl (by exact fun _ _ _ h => h) (by rfl) ?_ (by assumption) ?_
                rotate_left
                · intro w hSw; (try dsimp only at hSw); go_simp; try (with_reducible rfl)
                try simp only [Act.put, List.setIfInBounds_toArray, List.set_cons_zero, List.set_cons_succ]
                refine take_runs (i := 1) (v := ?_) (by simp only [List.getElem?_toArray, List.getElem?_cons_succ, List.getElem?_cons_zero]; rfl) (by kernel_rfl) (by kernel_rfl) (by kernel_rfl) rfl (by exact fun _ _ _ h => h) (by rfl) ?_ (by assumption) ?_
                rotate_left
                · intro w hSw; (try dsimp only at hSw); go_simp; try (with_reducible rfl)
                try simp only [Act.put, List.setIfInBounds_toArray, List.set_cons_zero, List.set_cons_succ]
                refine take_runs (i := 2) (v := ?_) (by simp only [List.getElem?_toArray, List.getElem?_cons_succ, List.getElem?_cons_zero]; rfl) (by kernel_rfl) (by kernel_rfl) (by kernel_rfl) rfl (by exact fun _ _ _ h => h) (by rfl) ?_ (by assumption) ?_
                rotate_left
                · intro w hSw; (try dsimp only at hSw); go_simp; try (with_reducible rfl)
                try simp only [Act.put, List.setIfInBounds_toArray, List.set_cons_zero, List.set_cons_succ]
                refine take_runs (i := 3) (v := ?_) (by simp only [List.getElem?_toArray, List.getElem?_cons_succ, List.getElem?_cons_zero]; rfl) (by kernel_rfl) (by kernel_rfl) (by kernel_rfl) rfl (by exact fun _ _ _ h => h) (by rfl) ?_ (by assumption) ?_
                rotate_left
                · intro w hSw; (try dsimp only at hSw); go_simp; try (with_reducible rfl)
                try simp only [Act.put, List.setIfInBounds_toArray, List.set_cons_zero, List.set_cons_succ]
                refine take_runs (i := 4) (v := ?_) (by simp only [List.getElem?_toArray, List.getElem?_cons_succ, List.getElem?_cons_zero]; rfl) (by kernel_rfl) (by kernel_rfl) (by kernel_rfl) rfl (by exact fun _ _ _ h => h) (by rfl) ?_ (by assumption) ?_
                rotate_left
                · intro w hSw; (try dsimp only at hSw); go_simp; try (with_reducible rfl)
                try simp only [Act.put, List.setIfInBounds_toArray, List.set_cons_zero, List.set_cons_succ]
                refine take_runs (i := 5) (v := ?_) (by simp only [List.getElem?_toArray, List.getElem?_cons_succ, List.getElem?_cons_zero]; rfl) (by kernel_rfl) (by kernel_rfl) (by kernel_rfl) rfl (by exact fun _ _ _ h => h) (by rfl) ?_ (by assumption) ?_
                rotate_left
                · intro w hSw; (try dsimp only at hSw); go_simp; try (with_reducible rfl)
                try simp only [Act.put, List.setIfInBounds_toArray, List.set_cons_zero, List.set_cons_succ]
                refine take_runs (i := 6) (v := ?_) (by simp only [List.getElem?_toArray, List.getElem?_cons_succ, List.getElem?_cons_zero]; rfl) (by kernel_rfl) (by kernel_rfl) (by kernel_rfl) rfl (by exact fun _ _ _ h => h) (by rfl) ?_ (by assumption) ?_
                rotate_left
                · intro w hSw; (try dsimp only at hSw); go_simp; try (with_reducible rfl)
                try simp only [Act.put, List.setIfInBounds_toArray, List.set_cons_zero, List.set_cons_succ]
                refine take_runs (i := 7) (v := ?_) (by simp only [List.getElem?_toArray, List.getElem?_cons_succ, List.getElem?_cons_zero]; rfl) (by kernel_rfl) (by kernel_rfl) (by kernel_rfl) rfl (by exact fun _ _ _ h => h) (by rfl) ?_ (by assumption) ?_
                rotate_left
                · intro w hSw; (try dsimp only at hSw); go_simp; try (with_reducible rfl)
                try simp only [Act.put, List.setIfInBounds_toArray, List.set_cons_zero, List.set_cons_succ]
                refine take_runs (i := 8) (v := ?_) (by simp only [List.getElem?_toArray, List.getElem?_cons_succ, List.getElem?_cons_zero]; rfl) (by kernel_rfl) (by kernel_rfl) (by kernel_rfl) rfl (by exact fun _ _ _ h => h) (by rfl) ?_ (by assumption) ?_
                rotate_left
                · intro w hSw; (try dsimp only at hSw); go_simp; try (with_reducible rfl)
                try simp only [Act.put, List.setIfInBounds_toArray, List.set_cons_zero, List.set_cons_succ]
                refine take_runs (i := 9) (v := ?_) (by simp only [List.getElem?_toArray, List.getElem?_cons_succ, List.getElem?_cons_zero]; rfl) (by kernel_rfl) (by kernel_rfl) (by kernel_rfl) rfl (by exact fun _ _ _ h => h) (by rfl) ?_ (by assumption) ?_
                rotate_left
                · intro w hSw; (try dsimp only at hSw); go_simp; try (with_reducible rfl)
                try simp only [Act.put, List.setIfInBounds_toArray, List.set_cons_zero, List.set_cons_succ]
                refine take_runs (i := 10) (v := ?_) (by simp only [List.getElem?_toArray, List.getElem?_cons_succ, List.getElem?_cons_zero]; rfl) (by kernel_rfl) (by kernel_rfl) (by kernel_rfl) rfl (by exact fun _ _ _ h => h) (by rfl) ?_ (by assumption) ?_
                rotate_left
                · intro w hSw; (try dsimp only at hSw); go_simp; try (with_reducible rfl)
                try simp only [Act.put, List.setIfInBounds_toArray, List.set_cons_zero, List.set_cons_succ]
                refine take_runs (i := 11) (v := ?_) (by simp only [List.getElem?_toArray, List.getElem?_cons_succ, List.getElem?_cons_zero]; rfl) (by kernel_rfl) (by kernel_rfl) (by kernel_rfl) rfl (by exact fun _ _ _ h => h) (by rfl) ?_ (by assumption) ?_
                rotate_left
                · intro w hSw; (try dsimp only at hSw); go_simp; try (with_reducible rfl)
                try simp only [Act.put, List.setIfInBounds_toArray, List.set_cons_zero, List.set_cons_succ]
                refine take_runs (i := 12) (v := ?_) (by simp only [List.getElem?_toArray, List.getElem?_cons_succ, List.getElem?_cons_zero]; rfl) (by kernel_rfl) (by kernel_rfl) (by kernel_rfl) rfl (by exact fun _ _ _ h => h) (by rfl) ?_ (by assumption) ?_
                rotate_left
                · intro w hSw; (try dsimp only at hSw); go_simp; try (with_reducible rfl)
                try simp only [Act.put, List.setIfInBounds_toArray, List.set_cons_zero, List.set_cons_succ]
                refine take_runs (i := 13) (v := ?_) (by simp only [List.getElem?_toArray, List.getElem?_cons_succ, List.getElem?_cons_zero]; rfl) (by kernel_rfl) (by kernel_rfl) (by kernel_rfl) rfl (by exact fun _ _ _ h => h) (by rfl) ?_ (by assumption) ?_
                rotate_left
                · intro w hSw; (try dsimp only at hSw); go_simp; try (with_reducible rfl)
                try simp only [Act.put, List.setIfInBounds_toArray, List.set_cons_zero, List.set_cons_succ]
                refine take_runs (i := 14) (v := ?_) (by simp only [List.getElem?_toArray, List.getElem?_cons_succ, List.getElem?_cons_zero]; rfl) (by kernel_rfl) (by kernel_rfl) (by kernel_rfl) rfl (by exact fun _ _ _ h => h) (by rfl) ?_ (by assumption) ?_
                rotate_left
                · intro w hSw; (try dsimp only at hSw); go_simp; try (with_reducible rfl)
                try simp only [Act.put, List.setIfInBounds_toArray, List.set_cons_zero, List.set_cons_succ]
                refine take_runs (i := 15) (v := ?_) (by simp only [List.getElem?_toArray, List.getElem?_cons_succ, List.getElem?_cons_zero]; rfl) (by kernel_rfl) (by kernel_rfl) (by kernel_rfl) rfl (by exact fun _ _ _ h => h) (by rfl) ?_ (by assumption) ?_
                rotate_left
                · intro w hSw; (try dsimp only at hSw); go_simp; try (with_reducible rfl)
                try simp only [Act.put, List.setIfInBounds_toArray, List.set_cons_zero, List.set_cons_succ]
                refine take_runs (i := 16) (v := ?_) (by simp only [List.getElem?_toArray, List.getElem?_cons_succ, List.getElem?_cons_zero]; rfl) (by kernel_rfl) (by kernel_rfl) (by kernel_rfl) rfl (by exact fun _ _ _ h => h) (by rfl) ?_ (by assumption) ?_
                rotate_left
                · intro w hSw; (try dsimp only at hSw); go_simp; try (with_reducible rfl)
                try simp only [Act.put, List.setIfInBounds_toArray, List.set_cons_zero, List.set_cons_succ]
                refine take_runs (i := 17) (v := ?_) (by simp only [List.getElem?_toArray, List.getElem?_cons_succ, List.getElem?_cons_zero]; rfl) (by kernel_rfl) (by kernel_rfl) (by kernel_rfl) rfl (by exact fun _ _ _ h => h) (by rfl) ?_ (by assumption) ?_
                rotate_left
                · intro w hSw; (try dsimp only at hSw); go_simp; try (with_reducible rfl)
                try simp only [Act.put, List.setIfInBounds_toArray, List.set_cons_zero, List.set_cons_succ]
                refine take_runs (i := 18) (v := ?_) (by simp only [List.getElem?_toArray, List.getElem?_cons_succ, List.getElem?_cons_zero]; rfl) (by kernel_rfl) (by kernel_rfl) (by kernel_rfl) rfl (by exact fun _ _ _ h => h) (by rfl) ?_ (by assumption) ?_
                rotate_left
                · intro w hSw; (try dsimp only at hSw); go_simp; try (with_reducible rfl)
                try simp only [Act.put, List.setIfInBounds_toArray, List.set_cons_zero, List.set_cons_succ]
                refine take_runs (i := 19) (v := ?_) (by simp only [List.getElem?_toArray, List.getElem?_cons_succ, List.getElem?_cons_zero]; rfl) (by kernel_rfl) (by kernel_rfl) (by kernel_rfl) rfl (by exact fun _ _ _ h => h) (by rfl) ?_ (by assumption) ?_
                rotate_left
                · intro w hSw; (try dsimp only at hSw); go_simp; try (with_reducible rfl)
                try simp only [Act.put, List.setIfInBounds_toArray, List.set_cons_zero, List.set_cons_succ]
                refine take_over (i := 20) (by simp only [List.getElem?_toArray, List.getElem?_cons_succ, List.getElem?_cons_zero]; rfl) (by kernel_rfl) (by kernel_rfl) (by kernel_rfl) rfl (by exact fun _ _ _ h => h) (by rfl) (by assumption) ?_
                try simp only [Act.put, List.setIfInBounds_toArray, List.set_cons_zero, List.set_cons_succ]
                refine take_over (i := 21) (by simp only [List.getElem?_toArray, List.getElem?_cons_succ, List.getElem?_cons_zero]; rfl) (by kernel_rfl) (by kernel_rfl) (by kernel_rfl) rfl (by exact fun _ _ _ h => h) (by rfl) (by assumption) ?_
                try simp only [Act.put, List.setIfInBounds_toArray, List.set_cons_zero, List.set_cons_succ]
                refine take_over (i := 22) (by simp only [List.getElem?_toArray, List.getElem?_cons_succ, List.getElem?_cons_zero]; rfl) (by kernel_rfl) (by kernel_rfl) (by kernel_rfl) rfl (by exact fun _ _ _ h => h) (by rfl) (by assumption) ?_
                try simp only [Act.put, List.setIfInBounds_toArray, List.set_cons_zero, List.set_cons_succ]
                refine take_over (i := 23) (by simp only [List.getElem?_toArray, List.getElem?_cons_succ, List.getElem?_cons_zero]; rfl) (by kernel_rfl) (by kernel_rfl) (by kernel_rfl) rfl (by exact fun _ _ _ h => h) (by rfl) (by assumption) ?_
                try simp only [Act.put, List.setIfInBounds_toArray, List.set_cons_zero, List.set_cons_succ]
                refine take_over (i := 24) (by simp only [List.getElem?_toArray, List.getElem?_cons_succ, List.getElem?_cons_zero]; rfl) (by kernel_rfl) (by kernel_rfl) (by kernel_rfl) rfl (by exact fun _ _ _ h => h) (by rfl) (by assumption) ?_
                try simp only [Act.put, List.setIfInBounds_toArray, List.set_cons_zero, List.set_cons_succ]
                refine take_over (i := 25) (by simp only [List.getElem?_toArray, List.getElem?_cons_succ, List.getElem?_cons_zero]; rfl) (by kernel_rfl) (by kernel_rfl) (by kernel_rfl) rfl (by exact fun _ _ _ h => h) (by rfl) (by assumption) ?_
                try simp only [Act.put, List.setIfInBounds_toArray, List.set_cons_zero, List.set_cons_succ]
                refine take_over (i := 26) (by simp only [List.getElem?_toArray, List.getElem?_cons_succ, List.getElem?_cons_zero]; rfl) (by kernel_rfl) (by kernel_rfl) (by kernel_rfl) rfl (by exact fun _ _ _ h => h) (by rfl) (by assumption) ?_
                try simp only [Act.put, List.setIfInBounds_toArray, List.set_cons_zero, List.set_cons_succ]
                refine take_over (i := 27) (by simp only [List.getElem?_toArray, List.getElem?_cons_succ, List.getElem?_cons_zero]; rfl) (by kernel_rfl) (by kernel_rfl) (by kernel_rfl) rfl (by exact fun _ _ _ h => h) (by rfl) (by assumption) ?_
                try simp only [Act.put, List.setIfInBounds_toArray, List.set_cons_zero, List.set_cons_succ]
                refine take_over (i := 28) (by simp only [List.getElem?_toArray, List.getElem?_cons_succ, List.getElem?_cons_zero]; rfl) (by kernel_rfl) (by kernel_rfl) (by kernel_rfl) rfl (by exact fun _ _ _ h => h) (by rfl) (by assumption) ?_
                try simp only [Act.put, List.setIfInBounds_toArray, List.set_cons_zero, List.set_cons_succ]
                refine take_over (i := 29) (by simp only [List.getElem?_toArray, List.getElem?_cons_succ, List.getElem?_cons_zero]; rfl) (by kernel_rfl) (by kernel_rfl) (by kernel_rfl) rfl (by exact fun _ _ _ h => h) (by rfl) (by assumption) ?_
                try simp only [Act.put, List.setIfInBounds_toArray, List.set_cons_zero, List.set_cons_succ]
                refine take_over (i := 30) (by simp only [List.getElem?_toArray, List.getElem?_cons_succ, List.getElem?_cons_zero]; rfl) (by kernel_rfl) (by kernel_rfl) (by kernel_rfl) rfl (by exact fun _ _ _ h => h) (by rfl) (by assumption) ?_
                try simp only [Act.put, List.setIfInBounds_toArray, List.set_cons_zero, List.set_cons_succ]
                refine take_over (i := 31) (by simp only [List.getElem?_toArray, List.getElem?_cons_succ, List.getElem?_cons_zero]; rfl) (by kernel_rfl) (by kernel_rfl) (by kernel_rfl) rfl (by exact fun _ _ _ h => h) (by rfl) (by assumption) ?_
                try simp only [Act.put, List.setIfInBounds_toArray, List.set_cons_zero, List.set_cons_succ]
                refine take_runs (i := 32) (v := ?_) (by simp only [List.getElem?_toArray, List.getElem?_cons_succ, List.getElem?_cons_zero]; rfl) (by kernel_rfl) (by kernel_rfl) (by kernel_rfl) rfl (by exact fun _ _ _ h => h) (by rfl) ?_ (by assumption) ?_
                rotate_left
                · intro w hSw; (try dsimp only at hSw); go_simp; try (with_reducible rfl)
                try simp only [Act.put, List.setIfInBounds_toArray, List.set_cons_zero, List.set_cons_succ]
                refine take_runs (i := 33) (v := ?_) (by simp only [List.getElem?_toArray, List.getElem?_cons_succ, List.getElem?_cons_zero]; rfl) (by kernel_rfl) (by kernel_rfl) (by kernel_rfl) rfl (by exact fun _ _ _ h => h) (by rfl) ?_ (by assumption) ?_
                rotate_left
                · intro w hSw; (try dsimp only at hSw); go_simp; try (with_reducible rfl)
                try simp only [Act.put, List.setIfInBounds_toArray, List.set_cons_zero, List.set_cons_succ]
                refine wpAnyH_done (by kernel_rfl) ?_ _
                have b11 := below_drew hbel
                have p2 : wr.drew.cell? ⟨b, off + k * 3 + 1, none⟩ = some (.int .i64 st) := hc2
                clear hHeld hc1 hc2 hc3 hI hn hne hg hgn
                generalize wr.drew = W1 at *
                go_wp2
                go_roundw
                case rel => exact ⟨k + 1, by omega, by go_num, by rw [HUN.out], b11⟩
                case measure => simp [intOf]; omega
              · obtain ⟨m, hkm⟩ : ∃ m, k = m + 1 := ⟨k - 1, by omega⟩
                have hml : m < X.length := by omega
                have hg : decide ((0 : Int) < (k : Int)) = true := decide_eq_true (by omega)
                have hgn : decide (0 < k) = true := decide_eq_true (by omega)
                have j1 : (0 : Int) ≤ (m : Int) := by omega
                have j2 : (m : Int) < (X.length : Int) := by omega
                have hsub : IntKind.i64.wrap ((k : Int) - 1) = (m : Int) := by rw [IntWalk.i64_in _ (by omega)]; omega
                obtain ⟨b', off', cap'', vv2, hv2, hbl2, _, _, hd3, hJ⟩ := spansR_at (spansR_below HXR.out hbel) hml
                simp only [Value.slice.injEq, Option.some.injEq, Addr.mk.injEq] at hv2
                obtain ⟨⟨rfl, rfl, _⟩, _, rfl⟩ := hv2
                obtain ⟨va2, vcap2, rfl⟩ := ints_len hJ
                have HZL := Lib.hid (zpL_span HXZ.out hml)
                have hdf := HDF.out m hkm
                generalize X.getD m p0D = r2 at *
                obtain ⟨sf2, st2, zs⟩ := r2
                simp only at hd3 hJ HZL hdf
                have HSM := Lib.hid (fun w h g => sameS_any (.slice va ys.length vcap) (.slice va2 zs.length vcap2) ys zs w h g HYL.out HZL.out)
                rw [decide_eq_false hdf] at HSM
                have HI := Lib.hid hI
                have HJ := Lib.hid hJ
                clear HDF hdf hI hJ hk0 hkm
                go_wp2
                refine wp_region_held_drew (S := fun w' => w'.cell? ⟨b, off + k * 3, none⟩ = some (.int .i64 sf) ∧ w'.cell? ⟨b, off + k * 3 + 1, none⟩ = some (.int .i64 st) ∧ w'.cell? ⟨b, off + k * 3 + 2, none⟩ = some (.slice va ys.length vcap) ∧ w'.cell? ⟨b, off + m * 3 + 2, none⟩ = some (.slice va2 zs.length vcap2)) (by kernel_rfl) ⟨hc1, hc2, hc3, hd3⟩ (fun hHeld => ?_)
                have e0 := below_drew (Below.refl wr.heap.size wr)
                refine take_runs (i := 0) (v := ?_) (by simp only [List.getElem?_toArray, List.getElem?_cons_succ, List.getElem?_cons_zero]; rfl) (by kernel_rfl) (by kernel_rfl) (by kernel_rfl) rfl (by exact fun _ _ _ h => h) (by rfl) ?_ (by assumption) ?_
                rotate_left
                · intro w hSw; (try dsimp only at hSw); go_simp; try (with_reducible rfl)
                try simp only [Act.put, List.setIfInBounds_toArray, List.set_cons_zero, List.set_cons_succ]
                refine take_runs (i := 1) (v := ?_) (by simp only [List.getElem?_toArray, List.getElem?_cons_succ, List.getElem?_cons_zero]; rfl) (by kernel_rfl) (by kernel_rfl) (by kernel_rfl) rfl (by exact fun _ _ _ h => h) (by rfl) ?_ (by assumption) ?_
                rotate_left
                · intro w hSw; (try dsimp only at hSw); go_simp; try (with_reducible rfl)
                try simp only [Act.put, List.setIfInBounds_toArray, List.set_cons_zero, List.set_cons_succ]
                refine take_runs (i := 2) (v := ?_) (by simp only [List.getElem?_toArray, List.getElem?_cons_succ, List.getElem?_cons_zero]; rfl) (by kernel_rfl) (by kernel_rfl) (by kernel_rfl) rfl (by exact fun _ _ _ h => h) (by rfl) ?_ (by assumption) ?_
                rotate_left
                · intro w hSw; (try dsimp only at hSw); go_simp; try (with_reducible rfl)
                try simp only [Act.put, List.setIfInBounds_toArray, List.set_cons_zero, List.set_cons_succ]
                refine take_runs (i := 3) (v := ?_) (by simp only [List.getElem?_toArray, List.getElem?_cons_succ, List.getElem?_cons_zero]; rfl) (by kernel_rfl) (by kernel_rfl) (by kernel_rfl) rfl (by exact fun _ _ _ h => h) (by rfl) ?_ (by assumption) ?_
                rotate_left
                · intro w hSw; (try dsimp only at hSw); go_simp; try (with_reducible rfl)
                try simp only [Act.put, List.setIfInBounds_toArray, List.set_cons_zero, List.set_cons_succ]
                refine take_runs (i := 4) (v := ?_) (by simp only [List.getElem?_toArray, List.getElem?_cons_succ, List.getElem?_cons_zero]; rfl) (by kernel_rfl) (by kernel_rfl) (by kernel_rfl) rfl (by exact fun _ _ _ h => h) (by rfl) ?_ (by assumption) ?_
                rotate_left
                · intro w hSw; (try dsimp only at hSw); go_simp; try (with_reducible rfl)
                try simp only [Act.put, List.setIfInBounds_toArray, List.set_cons_zero, List.set_cons_succ]
                refine take_runs (i := 5) (v := ?_) (by simp only [List.getElem?_toArray, List.getElem?_cons_succ, List.getElem?_cons_zero]; rfl) (by kernel_rfl) (by kernel_rfl) (by kernel_rfl) rfl (by exact fun _ _ _ h => h) (by rfl) ?_ (by assumption) ?_
                rotate_left
                · intro w hSw; (try dsimp only at hSw); go_simp; try (with_reducible rfl)
                try simp only [Act.put, List.setIfInBounds_toArray, List.set_cons_zero, List.set_cons_succ]
                refine take_runs (i := 6) (v := ?_) (by simp only [List.getElem?_toArray, List.getElem?_cons_succ, List.getElem?_cons_zero]; rfl) (by kernel_rfl) (by kernel_rfl) (by kernel_rfl) rfl (by exact fun _ _ _ h => h) (by rfl) ?_ (by assumption) ?_
                rotate_left
                · intro w hSw; (try dsimp only at hSw); go_simp; try (with_reducible rfl)
                try simp only [Act.put, List.setIfInBounds_toArray, List.set_cons_zero, List.set_cons_succ]
                refine take_runs (i := 7) (v := ?_) (by simp only [List.getElem?_toArray, List.getElem?_cons_succ, List.getElem?_cons_zero]; rfl) (by kernel_rfl) (by kernel_rfl) (by kernel_rfl) rfl (by exact fun _ _ _ h => h) (by rfl) ?_ (by assumption) ?_
                rotate_left
                · intro w hSw; (try dsimp only at hSw); go_simp; try (with_reducible rfl)
                try simp only [Act.put, List.setIfInBounds_toArray, List.set_cons_zero, List.set_cons_succ]
                refine take_runs (i := 8) (v := ?_) (by simp only [List.getElem?_toArray, List.getElem?_cons_succ, List.getElem?_cons_zero]; rfl) (by kernel_rfl) (by kernel_rfl) (by kernel_rfl) rfl (by exact fun _ _ _ h => h) (by rfl) ?_ (by assumption) ?_
                rotate_left
                · intro w hSw; (try dsimp only at hSw); go_simp; try (with_reducible rfl)
                try simp only [Act.put, List.setIfInBounds_toArray, List.set_cons_zero, List.set_cons_succ]
                refine take_runs (i := 9) (v := ?_) (by simp only [List.getElem?_toArray, List.getElem?_cons_succ, List.getElem?_cons_zero]; rfl) (by kernel_rfl) (by kernel_rfl) (by kernel_rfl) rfl (by exact fun _ _ _ h => h) (by rfl) ?_ (by assumption) ?_
                rotate_left
                · intro w hSw; (try dsimp only at hSw); go_simp; try (with_reducible rfl)
                try simp only [Act.put, List.setIfInBounds_toArray, List.set_cons_zero, List.set_cons_succ]
                refine take_runs (i := 10) (v := ?_) (by simp only [List.getElem?_toArray, List.getElem?_cons_succ, List.getElem?_cons_zero]; rfl) (by kernel_rfl) (by kernel_rfl) (by kernel_rfl) rfl (by exact fun _ _ _ h => h) (by rfl) ?_ (by assumption) ?_
                rotate_left
                · intro w hSw; (try dsimp only at hSw); go_simp; try (with_reducible rfl)
                try simp only [Act.put, List.setIfInBounds_toArray, List.set_cons_zero, List.set_cons_succ]
                refine take_runs (i := 11) (v := ?_) (by simp only [List.getElem?_toArray, List.getElem?_cons_succ, List.getElem?_cons_zero]; rfl) (by kernel_rfl) (by kernel_rfl) (by kernel_rfl) rfl (by exact fun _ _ _ h => h) (by rfl) ?_ (by assumption) ?_
                rotate_left
                · intro w hSw; (try dsimp only at hSw); go_simp; try (with_reducible rfl)
                try simp only [Act.put, List.setIfInBounds_toArray, List.set_cons_zero, List.set_cons_succ]
                refine take_runs (i := 12) (v := ?_) (by simp only [List.getElem?_toArray, List.getElem?_cons_succ, List.getElem?_cons_zero]; rfl) (by kernel_rfl) (by kernel_rfl) (by kernel_rfl) rfl (by exact fun _ _ _ h => h) (by rfl) ?_ (by assumption) ?_
                rotate_left
                · intro w hSw; (try dsimp only at hSw); go_simp; try (with_reducible rfl)
                try simp only [Act.put, List.setIfInBounds_toArray, List.set_cons_zero, List.set_cons_succ]
                refine take_runs (i := 13) (v := ?_) (by simp only [List.getElem?_toArray, List.getElem?_cons_succ, List.getElem?_cons_zero]; rfl) (by kernel_rfl) (by kernel_rfl) (by kernel_rfl) rfl (by exact fun _ _ _ h => h) (by rfl) ?_ (by assumption) ?_
                rotate_left
                · intro w hSw; (try dsimp only at hSw); go_simp; try (with_reducible rfl)
                try simp only [Act.put, List.setIfInBounds_toArray, List.set_cons_zero, List.set_cons_succ]
                refine take_runs (i := 14) (v := ?_) (by simp only [List.getElem?_toArray, List.getElem?_cons_succ, List.getElem?_cons_zero]; rfl) (by kernel_rfl) (by kernel_rfl) (by kernel_rfl) rfl (by exact fun _ _ _ h => h) (by rfl) ?_ (by assumption) ?_
                rotate_left
                · intro w hSw; (try dsimp only at hSw); go_simp; try (with_reducible rfl)
                try simp only [Act.put, List.setIfInBounds_toArray, List.set_cons_zero, List.set_cons_succ]
                refine take_runs (i := 15) (v := ?_) (by simp only [List.getElem?_toArray, List.getElem?_cons_succ, List.getElem?_cons_zero]; rfl) (by kernel_rfl) (by kernel_rfl) (by kernel_rfl) rfl (by exact fun _ _ _ h => h) (by rfl) ?_ (by assumption) ?_
                rotate_left
                · intro w hSw; (try dsimp only at hSw); go_simp; try (with_reducible rfl)
                try simp only [Act.put, List.setIfInBounds_toArray, List.set_cons_zero, List.set_cons_succ]
                refine take_runs (i := 16) (v := ?_) (by simp only [List.getElem?_toArray, List.getElem?_cons_succ, List.getElem?_cons_zero]; rfl) (by kernel_rfl) (by kernel_rfl) (by kernel_rfl) rfl (by exact fun _ _ _ h => h) (by rfl) ?_ (by assumption) ?_
                rotate_left
                · intro w hSw; (try dsimp only at hSw); go_simp; try (with_reducible rfl)
                try simp only [Act.put, List.setIfInBounds_toArray, List.set_cons_zero, List.set_cons_succ]
                refine take_runs (i := 17) (v := ?_) (by simp only [List.getElem?_toArray, List.getElem?_cons_succ, List.getElem?_cons_zero]; rfl) (by kernel_rfl) (by kernel_rfl) (by kernel_rfl) rfl (by exact fun _ _ _ h => h) (by rfl) ?_ (by assumption) ?_
                rotate_left
                · intro w hSw; (try dsimp only at hSw); go_simp; try (with_reducible rfl)
                try simp only [Act.put, List.setIfInBounds_toArray, List.set_cons_zero, List.set_cons_succ]
                refine take_runs (i := 18) (v := ?_) (by simp only [List.getElem?_toArray, List.getElem?_cons_succ, List.getElem?_cons_zero]; rfl) (by kernel_rfl) (by kernel_rfl) (by kernel_rfl) rfl (by exact fun _ _ _ h => h) (by rfl) ?_ (by assumption) ?_
                rotate_left
                · intro w hSw; (try dsimp only at hSw); go_simp; try (with_reducible rfl)
                try simp only [Act.put, List.setIfInBounds_toArray, List.set_cons_zero, List.set_cons_succ]
                refine take_runs (i := 19) (v := ?_) (by simp only [List.getElem?_toArray, List.getElem?_cons_succ, List.getElem?_cons_zero]; rfl) (by kernel_rfl) (by kernel_rfl) (by kernel_rfl) rfl (by exact fun _ _ _ h => h) (by rfl) ?_ (by assumption) ?_
                rotate_left
                · intro w hSw; (try dsimp only at hSw); go_simp; try (with_reducible rfl)
                try simp only [Act.put, List.setIfInBounds_toArray, List.set_cons_zero, List.set_cons_succ]
                refine take_runs (i := 20) (v := ?_) (by simp only [List.getElem?_toArray, List.getElem?_cons_succ, List.getElem?_cons_zero]; rfl) (by kernel_rfl) (by kernel_rfl) (by kernel_rfl) rfl (by exact fun _ _ _ h => h) (by rfl) ?_ (by assumption) ?_
                rotate_left
                · intro w hSw; (try dsimp only at hSw); go_simp; try (with_reducible rfl)
                try simp only [Act.put, List.setIfInBounds_toArray, List.set_cons_zero, List.set_cons_succ]
                refine take_runs (i := 21) (v := ?_) (by simp only [List.getElem?_toArray, List.getElem?_cons_succ, List.getElem?_cons_zero]; rfl) (by kernel_rfl) (by kernel_rfl) (by kernel_rfl) rfl (by exact fun _ _ _ h => h) (by rfl) ?_ (by assumption) ?_
                rotate_left
                · intro w hSw; (try dsimp only at hSw); go_simp; try (with_reducible rfl)
                try simp only [Act.put, List.setIfInBounds_toArray, List.set_cons_zero, List.set_cons_succ]
                refine take_runs (i := 22) (v := ?_) (by simp only [List.getElem?_toArray, List.getElem?_cons_succ, List.getElem?_cons_zero]; rfl) (by kernel_rfl) (by kernel_rfl) (by kernel_rfl) rfl (by exact fun _ _ _ h => h) (by rfl) ?_ (by assumption) ?_
                rotate_left
                · intro w hSw; (try dsimp only at hSw); go_simp; try (with_reducible rfl)
                try simp only [Act.put, List.setIfInBounds_toArray, List.set_cons_zero, List.set_cons_succ]
                refine take_runs (i := 23) (v := ?_) (by simp only [List.getElem?_toArray, List.getElem?_cons_succ, List.getElem?_cons_zero]; rfl) (by kernel_rfl) (by kernel_rfl) (by kernel_rfl) rfl (by exact fun _ _ _ h => h) (by rfl) ?_ (by assumption) ?_
                rotate_left
                · intro w hSw; (try dsimp only at hSw); go_simp; try (with_reducible rfl)
                try simp only [Act.put, List.setIfInBounds_toArray, List.set_cons_zero, List.set_cons_succ]
                refine take_runs (i := 24) (v := ?_) (by simp only [List.getElem?_toArray, List.getElem?_cons_succ, List.getElem?_cons_zero]; rfl) (by kernel_rfl) (by kernel_rfl) (by kernel_rfl) rfl (by exact fun _ _ _ h => h) (by rfl) ?_ (by assumption) ?_
                rotate_left
                · intro w hSw; (try dsimp only at hSw); go_simp; try (with_reducible rfl)
                try simp only [Act.put, List.setIfInBounds_toArray, List.set_cons_zero, List.set_cons_succ]
                refine take_runs (i := 25) (v := ?_) (by simp only [List.getElem?_toArray, List.getElem?_cons_succ, List.getElem?_cons_zero]; rfl) (by kernel_rfl) (by kernel_rfl) (by kernel_rfl) rfl (by exact fun _ _ _ h => h) (by rfl) ?_ (by assumption) ?_
                rotate_left
                · intro w hSw; (try dsimp only at hSw); go_simp; try (with_reducible rfl)
                try simp only [Act.put, List.setIfInBounds_toArray, List.set_cons_zero, List.set_cons_succ]
                refine take_runs (i := 26) (v := ?_) (by simp only [List.getElem?_toArray, List.getElem?_cons_succ, List.getElem?_cons_zero]; rfl) (by kernel_rfl) (by kernel_rfl) (by kernel_rfl) rfl (by exact fun _ _ _ h => h) (by rfl) ?_ (by assumption) ?_
                rotate_left
                · intro w hSw; (try dsimp only at hSw); go_simp; try (with_reducible rfl)
                try simp only [Act.put, List.setIfInBounds_toArray, List.set_cons_zero, List.set_cons_succ]
                refine take_runs (i := 27) (v := ?_) (by simp only [List.getElem?_toArray, List.getElem?_cons_succ, List.getElem?_cons_zero]; rfl) (by kernel_rfl) (by kernel_rfl) (by kernel_rfl) rfl (by exact fun _ _ _ h => h) (by rfl) ?_ (by assumption) ?_
                rotate_left
                · intro w hSw; (try dsimp only at hSw); go_simp; try (with_reducible rfl)
                try simp only [Act.put, List.setIfInBounds_toArray, List.set_cons_zero, List.set_cons_succ]
                refine take_runs (i := 28) (v := ?_) (by simp only [List.getElem?_toArray, List.getElem?_cons_succ, List.getElem?_cons_zero]; rfl) (by kernel_rfl) (by kernel_rfl) (by kernel_rfl) rfl (by exact fun _ _ _ h => h) (by rfl) ?_ (by assumption) ?_
                rotate_left
                · intro w hSw; (try dsimp only at hSw); go_simp; try (with_reducible rfl)
                try simp only [Act.put, List.setIfInBounds_toArray, List.set_cons_zero, List.set_cons_succ]
                refine take_runs (i := 29) (v := ?_) (by simp only [List.getElem?_toArray, List.getElem?_cons_succ, List.getElem?_cons_zero]; rfl) (by kernel_rfl) (by kernel_rfl) (by kernel_rfl) rfl (by exact fun _ _ _ h => h) (by rfl) ?_ (by assumption) ?_
                rotate_left
                · intro w hSw; (try dsimp only at hSw); go_simp; try (with_reducible rfl)
                try simp only [Act.put, List.setIfInBounds_toArray, List.set_cons_zero, List.set_cons_succ]
                refine take_runs (i := 30) (v := ?_) (by simp only [List.getElem?_toArray, List.getElem?_cons_succ, List.getElem?_cons_zero]; rfl) (by kernel_rfl) (by kernel_rfl) (by kernel_rfl) rfl (by exact fun _ _ _ h => h) (by rfl) ?_ (by assumption) ?_
                rotate_left
                · intro w hSw; (try dsimp only at hSw); go_simp; try (with_reducible rfl)
                try simp only [Act.put, List.setIfInBounds_toArray, List.set_cons_zero, List.set_cons_succ]
                refine wpAnyH_ready (rs := [31]) (by kernel_rfl) (by simp) ?_
                refine AllReadyH.cons (o := _) (by simp only [List.getElem?_toArray, List.getElem?_cons_succ, List.getElem?_cons_zero]; rfl) (fun K hK => ?_) AllReadyH.nil
                go_simp
                refine (HSM.out _ (ints_below HI.out e0) (ints_below HJ.out e0)).mono ?_
                rintro e x1 ⟨rfl, k1⟩
                have e1 : Below wr.heap.size wr x1 := e0.trans (k1.mono e0.size)
                refine hK.out _ _ ⟨(e1.cell (p := ⟨b, off + k * 3, none⟩) hbl).trans hc1, (e1.cell (p := ⟨b, off + k * 3 + 1, none⟩) hbl).trans hc2, (e1.cell (p := ⟨b, off + k * 3 + 2, none⟩) hbl).trans hc3, (e1.cell (p := ⟨b, off + m * 3 + 2, none⟩) hbl).trans hd3⟩ (fun hHeld => ?_)
                clear hK K
                try simp only [Act.put, List.setIfInBounds_toArray, List.set_cons_zero, List.set_cons_succ]
                refine take_runs (i := 32) (v := ?_) (by simp only [List.getElem?_toArray, List.getElem?_cons_succ, List.getElem?_cons_zero]; rfl) (by kernel_rfl) (by kernel_rfl) (by kernel_rfl) rfl (by exact fun _ _ _ h => h) (by rfl) ?_ (by assumption) ?_
                rotate_left
                · intro w hSw; (try dsimp only at hSw); go_simp; try (with_reducible rfl)
                try simp only [Act.put, List.setIfInBounds_toArray, List.set_cons_zero, List.set_cons_succ]
                refine take_runs (i := 33) (v := ?_) (by simp only [List.getElem?_toArray, List.getElem?_cons_succ, List.getElem?_cons_zero]; rfl) (by kernel_rfl) (by kernel_rfl) (by kernel_rfl) rfl (by exact fun _ _ _ h => h) (by rfl) ?_ (by assumption) ?_
                rotate_left
                · intro w hSw; (try dsimp only at hSw); go_simp; try (with_reducible rfl)
                try simp only [Act.put, List.setIfInBounds_toArray, List.set_cons_zero, List.set_cons_succ]
                refine wpAnyH_done (by kernel_rfl) ?_ _
                have b11 := hbel.trans (e1.mono hbel.size)
                have p2 := (e1.cell (p := ⟨b, off + k * 3 + 1, none⟩) hbl).trans hc2
                clear hHeld hc1 hc2 hc3 hd3 hn hne hg hgn hsub j1 j2 HI HJ HSM
                go_wp2
                go_roundw
                case rel => exact ⟨k + 1, by omega, by go_num, by rw [HUN.out], b11⟩
                case measure => simp [intOf]; omega
            · obtain rfl : k = X.length := by omega
              have hup := upTo_end HTL.out
              have hq := queriesR_below HQ.out hbel
              have hx := spansR_below HXR.out hbel
              have D := HD8.out.trans (hbel.mono HD8.out.size)
              have HFD : Hid (∀ z : Int, 0 ≤ z → z ≤ 99 → findL X z = stabL qs f z) := Lib.hid (fun z h0 h1 => tells_find HTL.out h0 (by show z ≤ ((100 : Nat) : Int) - 1; omega))
              have HSL : Hid (∀ z : Int, (stabL qs f z).length ≤ 1048576) := Lib.hid (fun z => by have := stabL_len qs f z; omega)
              rw [hup]
              clear hup hbel HTL HRG HQ HXR HD8
              go_wp2_with fail
              refine (HAT.out _ (code_below HCODE.out D)).mono ?_
              rintro e w9 ⟨y, y0, y1, rfl, c⟩
              replace hq := queriesR_below hq c
              replace hx := spansR_below hx c
              replace D := D.trans (c.mono D.size)
              have hy0 := Int.emod_nonneg y (show (100 : Int) ≠ 0 by omega)
              have hy1 := Int.emod_lt_of_pos y (show (0 : Int) < 100 by omega)
              have HZ := Lib.hid (HFD.out (y % 100) hy0 (by omega))
              have hfw := HFW.out
              have hqn : (qs.length : Int) ≤ 6 := by omega
              clear c HAT HFD
              go_wp2_with fail
              refine (implFindSpan _ X _ _ hx HXZ.out).mono ?_
              rintro e w10 ⟨r1, rfl, o1, c⟩
              rw [HZ.out] at o1
              have h1 := ownsN_ints o1
              replace hq := queriesR_below hq c
              replace D := D.trans (c.mono D.size)
              clear c o1 hx HZ
              generalize y % 100 = z at *
              have HSZL := HSL.out z
              have HST := Lib.hid (fun w h => implStabSet (.slice ua qs.length ucap) qs f z w h HSZ.out)
              have HSS := Lib.hid (fun w h => specStabSet (.slice ua qs.length ucap) qs f z w h HSZ.out)
              generalize stabL qs f z = s at *
              have hss : decide (s = s) = true := decide_eq_true rfl
              have HSA := Lib.hid (fun v u w h g => sameS_any v u s s w h g HSZL HSZL)
              rw [hss] at HSA
              clear hss HSZL HSL
              go_wp2_with fail
              refine (HST.out _ hq).mono ?_
              rintro e w11 ⟨r2, rfl, o2, c⟩
              have h2 := ownsN_ints o2
              replace hq := queriesR_below hq c
              replace h1 := ints_below h1 c
              replace D := D.trans (c.mono D.size)
              clear c o2
              go_wp2_with fail
              refine (HSA.out _ _ _ h1 h2).mono ?_
              rintro e w12 ⟨rfl, c⟩
              replace hq := queriesR_below hq c
              replace D := D.trans (c.mono D.size)
              clear c h1 h2
              go_wp2_with fail
              refine (HST.out _ hq).mono ?_
              rintro e w13 ⟨r3, rfl, o3, c⟩
              have h3 := ownsN_ints o3
              replace hq := queriesR_below hq c
              replace D := D.trans (c.mono D.size)
              clear c o3
              go_wp2_with fail
              refine (HSS.out _ hq).mono ?_
              rintro e w14 ⟨r4, rfl, o4, c⟩
              have h4 := ownsN_ints o4
              replace h3 := ints_below h3 c
              replace D := D.trans (c.mono D.size)
              clear c o4
              go_wp2_with fail
              refine (HSA.out _ _ _ h3 h4).mono ?_
              rintro e w15 ⟨rfl, c⟩
              replace D := D.trans (c.mono D.size)
              clear c h3 h4
              go_wp2
              go_ret
              exact ⟨rfl, D⟩
  · have HBG := Lib.hid (fun w => bigS p cap xs.length w)
    rw [show decide ((1048576 : Int) < (xs.length : Int)) = true from decide_eq_true (by omega)] at HBG
    clear hcode hby hT hTZ
    go_enter Tryd.func3, Tryd.ntmps3
    go_wp2_with fail
    refine (HBG.out _).mono ?_
    rintro e w0 ⟨rfl, rfl⟩
    go_wp2
    go_ret
    exact ⟨rfl, Below.refl _ _⟩
end Go.Proofs.YtmkcfkblfjhnhaaDoor
namespace Go.Proofs.YtmkcfkblfjhnhaaDoor
open Go.ChangeShapes Go.WideShapes Go.ChangeAt Go.WideMaps Go.WideElems Go.RowKit
set_option linter.unusedVariables false
theorem cU8c : Tryd.prog.cellsOf 5 = 1 := by kernel_rfl
theorem laidOut : laidOutB Tryd.prog = true := by kernel_rfl
theorem recCode : Tryd.prog.readableRec 22 = true := by kernel_rfl
theorem rowCode : 22 < Tryd.prog.types.size := of_decide_eq_true (by kernel_rfl)
set_option maxRecDepth 100000 in
/-- A slice of bytes that came in reads as bytes. -/
theorem code_open {H : Type} {enc : TypeId × Value → H} {W : World} {r : Reach} {b0 : Nat} {v : Value} {d : DataW H} {p : List MemPlace} (hval : Value.okWide Tryd.prog W r b0 22 v) (h : DataW.Trod enc Tryd.prog W 0 (fun _ => true) true 22 v d p) :
    ∃ a xs cap, v = .slice a xs.length cap ∧ Code W v xs ∧ ∀ x ∈ xs, 0 ≤ x ∧ x ≤ 255 := by
  obtain ⟨a, len, cap, rfl⟩ := okWide_slice Tryd.underlying22 hval
  obtain ⟨fuel, hf⟩ := h
  rcases open_ints Tryd.underlying22 Tryd.underlying5 cU8c hf with ⟨hcs, _⟩ | ⟨a', len', cap', zs, hcs, _, hl, hm, hz, _, hcell, hwz⟩
  · simp [Value.cells] at hcs
    obtain ⟨rfl, rfl, rfl⟩ := hcs
    exact ⟨none, [], 0, rfl, Or.inl ⟨rfl, none, 0, rfl⟩, by simp⟩
  · simp [Value.cells] at hcs
    obtain ⟨rfl, rfl, rfl⟩ := hcs
    rw [if_pos rfl] at hz
    have hb : ∀ x ∈ zs.take len, 0 ≤ x ∧ x ≤ 255 := fun x hx => by
      have h1 := hwz x (List.mem_of_mem_take hx)
      have e0 : IntKind.u8.min = 0 := by decide
      have e1 : IntKind.u8.max = 255 := by decide
      simp [Lit.wf] at h1; omega
    have hlen : (zs.take len).length = len := by rw [List.length_take]; omega
    refine ⟨some a', zs.take len, cap, by rw [hlen], ?_, hb⟩
    by_cases h0 : len = 0
    · subst h0
      exact Or.inl ⟨rfl, some a', cap, rfl⟩
    · obtain ⟨b, off, rfl, hc⟩ := ints_at hcell (by omega)
      refine Or.inr ⟨b, off, cap, by rw [hlen], by omega, ?_, ?_⟩
      · exact World.block_lt_of_cell? W _ (hc 0 (by omega))
      · intro j hj
        rw [hlen] at hj
        rw [hc j (by omega)]
        simp [List.getD, hj]
end Go.Proofs.YtmkcfkblfjhnhaaDoor
