/-
  The draws of lists of queries: l1Once, l2Set, l2Any, and the two lists of the laws on sets.
-/
import Derived.Test.YtecfhgfjfnjagaaDoorDraws
import Derived.Test.YtecfhgfjfnjagaaDoorLawInts
namespace Go.Proofs.YtecfhgfjfnjagaaDoor
open Go.RowKit
set_option linter.unusedVariables false
theorem ownsN_grown {w w' : World} {B c : Nat} {v : Value} {xs : List Int} (h : OwnsN w B v xs) (hg : w.grownBy w' (some c)) (hc : c < B) : OwnsN w' B v xs := by
  refine h.kept hg ?_
  cases hv : v.ownBlock with
  | none => exact Or.inl rfl
  | some k => exact Or.inr (by intro e; have := (h.lt k hv).1; simp at e; omega)
theorem ownsN_from {w : World} {B C : Nat} {v : Value} {xs : List Int} (h : OwnsN w C v xs) (hb : B ≤ C) : OwnsN w B v xs := by
  refine ⟨h.1, ?_⟩
  rcases h.2 with hn | ⟨g, cap, cur, e, hb', rest⟩
  · exact .inl hn
  · exact .inr ⟨g, cap, cur, e, Nat.le_trans hb hb', rest⟩
/-- A choice is drawn. -/
def DrawnBool (w0 : World) (c : Nat) (v : Value) (xs : List Int) (w : World) (e : Ending) (w' : World) : Prop :=
  (∃ b : Bool, e = .returned (.bool b)) ∧ Cur w0 c v xs w' ∧ w.grownBy w' (some c)
/-- A list of at most most numbers is drawn, in new memory. -/
def DrawnList (w0 : World) (c : Nat) (v : Value) (xs : List Int) (w : World) (most : Nat) (e : Ending) (w' : World) : Prop :=
  ∃ (u : Value) (ys : List Int), ys.length ≤ most ∧ e = .returned u ∧ OwnsN w' w.heap.size u ys ∧ Cur w0 c v xs w' ∧ w.grownBy w' (some c)
set_option maxRecDepth 100000 in
theorem once_any (w0 : World) (c : Nat) (v : Value) (xs : List Int) (w : World) (hC : Cur w0 c v xs w) (n : Int) (h1 : 1 ≤ n) (h2 : n ≤ 256) :
    Calls Tryd.prog 52 #[.pointer (some ⟨c, 0, none⟩), .int .i64 n] w (DrawnBool w0 c v xs w) := by
  go_enter Tryd.func52, Tryd.ntmps52
  go_wp2_with fail
  refine (below_any w0 c v xs _ hC n h1 (by omega)).mono ?_
  rintro e w1 ⟨x, x0, x1, rfl, hC1, hg1⟩
  go_wp2
  go_ret
  exact ⟨⟨_, rfl⟩, hC1, hg1⟩
set_option maxHeartbeats 2000000 in
set_option maxRecDepth 100000 in
theorem set_any (w0 : World) (c : Nat) (v : Value) (xs : List Int) (w : World) (hC : Cur w0 c v xs w) :
    Calls Tryd.prog 51 #[.pointer (some ⟨c, 0, none⟩)] w (DrawnList w0 c v xs w 6) := by
  have hcB := cur_lt hC
  have h0B : w0.heap.size ≤ w.heap.size := hC.old.size
  go_enter Tryd.func51, Tryd.ntmps51
  go_wp2_with fail
  refine (below_any w0 c v xs _ (cur_alloc hC _) 3 (by omega) (by omega)).mono ?_
  rintro e wa ⟨x, x0, x1, rfl, hCa, hga⟩
  go_wp2_with fail
  refine (below_any w0 c v xs _ hCa 7 (by omega) (by omega)).mono ?_
  rintro e wb ⟨n, n0, n1, rfl, hCb, hgb⟩
  obtain ⟨n, rfl⟩ := Int.eq_ofNat_of_zero_le n0
  have hownb : OwnsN wb w.heap.size (.slice (some ⟨w.heap.size, 0, none⟩) 0 0) [] := ownsN_grown (ownsN_grown (ownsN_lit w _ (Nat.le_refl _) #[] 0 [] rfl rfl (by decide)) hga hcB) hgb hcB
  have hgw := grown_chain (World.grownBy_alloc w _ _) (grown_chain hga hgb)
  clear hga hgb hCa
  go_wp2_with fail
  go_loopw [3, 4, 5] (fun o y i wr => ∃ (m : Nat) (z : Int) (bs : List Int), bs.length + m ≤ 6 ∧ 0 ≤ z ∧ z ≤ 30 ∧ i = .int .i64 m ∧ y = .int .i64 z ∧ OwnsN wr w.heap.size o bs ∧ Cur w0 c v xs wr ∧ w.grownBy wr (some c)) (fun _ _ i _ => (intOf i).toNat)
  case atStart => exact ⟨n, x, [], by simp; omega, x0, by omega, rfl, rfl, hownb, hCb, hgw⟩
  case round =>
    obtain ⟨m, z, bs, hbm, z0, z1, rfl, rfl, hown, hCr, hgr⟩ := hrel
    have hBr := hgr.size
    clear hownb hCb hgw
    by_cases hlt : 0 < m
    · by_cases hz : z < 24
      · have hlen : Hid (bs.length + 1 ≤ 17592186044416) := Lib.hid (by omega)
        go_wp2_with (at_builtin; refine append_ints rfl (.tmp 19) (.tmp 21) rfl w.heap.size _ _ rfl hown hBr _ [z] 1 _ rfl (by first | rfl | (simp; done)) rfl (by have := hlen.out; simp; omega) ?_)
        intro v' w2 hown2 hbel2
        have hC2 := cur_below hCr hcB h0B hbel2
        have hg2 := grown_below hgr hbel2
        clear hown hbel2 hgr hCr hlen
        go_wp2_with fail
        refine (below_any w0 c v xs _ hC2 3 (by omega) (by omega)).mono ?_
        rintro e w3 ⟨p, p0, p1, rfl, hC3, hg3⟩
        have hown3 := ownsN_grown hown2 hg3 hcB
        have hg3' := grown_chain hg2 hg3
        clear hown2 hg2 hg3 hC2
        go_wp2_with fail
        refine (below_any w0 c v xs _ hC3 2 (by omega) (by omega)).mono ?_
        rintro e w4 ⟨q, q0, q1, rfl, hC4, hg4⟩
        have hown4 := ownsN_grown hown3 hg4 hcB
        have hg4' := grown_chain hg3' hg4
        clear hown3 hg3' hg4 hC3
        obtain ⟨r0, r1⟩ : 0 ≤ p * q ∧ p * q ≤ 2 := by
          rcases (show q = 0 ∨ q = 1 by omega) with rfl | rfl
          · omega
          · omega
        go_wp2
        go_roundw
        case rel => exact ⟨m - 1, z + 1 + p * q, bs ++ [z], by simp; omega, by omega, by omega, by go_num, by go_num, hown4, hC4, hg4'⟩
        case measure => simp [intOf]; omega
      · go_wp2
        go_ret
        exact ⟨_, bs, by omega, rfl, hown, hCr, hgr⟩
    · obtain rfl : m = 0 := by omega
      go_wp2
      go_ret
      exact ⟨_, bs, by omega, rfl, hown, hCr, hgr⟩
def anys : List Int := [-1, 0, 23, 24]
theorem anys_in : ∀ x ∈ anys, -1 ≤ x ∧ x ≤ 24 := by decide
set_option maxHeartbeats 2000000 in
set_option maxRecDepth 100000 in
theorem any_any (w0 : World) (c : Nat) (v : Value) (xs : List Int) (w : World) (hC : Cur w0 c v xs w) :
    Calls Tryd.prog 40 #[.pointer (some ⟨c, 0, none⟩)] w (DrawnList w0 c v xs w 7) := by
  have hcB := cur_lt hC
  have h0B : w0.heap.size ≤ w.heap.size := hC.old.size
  go_enter Tryd.func40, Tryd.ntmps40
  go_wp2_with fail
  refine (set_any w0 c v xs _ hC).mono ?_
  rintro e w1 ⟨u, ys, hl, rfl, hown, hC1, hg1⟩
  go_wp2_with fail
  refine (once_any w0 c v xs _ hC1 8 (by omega) (by omega)).mono ?_
  rintro e w2 ⟨⟨b, rfl⟩, hC2, hg2⟩
  have hown2 := ownsN_grown hown hg2 hcB
  have hg2' := grown_chain hg1 hg2
  clear hown hC1 hg1 hg2
  cases b with
  | false =>
    go_wp2
    go_ret
    exact ⟨_, ys, by omega, rfl, hown2, hC2, hg2'⟩
  | true =>
    go_wp2_with fail
    have hp := pick_any w0 c v xs (w2.alloc (.cells (anys.map (Value.int .i64)).toArray 3 (0, 0))) (cur_alloc hC2 _) w2.heap.size anys _ _ anys_in (by decide) (by decide) (heap_alloc_new w2 _) (by have := cur_lt hC2; omega)
    refine Calls.mono hp ?_
    rintro e w3 ⟨x, x0, x1, rfl, hC3, hg3⟩
    have hown3 := ownsN_grown (hown2.alloc _) hg3 hcB
    have hg3' := grown_chain hg2' (grown_chain (World.grownBy_alloc w2 _ _) hg3)
    have hB3 := hg3'.size
    have hlen : Hid (ys.length + 1 ≤ 17592186044416) := Lib.hid (by omega)
    clear hown2 hC2 hg2' hg3 hp
    go_wp2_with (at_builtin; refine append_ints rfl (.tmp 8) (.tmp 12) rfl w.heap.size _ _ rfl hown3 hB3 _ [x] 1 _ rfl (by first | rfl | (simp; done)) rfl (by have := hlen.out; simp; omega) ?_)
    intro v' w4 hown4 hbel4
    have hC4 := cur_below hC3 hcB h0B hbel4
    have hg4 := grown_below hg3' hbel4
    clear hown3 hbel4 hg3' hC3
    go_wp2
    go_ret
    exact ⟨_, ys ++ [x], by simp; omega, rfl, hown4, hC4, hg4⟩
/-- Two lists are drawn. -/
def Two (w : World) (e : Ending) (w' : World) : Prop :=
  ∃ (u t : Value) (a b : List Int), a.length ≤ 7 ∧ b.length ≤ 7 ∧ e = .returned (.tuple #[u, t]) ∧ OwnsN w' w.heap.size u a ∧ OwnsN w' w.heap.size t b ∧ Below w.heap.size w w'
theorem two_any (v : Value) (xs : List Int) (w : World) (hcode : Code w v xs) (hsm : xs.length ≤ 1048576) (hby : ∀ x ∈ xs, 0 ≤ x ∧ x ≤ 255) :
    Calls Tryd.prog 27 #[v] w (Two w) := by
  have HN := Lib.hid (new_any v xs w hcode hsm hby)
  clear hcode hsm hby
  go_enter Tryd.func27, Tryd.ntmps27
  go_wp2_with fail
  refine HN.out.mono ?_
  rintro e w1 ⟨rfl, hC⟩
  have hs1 := hC.old.size
  have hlt := cur_lt hC
  go_wp2_with fail
  refine (any_any _ _ _ _ _ hC).mono ?_
  rintro e w2 ⟨u, a, hla, rfl, hown, hC2, hg2⟩
  go_wp2_with fail
  refine (any_any _ _ _ _ _ hC2).mono ?_
  rintro e w3 ⟨t, b, hlb, rfl, hown3, hC3, hg3⟩
  have hu := ownsN_grown hown hg3 hlt
  have hg2s := hg2.size
  go_wp2
  go_ret2
  exact ⟨u, t, a, b, hla, hlb, rfl, ownsN_from hu hs1, ownsN_from hown3 (by omega), hC3.old⟩
theorem drawUnite (v : Value) (xs : List Int) (w : World) (hcode : Code w v xs) (hsm : xs.length ≤ 1048576) (hby : ∀ x ∈ xs, 0 ≤ x ∧ x ≤ 255) :
    Calls Tryd.prog 7 #[v] w (Two w) := by
  have H := Lib.hid (two_any v xs w hcode hsm hby)
  clear hcode hsm hby
  go_enter Tryd.func7, Tryd.ntmps7
  go_wp2_with fail
  refine H.out.mono ?_
  rintro e w1 ⟨u, t, a, b, hla, hlb, rfl, hu, ht, hb⟩
  go_wp2
  go_ret2
  exact ⟨u, t, a, b, hla, hlb, rfl, hu, ht, hb⟩
end Go.Proofs.YtecfhgfjfnjagaaDoor
