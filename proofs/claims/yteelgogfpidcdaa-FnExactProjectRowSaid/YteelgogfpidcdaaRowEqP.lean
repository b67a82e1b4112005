/-
  The program's comparison of two rows.
-/
import Derived.Test.YteelgogfpidcdaaRowIsP
namespace Go.Proofs.Yteelgogfpidcdaa
open Go.RowKit
set_option linter.unusedVariables false
set_option linter.unusedSimpArgs false
set_option maxHeartbeats 2000000 in
set_option maxRecDepth 100000 in
theorem equalInts (v u : Value) (xs ys : List Int) (w : World) (h : Ints w v xs) (g : Ints w u ys) (hn : xs.length ≤ 1048576) (hm : ys.length ≤ 1048576) :
    Calls Try.prog 78 #[v, u] w fun e w' => e = .returned (.bool (decide (xs = ys))) ∧ Below w.heap.size w w' := by
  have H := Lib.hid h
  have G := Lib.hid g
  obtain ⟨a, cap, rfl⟩ := ints_len h
  obtain ⟨a2, cap2, rfl⟩ := ints_len g
  clear h g
  by_cases hl : xs.length = ys.length
  · have HL := Lib.hid hl
    have hne : ((xs.length : Int) != (ys.length : Int)) = false := by rw [hl]; simp
    clear hl
    go_enter Try.func78, Try.ntmps78
    go_wp2
    clear hne
    go_loopw [13] (fun i wr => ∃ k : Nat, k ≤ xs.length ∧ i = .int .i64 k ∧ Hid (∀ j, j < k → xs.getD j 0 = ys.getD j 0) ∧ Below w.heap.size w wr) (fun i _ => xs.length - (intOf i).toNat)
    case atStart => exact ⟨0, Nat.zero_le _, rfl, Lib.hid (fun j hj => by omega), Below.refl _ _⟩
    case round =>
      obtain ⟨k, hk, rfl, hall, hbel⟩ := hrel
      by_cases hlt : k < xs.length
      · obtain ⟨b, off, cap', hv, hbl, hc⟩ := ints_cell H.out (by omega)
        simp only [Value.slice.injEq] at hv
        obtain ⟨rfl, _, rfl⟩ := hv
        obtain ⟨b2, off2, cap2', hv2, hbl2, hc2⟩ := ints_cell G.out (by have := HL.out; omega)
        simp only [Value.slice.injEq] at hv2
        obtain ⟨rfl, _, rfl⟩ := hv2
        have hcell := (hbel.cell (p := ⟨b, off + k, none⟩) hbl).trans (hc k hlt)
        have hcell2 := (hbel.cell (p := ⟨b2, off2 + k, none⟩) hbl2).trans (hc2 k (by have := HL.out; omega))
        have i1 : (0 : Int) ≤ (k : Int) := by omega
        have i2 : (k : Int) < (xs.length : Int) := by omega
        have i3 : (k : Int) < (ys.length : Int) := by have := HL.out; omega
        clear hc hc2
        by_cases he : xs.getD k 0 = ys.getD k 0
        · have HA : Hid (∀ j, j < k + 1 → xs.getD j 0 = ys.getD j 0) := Lib.hid (fun j hj => by
            by_cases e : j = k
            · exact e ▸ he
            · exact hall.out j (by omega))
          rw [← he] at hcell2
          clear he hall
          generalize xs.getD k 0 = y at hcell hcell2
          go_wp2
          go_quiet (fail)
          go_wp2
          go_roundw
          case rel => exact ⟨k + 1, by omega, by go_num, HA, below_dn hbel _⟩
          case measure => simp [intOf]; omega
        · have HF := Lib.hid (decide_eq_false (list_ne_at hlt he))
          have heq : (xs.getD k 0 != ys.getD k 0) = true := by rw [bne_iff_ne]; exact he
          clear he hall
          generalize xs.getD k 0 = y at hcell heq
          generalize ys.getD k 0 = z at hcell2 heq
          go_wp2
          go_quiet (fail)
          go_wp2
          go_ret
          exact ⟨ret_b HF.out.symm, below_dn hbel _⟩
      · obtain rfl : k = xs.length := by omega
        have HT := Lib.hid (decide_eq_true (list_eq_all HL.out hall.out))
        clear hall
        go_wp2
        go_ret
        exact ⟨ret_b HT.out.symm, hbel⟩
  · have HF := Lib.hid (decide_eq_false (show ¬ xs = ys from fun e => hl (by rw [e])))
    have hne : ((xs.length : Int) != (ys.length : Int)) = true := by rw [bne_iff_ne]; omega
    clear hl
    go_enter Try.func78, Try.ntmps78
    go_wp2
    go_ret
    exact ⟨ret_b HF.out.symm, Below.refl _ _⟩
theorem ints_zero {w : World} {a : Option Addr} {n cap : Nat} (h : n = 0) : Ints w (.slice a n cap) [] := by subst h; exact Or.inl ⟨rfl, _, _, rfl⟩
theorem beyond_ints {W w : World} {b off cap : Nat} {xs : List Int} (hb : Below W.heap.size W w) (h2 : xs.length ≤ cap) (h3 : b < W.heap.size) (H : ∀ (j : Nat), j < xs.length → W.cell? ⟨b, off + j, none⟩ = some (.int .i64 (xs.getD j 0))) :
    Ints w (.slice (some ⟨b, off + (min 3 (xs.length : Int)).toNat, none⟩) (xs.length - (min 3 (xs.length : Int)).toNat) (cap - (min 3 (xs.length : Int)).toNat)) (xs.drop 3) := by
  by_cases hl : xs.length ≤ 3
  · have e : xs.drop 3 = [] := List.drop_eq_nil_of_le hl
    have e2 : xs.length - (min 3 (xs.length : Int)).toNat = 0 := by omega
    rw [e, e2]
    exact Or.inl ⟨rfl, _, _, rfl⟩
  · have e2 : (min 3 (xs.length : Int)).toNat = 3 := by omega
    rw [e2]
    refine Or.inr ⟨b, off + 3, cap - 3, by rw [List.length_drop], by rw [List.length_drop]; omega, Nat.lt_of_lt_of_le h3 hb.size, fun j hj => ?_⟩
    rw [List.length_drop] at hj
    have := (hb.cell (p := ⟨b, off + (3 + j), none⟩) h3).trans (H (3 + j) (by omega))
    rw [← Nat.add_assoc] at this
    rw [this]
    congr 2
    simp [List.getD, List.getElem?_drop]
theorem row_eq_parts (id id2 : Int) (xs ys : List Int) : decide (((id, xs) : RowD) = (id2, ys)) = ((id == id2 && (xs.length : Int) == (ys.length : Int) && (xs.getD 0 0 == ys.getD 0 0 && xs.getD 1 0 == ys.getD 1 0 && xs.getD 2 0 == ys.getD 2 0)) && decide (xs.drop 3 = ys.drop 3)) := by
  rw [Bool.eq_iff_iff]
  simp only [Bool.and_eq_true, decide_eq_true_eq, beq_iff_eq, Prod.mk.injEq]
  constructor
  · rintro ⟨rfl, rfl⟩
    exact ⟨⟨⟨rfl, rfl⟩, ⟨rfl, rfl⟩, rfl⟩, rfl⟩
  · rintro ⟨⟨⟨rfl, hl⟩, ⟨h0, h1⟩, h2⟩, h3⟩
    refine ⟨rfl, ?_⟩
    have hl' : xs.length = ys.length := by omega
    match xs, ys, hl', h0, h1, h2, h3 with
    | [], [], _, _, _, _, _ => rfl
    | [x], [y], _, h0, _, _, _ => simp at h0; rw [h0]
    | [x, x2], [y, y2], _, h0, h1, _, _ => simp at h0 h1; rw [h0, h1]
    | x :: x2 :: x3 :: r, y :: y2 :: y3 :: q, _, h0, h1, h2, h3 => simp at h0 h1 h2 h3; rw [h0, h1, h2, h3]
    | [], _ :: _, h, _, _, _, _ => simp at h
    | _ :: _, [], h, _, _, _, _ => simp at h
    | [_], _ :: _ :: _, h, _, _, _, _ => simp at h
    | _ :: _ :: _, [_], h, _, _, _, _ => simp at h
    | [_, _], _ :: _ :: _ :: _, h, _, _, _, _ => simp at h
    | _ :: _ :: _ :: _, [_, _], h, _, _, _, _ => simp at h
theorem box2 {W w : World} {g : Nat} {i j x y : Value} (g0 : W.heap[g]? = some (.cells #[i, x] 51 (0, 0))) (g1 : W.heap[g + 1]? = some (.cells #[j, y] 51 (0, 0))) (hz : g + 1 < W.heap.size) (hb : Below W.heap.size W w) :
    w.cell? ⟨g, 0, none⟩ = some i ∧ w.cell? ⟨g, 1, none⟩ = some x ∧ w.cell? ⟨g + 1, 0, none⟩ = some j ∧ w.cell? ⟨g + 1, 1, none⟩ = some y := by
  have h0 := (hb.block g (by omega)).trans g0
  have h1 := (hb.block (g + 1) hz).trans g1
  have a0 := cell_of_row w _ 0 _ _ _ h0
  have a1 := cell_of_row w _ 1 _ _ _ h0
  have a2 := cell_of_row w _ 0 _ _ _ h1
  have a3 := cell_of_row w _ 1 _ _ _ h1
  simp at a0 a1 a2 a3
  exact ⟨a0, a1, a2, a3⟩
end Go.Proofs.Yteelgogfpidcdaa
