/-
  The walks of the specification's IsRow and of the comparison of two rows.
-/
import Derived.Test.YtginjmnohnidiaaRowVal
import Derived.Test.YtginjmnohnidiaaSetSpec
namespace Go.Proofs.Ytginjmnohnidiaa
open Go.RowKit
set_option linter.unusedVariables false
/-- Is it a row? -/
def rowB (r : RowD) : Bool := decide (0 ≤ r.1 ∧ r.1 ≤ 999) && (r.2.all (fun x => decide (0 ≤ x ∧ x ≤ 99)) && decide (r.2.length = 3))
theorem rowB_bad {id : Int} {xs : List Int} {k : Nat} (hk : k < xs.length) (h : ¬ (0 ≤ xs.getD k 0 ∧ xs.getD k 0 ≤ 99)) : rowB (id, xs) = false := by
  have e : xs.getD k 0 = xs[k] := by simp [List.getD, hk]
  rw [e] at h
  have : (xs.all fun x => decide (0 ≤ x ∧ x ≤ 99)) = false := by
    rw [Bool.eq_false_iff]
    intro g
    rw [List.all_eq_true] at g
    exact h (of_decide_eq_true (g _ (List.getElem_mem hk)))
  unfold rowB
  simp only [this]
  simp
theorem rowB_all {id : Int} {xs : List Int} (h : ∀ k, k < xs.length → 0 ≤ xs.getD k 0 ∧ xs.getD k 0 ≤ 99) : rowB (id, xs) = (decide (0 ≤ id ∧ id ≤ 999) && decide (xs.length = 3)) := by
  have : (xs.all fun x => decide (0 ≤ x ∧ x ≤ 99)) = true := by
    rw [List.all_eq_true]
    intro x hx
    obtain ⟨k, hk, rfl⟩ := List.getElem_of_mem hx
    have := h k hk
    have e : xs.getD k 0 = xs[k] := by simp [List.getD, hk]
    rw [e] at this
    exact decide_eq_true this
  unfold rowB
  simp only [this, Bool.true_and]
set_option maxHeartbeats 2000000 in
set_option maxRecDepth 100000 in
theorem eqRow_same (id : Int) (v u : Value) (xs : List Int) (w : World) (h : Ints w v xs) (g : Ints w u xs) (hn : xs.length ≤ 1048576) :
    Calls Try.prog 54 #[.agg #[.int .i64 id, v], .agg #[.int .i64 id, u]] w fun e w' => e = .returned (.bool true) ∧ Below w.heap.size w w' := by
  have H := Lib.hid (fun w h g => eqIntS_same v u xs w h g hn)
  have HV := Lib.hid h
  have HU := Lib.hid g
  clear h g hn
  have hid0 : (id == id) = true := by simp
  go_enter Try.func54, Try.ntmps54
  go_wp2_with fail
  have hb : Below w.heap.size w ((w.alloc (.cells #[.int .i64 id, v] 76)).alloc (.cells #[.int .i64 id, u] 76)) := ((Below.refl _ w).alloc (Nat.le_refl _) _).alloc (by simp) _
  refine (H.out _ (ints_below HV.out hb) (ints_below HU.out hb)).mono ?_
  rintro e w1 ⟨rfl, b1⟩
  have b2 := hb.trans (b1.mono hb.size)
  clear hb b1
  go_wp2
  go_ret
  exact ⟨rfl, b2⟩
set_option maxHeartbeats 2000000 in
set_option maxRecDepth 100000 in
theorem specIsRow (id : Int) (vv : Value) (xs : List Int) (w : World) (h : Ints w vv xs) (hn : xs.length ≤ 1048576) :
    Calls Try.prog 99 #[.agg #[.int .i64 id, vv]] w fun e w' => e = .returned (.bool (rowB (id, xs))) ∧ Below w.heap.size w w' := by
  have H := Lib.hid h
  obtain ⟨a, cap, rfl⟩ := ints_len h
  clear h
  go_enter Try.func99, Try.ntmps99
  go_wp2
  have hb0 : Below w.heap.size w (w.alloc (.cells #[.int .i64 id, .slice a xs.length cap] 76)) := (Below.refl _ w).alloc (Nat.le_refl _) _
  have hc0 : (w.alloc (.cells #[.int .i64 id, .slice a xs.length cap] 76)).heap[w.heap.size]? = some (.cells #[.int .i64 id, .slice a xs.length cap] 76 (0, 0)) := heap_alloc_new w _
  have d0 := (cell_of_row _ _ 0 _ _ _ hc0).trans (show _ = some (Value.int .i64 id) from rfl)
  have d1 := (cell_of_row _ _ 1 _ _ _ hc0).trans (show _ = some (Value.slice a xs.length cap) from rfl)
  have H1 := Lib.hid (ints_below H.out hb0)
  have hlt1 : w.heap.size < (w.alloc (.cells #[.int .i64 id, .slice a xs.length cap] 76)).heap.size := by simp [World.size_alloc]
  generalize w.alloc (.cells #[.int .i64 id, .slice a xs.length cap] 76) = W at *
  clear hc0
  go_loopw [3] (fun i wr => ∃ k : Nat, k ≤ xs.length ∧ i = .int .i64 k ∧ Hid (∀ j, j < k → 0 ≤ xs.getD j 0 ∧ xs.getD j 0 ≤ 99) ∧ Below W.heap.size W wr) (fun i _ => xs.length - (intOf i).toNat)
  case atStart => exact ⟨0, Nat.zero_le _, rfl, Lib.hid (fun j hj => by omega), Below.refl _ _⟩
  case round =>
    obtain ⟨k, hk, rfl, hall, hbel⟩ := hrel
    have c0 := (hbel.cell (p := ⟨w.heap.size, 0, none⟩) hlt1).trans d0
    have c1 := (hbel.cell (p := ⟨w.heap.size, 1, none⟩) hlt1).trans d1
    by_cases hlt : k < xs.length
    · obtain ⟨b, off, cap', hv, hbl, hc⟩ := ints_cell H1.out (by omega)
      simp only [Value.slice.injEq] at hv
      obtain ⟨rfl, _, rfl⟩ := hv
      have hcell := (hbel.cell (p := ⟨b, off + k, none⟩) hbl).trans (hc k hlt)
      have i1 : (0 : Int) ≤ (k : Int) := by omega
      have i2 : (k : Int) < (xs.length : Int) := by omega
      clear hc
      by_cases hr : 0 ≤ xs.getD k 0 ∧ xs.getD k 0 ≤ 99
      · have HA : Hid (∀ j, j < k + 1 → 0 ≤ xs.getD j 0 ∧ xs.getD j 0 ≤ 99) := Lib.hid (fun j hj => by
          by_cases e : j = k
          · exact e ▸ hr
          · exact hall.out j (by omega))
        have HI := Lib.hid (fun w => in_yes (xs.getD k 0) 0 99 w hr.1 hr.2)
        clear hr hall
        generalize xs.getD k 0 = y at *
        go_wp2_with fail
        refine (HI.out _).mono ?_
        rintro e wx ⟨rfl, rfl⟩
        go_wp2
        go_roundw
        case rel => exact ⟨k + 1, by omega, by go_num, HA, hbel⟩
        case measure => simp [intOf]; omega
      · have HF := Lib.hid (rowB_bad (id := id) hlt hr)
        have HI := Lib.hid (fun w => in_no (xs.getD k 0) 0 99 w hr)
        clear hr hall
        generalize xs.getD k 0 = y at *
        go_wp2_with fail
        refine (HI.out _).mono ?_
        rintro e wx ⟨rfl, rfl⟩
        go_wp2
        go_ret
        exact ⟨ret_b HF.out.symm, hb0.trans (hbel.mono hb0.size)⟩
    · obtain rfl : k = xs.length := by omega
      have HF := Lib.hid (rowB_all (id := id) hall.out)
      clear hall
      by_cases hr : 0 ≤ id ∧ id ≤ 999
      · have HI := Lib.hid (fun w => in_yes id 0 999 w hr.1 hr.2)
        have HD := Lib.hid (decide_eq_true hr)
        rw [HD.out] at HF
        clear hr HD
        go_wp2_with fail
        refine (HI.out _).mono ?_
        rintro e wx ⟨rfl, rfl⟩
        by_cases h3 : xs.length = 3
        · have h3' : ((xs.length : Int) == 3) = true := by rw [beq_iff_eq]; omega
          have HE : Hid (rowB (id, xs) = true) := Lib.hid (by rw [HF.out, decide_eq_true h3]; rfl)
          clear h3
          go_wp2
          go_ret
          exact ⟨ret_b HE.out.symm, hb0.trans (hbel.mono hb0.size)⟩
        · have h3' : ((xs.length : Int) == 3) = false := by rw [beq_eq_false_iff_ne]; omega
          have HE : Hid (rowB (id, xs) = false) := Lib.hid (by rw [HF.out, decide_eq_false h3]; rfl)
          clear h3
          go_wp2
          go_ret
          exact ⟨ret_b HE.out.symm, hb0.trans (hbel.mono hb0.size)⟩
      · have HI := Lib.hid (fun w => in_no id 0 999 w hr)
        have HE : Hid (rowB (id, xs) = false) := Lib.hid (by rw [HF.out, decide_eq_false hr]; rfl)
        clear hr HF
        go_wp2_with fail
        refine (HI.out _).mono ?_
        rintro e wx ⟨rfl, rfl⟩
        go_wp2
        go_ret
        exact ⟨ret_b HE.out.symm, hb0.trans (hbel.mono hb0.size)⟩
end Go.Proofs.Ytginjmnohnidiaa
