/-
  Slices of rows: one that reads as rows; the helpers of the laws that measure, copy and compare them.
-/
import Derived.Test.YtginjmnohnidiaaRowSpec
namespace Go.Proofs.Ytginjmnohnidiaa
open Go.RowKit
set_option linter.unusedVariables false
/-- The slice v reads as the rows rs; vs: where their values lie. -/
def RowsR (w : World) (v : Value) (rs : List RowD) : Prop :=
  (rs = [] ∧ ∃ a cap, v = .slice a 0 cap) ∨ ∃ (b off cap : Nat) (vs : Nat → Value), v = .slice (some ⟨b, off, none⟩) rs.length cap ∧ rs.length ≤ cap ∧ b < w.heap.size ∧
    ∀ j, j < rs.length → w.cell? ⟨b, off + j * 2, none⟩ = some (.int .i64 (rs.getD j (0, [])).1) ∧ w.cell? ⟨b, off + j * 2 + 1, none⟩ = some (vs j) ∧ Ints w (vs j) (rs.getD j (0, [])).2
theorem rowsR_len {w : World} {v : Value} {rs : List RowD} (h : RowsR w v rs) : ∃ a cap, v = .slice a rs.length cap := by
  rcases h with ⟨rfl, a, cap, rfl⟩ | ⟨b, off, cap, vs, rfl, _⟩
  · exact ⟨a, cap, rfl⟩
  · exact ⟨_, cap, rfl⟩
theorem rowsR_below {W w : World} {v : Value} {rs : List RowD} (h : RowsR W v rs) (hb : Below W.heap.size W w) : RowsR w v rs := by
  rcases h with h | ⟨b, off, cap, vs, h1, h2, h3, h4⟩
  · exact Or.inl h
  · refine Or.inr ⟨b, off, cap, vs, h1, h2, Nat.lt_of_lt_of_le h3 hb.size, fun j hj => ?_⟩
    obtain ⟨g1, g2, g3⟩ := h4 j hj
    exact ⟨(hb.cell (p := ⟨b, off + j * 2, none⟩) h3).trans g1, (hb.cell (p := ⟨b, off + j * 2 + 1, none⟩) h3).trans g2, ints_below g3 hb⟩
theorem rowsR_at {w : World} {v : Value} {rs : List RowD} (h : RowsR w v rs) {k : Nat} (hk : k < rs.length) : ∃ (b off cap : Nat) (vv : Value), v = .slice (some ⟨b, off, none⟩) rs.length cap ∧ b < w.heap.size ∧
    w.cell? ⟨b, off + k * 2, none⟩ = some (.int .i64 (rs.getD k (0, [])).1) ∧ w.cell? ⟨b, off + k * 2 + 1, none⟩ = some vv ∧ Ints w vv (rs.getD k (0, [])).2 := by
  rcases h with ⟨rfl, _⟩ | ⟨b, off, cap, vs, h1, h2, h3, h4⟩
  · simp at hk
  · obtain ⟨g1, g2, g3⟩ := h4 k hk
    exact ⟨b, off, cap, vs k, h1, h3, g1, g2, g3⟩
/-- How many values and elements the first k rows hold. -/
def szTo (rs : List RowD) (k : Nat) : Nat := rs.length + ((rs.take k).map fun r => r.2.length).sum
def szL (rs : List RowD) : Nat := szTo rs rs.length
theorem szTo_zero (rs : List RowD) : szTo rs 0 = rs.length := by simp [szTo]
theorem szTo_step {rs : List RowD} {k : Nat} (hk : k < rs.length) : szTo rs (k + 1) = szTo rs k + (rs.getD k (0, [])).2.length := by
  unfold szTo
  have e : rs.getD k (0, []) = rs[k] := by simp [List.getD, hk]
  rw [e, List.take_succ_eq_append_getElem hk, List.map_append, List.sum_append]
  simp; omega
theorem szTo_le {rs : List RowD} {k : Nat} (hk : k ≤ rs.length) : szTo rs k ≤ szL rs := by
  unfold szL szTo
  obtain ⟨d, hd⟩ : ∃ d, rs.length = k + d := ⟨rs.length - k, by omega⟩
  have : rs = rs.take k ++ rs.drop k := (List.take_append_drop k rs).symm
  have h2 : (rs.map fun r => r.2.length).sum = ((rs.take k).map fun r => r.2.length).sum + ((rs.drop k).map fun r => r.2.length).sum := by
    rw [← List.sum_append, ← List.map_append, List.take_append_drop]
  rw [List.take_length, h2]
  omega
set_option maxHeartbeats 2000000 in
set_option maxRecDepth 100000 in
theorem szRowS_yes (v : Value) (rs : List RowD) (k0 : Int) (w : World) (h : RowsR w v rs) (hs : (szL rs : Int) ≤ k0) (hk : k0 ≤ 1048576) :
    Calls Try.prog 12 #[v, .int .i64 k0] w fun e w' => e = .returned (.int .i64 (k0 - (szL rs : Int))) ∧ Below w.heap.size w w' := by
  have H := Lib.hid h
  obtain ⟨a, cap, rfl⟩ := rowsR_len h
  clear h
  have h00 := szTo_le (rs := rs) (Nat.zero_le _)
  rw [szTo_zero] at h00
  have HS := Lib.hid hs
  go_enter Try.func12, Try.ntmps12
  have hneg : ¬ k0 - (rs.length : Int) < 0 := by omega
  go_wp2
  clear hneg
  go_loopw [1, 5] (fun l i wr => ∃ k : Nat, k ≤ rs.length ∧ i = .int .i64 k ∧ l = .int .i64 (k0 - (szTo rs k : Int)) ∧ Below w.heap.size w wr) (fun _ i _ => rs.length - (intOf i).toNat)
  case atStart => exact ⟨0, Nat.zero_le _, rfl, by rw [szTo_zero], Below.refl _ _⟩
  case round =>
    obtain ⟨k, hk', rfl, rfl, hbel⟩ := hrel
    by_cases hlt : k < rs.length
    · obtain ⟨b, off, cap', vv, hv, hbl, hc1, hc2, hI⟩ := rowsR_at (rowsR_below H.out hbel) hlt
      simp only [Value.slice.injEq] at hv
      obtain ⟨rfl, _, rfl⟩ := hv
      have hst := szTo_step hlt
      have hle := szTo_le (rs := rs) (k := k + 1) (by omega)
      obtain ⟨va, vc, rfl⟩ := ints_len hI
      have HST := Lib.hid hst
      have HLE := Lib.hid hle
      have i1 : (0 : Int) ≤ (k : Int) := by omega
      have i2 : (k : Int) < (rs.length : Int) := by omega
      clear hst hle hI
      generalize rs.getD k (0, []) = r at *
      obtain ⟨id, xs⟩ := r
      simp only at hc1 hc2 HST
      have HZ := Lib.hid (fun w => szRow_yes id va vc xs.length (k0 - (szTo rs k : Int)) w (by have := HST.out; have := HLE.out; omega) (by omega))
      have hle2 : (szTo rs k : Int) + (xs.length : Int) ≤ (szL rs : Int) := by have := HST.out; have := HLE.out; omega
      have hneg : ¬ k0 - (szTo rs k : Int) - (xs.length : Int) < 0 := by omega
      go_wp2_with fail
      refine (HZ.out _).mono ?_
      rintro e w1 ⟨rfl, b1⟩
      have b2 := hbel.trans (b1.mono hbel.size)
      go_wp2
      go_roundw
      case rel => exact ⟨k + 1, by omega, by go_num, by rw [HST.out]; go_num, b2⟩
      case measure => simp [intOf]; omega
    · obtain rfl : k = rs.length := by omega
      go_wp2
      go_ret
      exact ⟨rfl, hbel⟩
set_option maxHeartbeats 2000000 in
set_option maxRecDepth 100000 in
theorem szRowS_no (v : Value) (rs : List RowD) (k0 : Int) (w : World) (h : RowsR w v rs) (hs : k0 < (szL rs : Int)) (hk0 : 0 ≤ k0) (hk : k0 ≤ 1048576) (hn : (rs.length : Int) ≤ 9223372036854775807) (hx : ∀ j, j < rs.length → ((rs.getD j (0, [])).2.length : Int) ≤ 9223372036854775807) :
    Calls Try.prog 12 #[v, .int .i64 k0] w fun e w' => e = .returned (.int .i64 (-1)) ∧ Below w.heap.size w w' := by
  have H := Lib.hid h
  have HX := Lib.hid hx
  have HS := Lib.hid hs
  obtain ⟨a, cap, rfl⟩ := rowsR_len h
  clear h hx hs
  by_cases h1 : k0 < (rs.length : Int)
  · have hneg : k0 - (rs.length : Int) < 0 := by omega
    go_enter Try.func12, Try.ntmps12
    go_wp2
    go_ret
    exact ⟨rfl, Below.refl _ _⟩
  · go_enter Try.func12, Try.ntmps12
    have hneg : ¬ k0 - (rs.length : Int) < 0 := by omega
    go_wp2
    clear hneg
    go_loopw [1, 5] (fun l i wr => ∃ k : Nat, k ≤ rs.length ∧ i = .int .i64 k ∧ l = .int .i64 (k0 - (szTo rs k : Int)) ∧ (szTo rs k : Int) ≤ k0 ∧ Below w.heap.size w wr) (fun _ i _ => rs.length - (intOf i).toNat)
    case atStart => exact ⟨0, Nat.zero_le _, rfl, by rw [szTo_zero], by rw [szTo_zero]; omega, Below.refl _ _⟩
    case round =>
      obtain ⟨k, hk', rfl, rfl, hle, hbel⟩ := hrel
      by_cases hlt : k < rs.length
      · obtain ⟨b, off, cap', vv, hv, hbl, hc1, hc2, hI⟩ := rowsR_at (rowsR_below H.out hbel) hlt
        simp only [Value.slice.injEq] at hv
        obtain ⟨rfl, _, rfl⟩ := hv
        have HST := Lib.hid (szTo_step hlt)
        have hx := HX.out k hlt
        obtain ⟨va, vc, rfl⟩ := ints_len hI
        have i1 : (0 : Int) ≤ (k : Int) := by omega
        have i2 : (k : Int) < (rs.length : Int) := by omega
        clear hI
        generalize rs.getD k (0, []) = r at *
        obtain ⟨id, xs⟩ := r
        simp only at hc1 hc2 HST hx
        have hz0 : (0 : Int) ≤ (szTo rs k : Int) := by omega
        by_cases hg : (szTo rs k : Int) + (xs.length : Int) ≤ k0
        · have HZ := Lib.hid (fun w => szRow_yes id va vc xs.length (k0 - (szTo rs k : Int)) w (by omega) (by omega))
          have hneg : ¬ k0 - (szTo rs k : Int) - (xs.length : Int) < 0 := by omega
          go_wp2_with fail
          refine (HZ.out _).mono ?_
          rintro e w1 ⟨rfl, b1⟩
          have b2 := hbel.trans (b1.mono hbel.size)
          go_wp2
          go_roundw
          case rel => exact ⟨k + 1, by omega, by go_num, by rw [HST.out]; go_num, by rw [HST.out]; push_cast; exact hg, b2⟩
          case measure => simp [intOf]; omega
        · have HZ := Lib.hid (fun w => szRow_no id va vc xs.length (k0 - (szTo rs k : Int)) w (by omega) (by omega) (by omega))
          go_wp2_with fail
          refine (HZ.out _).mono ?_
          rintro e w1 ⟨rfl, b1⟩
          have b2 := hbel.trans (b1.mono hbel.size)
          go_wp2
          go_ret
          exact ⟨rfl, b2⟩
      · obtain rfl : k = rs.length := by omega
        exfalso
        have := HS.out
        unfold szL at this
        omega
end Go.Proofs.Ytginjmnohnidiaa
