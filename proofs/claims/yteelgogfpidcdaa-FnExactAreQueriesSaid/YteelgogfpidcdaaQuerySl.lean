/-
  Slices of queries: one that reads as queries; the helper of the laws that measures them.
-/
import Derived.Test.YteelgogfpidcdaaQuerySpec
namespace Go.Proofs.Yteelgogfpidcdaa
open Go.RowKit
set_option linter.unusedVariables false
set_option linter.unusedSimpArgs false
/-- A query's data: number, tenant, conditions, fields. -/
abbrev QD := Int × Int × List CondD × List Int
def q0D : QD := (0, 0, [], [])
/-- The slice v reads as the queries qs. -/
def QueriesR (w : World) (v : Value) (qs : List QD) : Prop :=
  (qs = [] ∧ ∃ a cap, v = .slice a 0 cap) ∨ ∃ (b off cap : Nat) (vs us : Nat → Value), v = .slice (some ⟨b, off, none⟩) qs.length cap ∧ qs.length ≤ cap ∧ b < w.heap.size ∧
    ∀ j, j < qs.length → w.cell? ⟨b, off + j * 4, none⟩ = some (.int .i64 (qs.getD j q0D).1) ∧ w.cell? ⟨b, off + j * 4 + 1, none⟩ = some (.int .i64 (qs.getD j q0D).2.1) ∧ w.cell? ⟨b, off + j * 4 + 2, none⟩ = some (vs j) ∧ w.cell? ⟨b, off + j * 4 + 3, none⟩ = some (us j) ∧
      CondsR w (vs j) (qs.getD j q0D).2.2.1 ∧ Ints w (us j) (qs.getD j q0D).2.2.2
theorem queriesR_len {w : World} {v : Value} {qs : List QD} (h : QueriesR w v qs) : ∃ a cap, v = .slice a qs.length cap := by
  rcases h with ⟨rfl, a, cap, rfl⟩ | ⟨b, off, cap, vs, us, rfl, _⟩
  · exact ⟨a, cap, rfl⟩
  · exact ⟨_, cap, rfl⟩
theorem queriesR_below {W w : World} {v : Value} {qs : List QD} (h : QueriesR W v qs) (hb : Below W.heap.size W w) : QueriesR w v qs := by
  rcases h with h | ⟨b, off, cap, vs, us, h1, h2, h3, h4⟩
  · exact Or.inl h
  · refine Or.inr ⟨b, off, cap, vs, us, h1, h2, Nat.lt_of_lt_of_le h3 hb.size, fun j hj => ?_⟩
    obtain ⟨g1, g2, g3, g4, g5, g6⟩ := h4 j hj
    exact ⟨(hb.cell (p := ⟨b, off + j * 4, none⟩) h3).trans g1, (hb.cell (p := ⟨b, off + j * 4 + 1, none⟩) h3).trans g2, (hb.cell (p := ⟨b, off + j * 4 + 2, none⟩) h3).trans g3, (hb.cell (p := ⟨b, off + j * 4 + 3, none⟩) h3).trans g4, condsR_below g5 hb, ints_below g6 hb⟩
theorem queriesR_at {w : World} {v : Value} {qs : List QD} (h : QueriesR w v qs) {k : Nat} (hk : k < qs.length) : ∃ (b off cap : Nat) (cv ov : Value), v = .slice (some ⟨b, off, none⟩) qs.length cap ∧ b < w.heap.size ∧
    w.cell? ⟨b, off + k * 4, none⟩ = some (.int .i64 (qs.getD k q0D).1) ∧ w.cell? ⟨b, off + k * 4 + 1, none⟩ = some (.int .i64 (qs.getD k q0D).2.1) ∧ w.cell? ⟨b, off + k * 4 + 2, none⟩ = some cv ∧ w.cell? ⟨b, off + k * 4 + 3, none⟩ = some ov ∧
    CondsR w cv (qs.getD k q0D).2.2.1 ∧ Ints w ov (qs.getD k q0D).2.2.2 := by
  rcases h with ⟨rfl, _⟩ | ⟨b, off, cap, vs, us, h1, h2, h3, h4⟩
  · simp at hk
  · obtain ⟨g1, g2, g3, g4, g5, g6⟩ := h4 k hk
    exact ⟨b, off, cap, vs k, us k, h1, h3, g1, g2, g3, g4, g5, g6⟩
/-- How many conditions, fields and elements the first k queries hold. -/
def szQTo (qs : List QD) (k : Nat) : Nat := qs.length + ((qs.take k).map fun q => q.2.2.1.length + q.2.2.2.length).sum
def szQL (qs : List QD) : Nat := szQTo qs qs.length
theorem szQTo_zero (qs : List QD) : szQTo qs 0 = qs.length := by simp [szQTo]
theorem szQTo_step {qs : List QD} {k : Nat} (hk : k < qs.length) : szQTo qs (k + 1) = szQTo qs k + ((qs.getD k q0D).2.2.1.length + (qs.getD k q0D).2.2.2.length) := by
  unfold szQTo
  have e : qs.getD k q0D = qs[k] := by simp [List.getD, hk]
  rw [e, List.take_succ_eq_append_getElem hk, List.map_append, List.sum_append]
  simp; omega
theorem szQTo_le {qs : List QD} {k : Nat} (hk : k ≤ qs.length) : szQTo qs k ≤ szQL qs := by
  unfold szQL szQTo
  have h2 : (qs.map fun q : QD => q.2.2.1.length + q.2.2.2.length).sum = ((qs.take k).map fun q => q.2.2.1.length + q.2.2.2.length).sum + ((qs.drop k).map fun q => q.2.2.1.length + q.2.2.2.length).sum := by
    rw [← List.sum_append, ← List.map_append, List.take_append_drop]
  rw [List.take_length, h2]
  omega
theorem szQL_at {qs : List QD} (hs : szQL qs ≤ 1048576) {k : Nat} (hk : k < qs.length) : (qs.getD k q0D).2.2.1.length ≤ 1048576 ∧ (qs.getD k q0D).2.2.2.length ≤ 1048576 := by
  have h1 := szQTo_step hk
  have h2 := szQTo_le (qs := qs) (k := k + 1) (by omega)
  omega
theorem szQL_len {qs : List QD} (hs : szQL qs ≤ 1048576) : qs.length ≤ 1048576 := by
  have := szQTo_le (qs := qs) (Nat.zero_le _); rw [szQTo_zero] at this; omega
set_option maxHeartbeats 2000000 in
set_option maxRecDepth 100000 in
theorem szQueryS_yes (v : Value) (qs : List QD) (k0 : Int) (w : World) (h : QueriesR w v qs) (hs : (szQL qs : Int) ≤ k0) (hk : k0 ≤ 1048576) :
    Calls Try.prog 19 #[v, .int .i64 k0] w fun e w' => e = .returned (.int .i64 (k0 - (szQL qs : Int))) ∧ Below w.heap.size w w' := by
  have H := Lib.hid h
  obtain ⟨a, cap, rfl⟩ := queriesR_len h
  clear h
  have h00 := szQTo_le (qs := qs) (Nat.zero_le _)
  rw [szQTo_zero] at h00
  have HS := Lib.hid hs
  go_enter Try.func19, Try.ntmps19
  have hneg : ¬ k0 - (qs.length : Int) < 0 := by omega
  go_wp2
  clear hneg
  go_loopw [1, 5] (fun l i wr => ∃ k : Nat, k ≤ qs.length ∧ i = .int .i64 k ∧ l = .int .i64 (k0 - (szQTo qs k : Int)) ∧ Below w.heap.size w wr) (fun _ i _ => qs.length - (intOf i).toNat)
  case atStart => exact ⟨0, Nat.zero_le _, rfl, by rw [szQTo_zero], Below.refl _ _⟩
  case round =>
    obtain ⟨k, hk', rfl, rfl, hbel⟩ := hrel
    by_cases hlt : k < qs.length
    · obtain ⟨b, off, cap', cv, ov, hv, hbl, hc1, hc2, hc3, hc4, hC, hI⟩ := queriesR_at (queriesR_below H.out hbel) hlt
      simp only [Value.slice.injEq] at hv
      obtain ⟨rfl, _, rfl⟩ := hv
      have hst := szQTo_step hlt
      have hle := szQTo_le (qs := qs) (k := k + 1) (by omega)
      obtain ⟨va, vc, rfl⟩ := condsR_len hC
      obtain ⟨oa, oc, rfl⟩ := ints_len hI
      have HST := Lib.hid hst
      have HLE := Lib.hid hle
      have i1 : (0 : Int) ≤ (k : Int) := by omega
      have i2 : (k : Int) < (qs.length : Int) := by omega
      clear hst hle hI hC
      generalize qs.getD k q0D = q at *
      obtain ⟨id, tn, cs, os⟩ := q
      simp only at hc1 hc2 hc3 hc4 HST
      have HZ := Lib.hid (fun w => szQuery_yes id tn va oa vc oc cs.length os.length (k0 - (szQTo qs k : Int)) w (by have := HST.out; have := HLE.out; omega) (by omega))
      have hle2 : (szQTo qs k : Int) + ((cs.length : Int) + (os.length : Int)) ≤ (szQL qs : Int) := by have := HST.out; have := HLE.out; omega
      have hneg : ¬ k0 - (szQTo qs k : Int) - (cs.length : Int) - (os.length : Int) < 0 := by omega
      go_wp2_with fail
      refine (HZ.out _).mono ?_
      rintro e w1 ⟨rfl, b1⟩
      have b2 := hbel.trans (b1.mono hbel.size)
      go_wp2
      go_roundw
      case rel => exact ⟨k + 1, by omega, by go_num, by rw [HST.out]; go_num, b2⟩
      case measure => simp [intOf]; omega
    · obtain rfl : k = qs.length := by omega
      go_wp2
      go_ret
      exact ⟨rfl, hbel⟩
set_option maxHeartbeats 2000000 in
set_option maxRecDepth 100000 in
theorem szQueryS_no (v : Value) (qs : List QD) (k0 : Int) (w : World) (h : QueriesR w v qs) (hs : k0 < (szQL qs : Int)) (hk0 : 0 ≤ k0) (hk : k0 ≤ 1048576) (hn : (qs.length : Int) ≤ 9223372036854775807) (hx : ∀ j, j < qs.length → ((qs.getD j q0D).2.2.1.length : Int) ≤ 9223372036854775807) (hy : ∀ j, j < qs.length → ((qs.getD j q0D).2.2.2.length : Int) ≤ 9223372036854775807) :
    Calls Try.prog 19 #[v, .int .i64 k0] w fun e w' => e = .returned (.int .i64 (-1)) ∧ Below w.heap.size w w' := by
  have H := Lib.hid h
  have HX := Lib.hid hx
  have HY := Lib.hid hy
  have HS := Lib.hid hs
  obtain ⟨a, cap, rfl⟩ := queriesR_len h
  clear h hx hy hs
  by_cases h1 : k0 < (qs.length : Int)
  · have hneg : k0 - (qs.length : Int) < 0 := by omega
    go_enter Try.func19, Try.ntmps19
    go_wp2
    go_ret
    exact ⟨rfl, Below.refl _ _⟩
  · go_enter Try.func19, Try.ntmps19
    have hneg : ¬ k0 - (qs.length : Int) < 0 := by omega
    go_wp2
    clear hneg
    go_loopw [1, 5] (fun l i wr => ∃ k : Nat, k ≤ qs.length ∧ i = .int .i64 k ∧ l = .int .i64 (k0 - (szQTo qs k : Int)) ∧ (szQTo qs k : Int) ≤ k0 ∧ Below w.heap.size w wr) (fun _ i _ => qs.length - (intOf i).toNat)
    case atStart => exact ⟨0, Nat.zero_le _, rfl, by rw [szQTo_zero], by rw [szQTo_zero]; omega, Below.refl _ _⟩
    case round =>
      obtain ⟨k, hk', rfl, rfl, hle, hbel⟩ := hrel
      by_cases hlt : k < qs.length
      · obtain ⟨b, off, cap', cv, ov, hv, hbl, hc1, hc2, hc3, hc4, hC, hI⟩ := queriesR_at (queriesR_below H.out hbel) hlt
        simp only [Value.slice.injEq] at hv
        obtain ⟨rfl, _, rfl⟩ := hv
        have HST := Lib.hid (szQTo_step hlt)
        have hx := HX.out k hlt
        have hy := HY.out k hlt
        obtain ⟨va, vc, rfl⟩ := condsR_len hC
        obtain ⟨oa, oc, rfl⟩ := ints_len hI
        have i1 : (0 : Int) ≤ (k : Int) := by omega
        have i2 : (k : Int) < (qs.length : Int) := by omega
        clear hI hC
        generalize qs.getD k q0D = q at *
        obtain ⟨id, tn, cs, os⟩ := q
        simp only at hc1 hc2 hc3 hc4 HST hx hy
        have hz0 : (0 : Int) ≤ (szQTo qs k : Int) := by omega
        by_cases hg : (szQTo qs k : Int) + ((cs.length : Int) + (os.length : Int)) ≤ k0
        · have HZ := Lib.hid (fun w => szQuery_yes id tn va oa vc oc cs.length os.length (k0 - (szQTo qs k : Int)) w (by omega) (by omega))
          have hneg : ¬ k0 - (szQTo qs k : Int) - (cs.length : Int) - (os.length : Int) < 0 := by omega
          go_wp2_with fail
          refine (HZ.out _).mono ?_
          rintro e w1 ⟨rfl, b1⟩
          have b2 := hbel.trans (b1.mono hbel.size)
          go_wp2
          go_roundw
          case rel => exact ⟨k + 1, by omega, by go_num, by rw [HST.out]; go_num, by rw [HST.out]; push_cast; exact hg, b2⟩
          case measure => simp [intOf]; omega
        · have HZ := Lib.hid (fun w => szQuery_no id tn va oa vc oc cs.length os.length (k0 - (szQTo qs k : Int)) w (by omega) (by omega) (by omega) hx hy)
          go_wp2_with fail
          refine (HZ.out _).mono ?_
          rintro e w1 ⟨rfl, b1⟩
          have b2 := hbel.trans (b1.mono hbel.size)
          go_wp2
          go_ret
          exact ⟨rfl, b2⟩
      · obtain rfl : k = qs.length := by omega
        exfalso
        have := HS.out
        unfold szQL at this
        omega
end Go.Proofs.Yteelgogfpidcdaa
