/-
  The helpers of the laws on slices of rows: copying and comparing them.
-/
import Derived.Test.YtginjmnohnidiaaRowOwn
import Derived.Test.YtginjmnohnidiaaRowLaw1
namespace Go.Proofs.Ytginjmnohnidiaa
open Go.RowKit
set_option linter.unusedVariables false
/-- A slice of rows in new memory is answered. -/
def FreshRows (w : World) (rs : List RowD) (e : Ending) (w' : World) : Prop := ∃ v, e = .returned v ∧ OwnsR w' w.heap.size v rs ∧ Below w.heap.size w w'
theorem rows_copied (rs : List RowD) (k : Nat) (h : k < rs.length) : (rs.take k ++ List.replicate (rs.length - k) (0, [])).set k (rs.getD k (0, [])) = rs.take (k + 1) ++ List.replicate (rs.length - (k + 1)) (0, []) := by
  have hk : (rs.take k).length = k := by rw [List.length_take]; omega
  rw [List.set_append_right _ _ (by omega), hk, Nat.sub_self, show rs.length - k = (rs.length - (k + 1)) + 1 by omega, List.replicate_succ, List.set_cons_zero, List.take_succ_eq_append_getElem h, List.append_assoc]
  simp [List.getD, h]
set_option maxHeartbeats 4000000 in
set_option maxRecDepth 100000 in
theorem toRowS_any (v : Value) (rs : List RowD) (w : World) (h : RowsR w v rs) (hs : szL rs ≤ 1048576) :
    Calls Try.prog 14 #[v] w (FreshRows w rs) := by
  obtain ⟨i0, hi, hz0, hz1⟩ : ∃ i, Try.prog.info? 76 = some i ∧ i.zero = some (.agg #[.int .i64 0, .slice none 0 0]) ∧ i.size = 2 := by
    have := Try.infoRow
    cases e : Try.prog.info? 76 with
    | none => rw [e] at this; simp at this
    | some i => rw [e] at this; simp at this; exact ⟨i, rfl, this.1, this.2⟩
  have hz2 : i0.bytes = 32 := by
    have := row_bytes
    rw [hi] at this; simpa using this
  have HI := Lib.hid hi; have HZ0 := Lib.hid hz0; have HZ1 := Lib.hid hz1; have HZ2 := Lib.hid hz2
  clear hi hz0 hz1 hz2
  have H := Lib.hid h
  have hlen : rs.length ≤ 1048576 := by have := szTo_le (rs := rs) (Nat.zero_le _); rw [szTo_zero] at this; omega
  have HS := Lib.hid hs
  obtain ⟨a, cap, rfl⟩ := rowsR_len h
  clear h hs
  go_enter Try.func14, Try.ntmps14
  go_wp2_with (at_make; refine wpList_make_full _ rfl (.tmp 6) (.tmp 6) 24 rfl w.heap.size 76 i0 (.agg #[.int .i64 0, .slice none 0 0]) 2 Try.underlying24 HI.out HZ0.out HZ1.out _ _ _ _ rs.length rfl rfl rfl rfl (by rw [HZ2.out]; omega) (by unfold maxLen; omega) (Nat.le_refl _) ?_)
  intro w1 hown0 hg0
  have hown1 := ownsR_made hown0
  have hbel1 := (Below.refl w.heap.size w).grown hg0 (Nat.le_refl _) (fun k hk => by cases hk)
  clear hown0 hg0
  go_wp2
  go_loopw [4] (fun i wr => ∃ k : Nat, k ≤ rs.length ∧ i = .int .i64 k ∧ OwnsR wr w.heap.size (.slice (some ⟨w.heap.size, 0, none⟩) rs.length rs.length) (rs.take k ++ List.replicate (rs.length - k) (0, [])) ∧ Below w.heap.size w wr) (fun i _ => rs.length - (intOf i).toNat)
  case atStart => exact ⟨0, Nat.zero_le _, rfl, by simpa using hown1, hbel1⟩
  case round =>
    obtain ⟨k, hk, rfl, hown, hbel⟩ := hrel
    by_cases hlt : k < rs.length
    · obtain ⟨b, off, cap', vv, hv, hbl, hc1, hc2, hI⟩ := rowsR_at (rowsR_below H.out hbel) hlt
      simp only [Value.slice.injEq] at hv
      obtain ⟨rfl, _, rfl⟩ := hv
      have hxl : (rs.getD k (0, [])).2.length ≤ 1048576 := by
        have h1 := szTo_step hlt
        have h2 := szTo_le (rs := rs) (k := k + 1) (by omega)
        have := HS.out
        omega
      have hset := rows_copied rs k hlt
      have hkl : k < (rs.take k ++ List.replicate (rs.length - k) ((0, []) : RowD)).length := by simp; omega
      have i1 : (0 : Int) ≤ (k : Int) := by omega
      have i2 : (k : Int) < (rs.length : Int) := by omega
      have HSET := Lib.hid hset
      have HKL := Lib.hid hkl
      clear hset hkl hown1 hbel1
      generalize rs.getD k (0, []) = r at *
      obtain ⟨id, xs⟩ := r
      simp only at hc1 hc2 hI hxl
      go_wp2_with fail
      refine (toRow_any id vv xs _ hI hxl).mono ?_
      rintro e w2 ⟨uv, rfl, ou, b2⟩
      have hst := Lib.hid (ownsR_store hown b2 hbel.size HKL.out (id, xs) ou)
      rw [HSET.out] at hst
      have b3 := hbel.trans (b2.mono hbel.size)
      have hg : w.heap.size < w2.heap.size := by
        obtain ⟨cs, vs, h1, _⟩ := hown
        have := (h1.lt w.heap.size rfl).2
        have := b2.size
        omega
      obtain ⟨ua, uc, rfl⟩ := ints_len (ownsN_ints ou)
      obtain ⟨q0, q1, f0, f1⟩ : (∃ x, w2.cell? ⟨w.heap.size, k * 2, none⟩ = some x) ∧ (∃ x, w2.cell? ⟨w.heap.size, k * 2 + 1, none⟩ = some x) ∧ w2.frozen? ⟨w.heap.size, k * 2, none⟩ = false ∧ w2.frozen? ⟨w.heap.size, k * 2 + 1, none⟩ = false := by
        obtain ⟨cs, vs, h1, h2, _⟩ := ownsR_below hown b2
        have hl0 : (rs.take k ++ List.replicate (rs.length - k) ((0, []) : RowD)).length = rs.length := by simp; omega
        rw [hl0] at h1 h2
        obtain ⟨g1, g2, _, _⟩ := h2 k hlt
        exact ⟨⟨_, (World.ownsRow.cellAt h1 (k * 2) (by omega)).trans g1⟩, ⟨_, (World.ownsRow.cellAt h1 (k * 2 + 1) (by omega)).trans g2⟩, World.ownsRow.frozenAt h1 _, World.ownsRow.frozenAt h1 _⟩
      obtain ⟨x0, q0⟩ := q0
      obtain ⟨x1, q1⟩ := q1
      have B3 := (b3.setCell (p := ⟨w.heap.size, k * 2, none⟩) (Nat.le_refl _) (.int .i64 id)).setCell (p := ⟨w.heap.size, k * 2 + 1, none⟩) (Nat.le_refl _) (.slice ua xs.length uc)
      clear hown hbel b2 ou hc1 hc2 hI
      go_wp2
      go_roundw
      case rel => exact ⟨k + 1, by omega, by go_num, hst.out, B3⟩
      case measure => simp [intOf]; omega
    · obtain rfl : k = rs.length := by omega
      have HE : Hid (rs.take rs.length ++ List.replicate (rs.length - rs.length) ((0, []) : RowD) = rs) := Lib.hid (by simp)
      rw [HE.out] at hown
      go_wp2
      go_ret
      exact ⟨_, rfl, hown, hbel⟩
end Go.Proofs.Ytginjmnohnidiaa
