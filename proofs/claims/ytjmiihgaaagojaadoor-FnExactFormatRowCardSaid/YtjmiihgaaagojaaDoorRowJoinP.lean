/-
  The program's text of a list of three numbers.
-/
import Derived.Test.YtjmiihgaaagojaaDoorRowFmt
import Derived.Test.YtjmiihgaaagojaaDoorStrs
import Derived.Test.YtjmiihgaaagojaaDoorRowIsP
namespace Go.Proofs.YtjmiihgaaagojaaDoor
open Go.RowKit
set_option linter.unusedVariables false
set_option linter.unusedSimpArgs false
/-- The text of one number. -/
def txt (n : Int) : ByteArray := strB (Lib.itoa n)
theorem texts_step (xs : List Int) (k : Nat) (h : k < xs.length) : ((xs.take k).map txt ++ List.replicate (xs.length - k) (⟨#[]⟩ : ByteArray)).set k (txt (xs.getD k 0)) = (xs.take (k + 1)).map txt ++ List.replicate (xs.length - (k + 1)) (⟨#[]⟩ : ByteArray) := by
  have hk : ((xs.take k).map txt).length = k := by rw [List.length_map, List.length_take]; omega
  rw [List.set_append_right _ _ (by omega), hk, Nat.sub_self, show xs.length - k = (xs.length - (k + 1)) + 1 by omega, List.replicate_succ, List.set_cons_zero, List.take_succ_eq_append_getElem h, List.map_append, List.append_assoc]
  simp [List.getD, h]
theorem join_three {xs : List Int} (h : xs.length = 3) : Lib.join ((xs.map txt).map (·.data.toList)) (⟨#[44]⟩ : ByteArray).data.toList = listTo xs xs.length := by
  match xs, h with
  | [a, b, c], _ => simp [txt, strB, listTo, Lib.join, Lib.joinTail]
theorem fmtP (n : Int) (w : World) (h0 : 0 ≤ n) (h1 : n ≤ 999) (hT : Tab w) : Calls Tryd.prog 20 #[.int .i64 n] w fun e w' => e = .returned (.string (txt n)) ∧ Below w.heap.size w w' := implFmt n w (by omega) (by omega) hT
set_option maxHeartbeats 8000000 in
set_option maxRecDepth 100000 in
theorem joinInts_any (v : Value) (xs : List Int) (w : World) (h : Ints w v xs) (hl : xs.length = 3) (hr : ∀ j, j < xs.length → 0 ≤ xs.getD j 0 ∧ xs.getD j 0 ≤ 999) (hT : Tab w) (ht : (listTo xs xs.length).length ≤ 1000) :
    Calls Tryd.prog 21 #[v] w fun e w' => e = .returned (.string (strB (listTo xs xs.length))) ∧ Below w.heap.size w w' := by
  obtain ⟨i0, hi, hz0, hz1, hz2⟩ := info_parts Tryd.infoStr
  have HI := Lib.hid hi; have HZ0 := Lib.hid hz0; have HZ1 := Lib.hid hz1; have HZ2 := Lib.hid hz2
  clear hi hz0 hz1 hz2
  have H := Lib.hid h
  have HR := Lib.hid hr
  have HT := Lib.hid hT
  have HL := Lib.hid hl
  have HJ0 := Lib.hid (join_three hl)
  have HTL := Lib.hid ht
  obtain ⟨t, htx⟩ : ∃ t, listTo xs xs.length = t := ⟨_, rfl⟩
  rw [htx] at HJ0 HTL ⊢
  clear htx
  obtain ⟨a, cap, rfl⟩ := ints_len h
  clear h hr hT hl ht
  go_enter Tryd.func21, Tryd.ntmps21
  go_wp2_with (at_make; refine wpList_make_full _ rfl (.tmp 7) (.tmp 7) 41 rfl w.heap.size 9 i0 (.string ⟨#[]⟩) 1 Tryd.underlying41 HI.out HZ0.out HZ1.out _ _ _ _ xs.length rfl rfl rfl rfl (by rw [HZ2.out]; have := HL.out; omega) (by have := HL.out; unfold maxLen; omega) (Nat.le_refl _) ?_)
  intro w1 hown0 hg0
  have hown1 := ownsS_made (by simpa using hown0)
  have hbel1 := (Below.refl w.heap.size w).grown hg0 (Nat.le_refl _) (fun k hk => by cases hk)
  clear hown0 hg0
  go_wp2
  go_loopw [11] (fun i wr => ∃ k : Nat, k ≤ xs.length ∧ i = .int .i64 k ∧ OwnsS wr w.heap.size (.slice (some ⟨w.heap.size, 0, none⟩) xs.length xs.length) ((xs.take k).map txt ++ List.replicate (xs.length - k) (⟨#[]⟩ : ByteArray)) ∧ Below w.heap.size w wr) (fun i _ => xs.length - (intOf i).toNat)
  case atStart => exact ⟨0, Nat.zero_le _, rfl, by simpa using hown1, hbel1⟩
  case round =>
    obtain ⟨k, hk, rfl, hown, hbel⟩ := hrel
    clear hown1 hbel1
    by_cases hlt : k < xs.length
    · obtain ⟨b, off, cap', hv, hbl, hc⟩ := ints_cell H.out (by omega)
      simp only [Value.slice.injEq] at hv
      obtain ⟨rfl, _, rfl⟩ := hv
      have hcell := (hbel.cell (p := ⟨b, off + k, none⟩) hbl).trans (hc k hlt)
      have i1 : (0 : Int) ≤ (k : Int) := by omega
      have i2 : (k : Int) < (xs.length : Int) := by omega
      have i3 : k < 4 := by have := HL.out; omega
      have hx := HR.out k hlt
      have HSET := Lib.hid (texts_step xs k hlt)
      have HF := Lib.hid (fun w h => fmtP (xs.getD k 0) w hx.1 hx.2 h)
      have HLL : Hid (((xs.take k).map txt ++ List.replicate (xs.length - k) (⟨#[]⟩ : ByteArray)).length = xs.length) := Lib.hid (by simp; omega)
      clear hc hx
      generalize xs.getD k 0 = x at *
      generalize txt x = tx at *
      generalize (xs.take k).map txt ++ List.replicate (xs.length - k) (⟨#[]⟩ : ByteArray) = us at *
      go_wp2_with fail
      refine (HF.out _ (HT.out.on hbel)).mono ?_
      rintro e w2 ⟨rfl, b2⟩
      have ho := ownsS_below hown b2
      have hst := Lib.hid (ownsS_store ho k tx)
      rw [HSET.out] at hst
      have b3 := hbel.trans (b2.mono hbel.size)
      have B3 := b3.setCell (p := ⟨w.heap.size, k, none⟩) (Nat.le_refl _) (.string tx)
      obtain ⟨q0, q1⟩ : (∃ x, w2.cell? ⟨w.heap.size, k, none⟩ = some x) ∧ w2.frozen? ⟨w.heap.size, k, none⟩ = false :=
        ⟨⟨_, ownsS_cell ho (List.getElem?_eq_getElem (by have := HLL.out; omega))⟩, ownsS_frozen ho k⟩
      obtain ⟨x0, q0⟩ := q0
      clear hown hbel b2 ho hcell
      go_wp2
      go_roundw
      case rel => exact ⟨k + 1, by omega, by go_num, hst.out, B3⟩
      case measure => simp [intOf]; omega
    · obtain rfl : k = xs.length := by omega
      have HE : Hid ((xs.take xs.length).map txt ++ List.replicate (xs.length - xs.length) (⟨#[]⟩ : ByteArray) = xs.map txt) := Lib.hid (by simp)
      rw [HE.out] at hown
      have hB := hbel.size
      have hl3 : (xs.map txt).length = xs.length := List.length_map txt
      have HJ := Lib.hid (Tryd.strings_Join w.heap.size 0 xs.length (xs.map txt) ⟨#[44]⟩ wr (fun j x hx => by
        have := ownsS_cell hown hx
        rw [Nat.zero_add]; exact this) (ownsS_ge hown).2 (by have := HL.out; omega) (by omega) (by rw [HJ0.out]; have := HTL.out; omega))
      rw [HJ0.out, hl3] at HJ
      clear hown HE hl3
      go_wp2_with fail
      refine HJ.out.mono ?_
      rintro e w5 ⟨rfl, b5⟩
      have b6 := hbel.trans (b5.mono hB)
      clear b5 hbel
      go_wp2
      go_ret
      exact ⟨rfl, b6⟩
end Go.Proofs.YtjmiihgaaagojaaDoor
