/-
  The two loops of DecodeHex: both return what 'decH' computes.
-/
import Derived.Test.YtanpmjmlglkopaaDoorDecHWalks
namespace Go.Proofs.YtanpmjmlglkopaaDoor
open Go.RowKit
set_option linter.unusedVariables false
theorem ret_decH {l : List UInt8} {xs : List Int} {b : Bool} (h : decH l = (xs, b)) : Ending.returned (.tuple #[.string (strOfNums xs), .bool b]) = .returned (.tuple #[.string (strOfNums (decH l).1), .bool (decH l).2]) := by rw [h]
theorem mem_at (s : ByteArray) (k : Nat) (h : k < s.size) : s[k] ∈ s.data.toList := by
  have : s.data.toList[k]'(by simpa using h) = s[k] := rfl
  rw [← this]; exact List.getElem_mem _
theorem digs_step (s : ByteArray) (m : Nat) (h : m < s.size) : digs (s.data.toList.take (m + 1)) = digs (s.data.toList.take m) ++ [hexI (s[m].toNat : Int)] := by
  rw [take_snoc s m h, digs_snoc]
theorem pack_step2 (s : ByteArray) (m : Nat) (h : m + 1 < s.size) (he : m % 2 = 0) : pack (digs (s.data.toList.take (m + 2))) = pack (digs (s.data.toList.take m)) ++ [16 * hexI (s[m].toNat : Int) + hexI (s[m + 1].toNat : Int)] := by
  rw [digs_step s (m + 1) h, digs_step s m (by omega), List.append_assoc]
  exact pack_pair _ _ _ (by rw [digs_length, List.length_take]; simp; omega)
theorem all_step {l : List Int} {a : Int} (h : ∀ x ∈ l, 0 ≤ x) (ha : 0 ≤ a) : ∀ x ∈ l ++ [a], 0 ≤ x := by
  intro x hx
  rcases List.mem_append.1 hx with h1 | h1
  · exact h x h1
  · simp at h1; omega
theorem take_all (s : ByteArray) : s.data.toList.take s.size = s.data.toList := List.take_of_length_le (by simp)
theorem impl_odd (s : ByteArray) (w : World) (h : s.size % 2 ≠ 0) :
    Calls Tryd.prog 16 #[.string s] w fun e w' => e = .returned (.tuple #[.string (strOfNums (decH s.data.toList).1), .bool (decH s.data.toList).2]) ∧ Below w.heap.size w w' := by
  have H := Lib.hid (decH_odd s.data.toList (by simpa using h))
  have hq : ((s.size : Int) % 2 != 0) = true := by rw [bne_iff_ne]; omega
  clear h
  go_enter Tryd.func16, Tryd.ntmps16
  go_wp2
  go_ret2
  exact ⟨ret_decH (xs := []) H.out, Below.refl _ _⟩
theorem packed_all (s : ByteArray) (h : s.size % 2 = 0) : packed (s.size / 2) (digs s.data.toList) = pack (digs s.data.toList) := by
  unfold packed
  rw [digs_length, show s.size / 2 - (s.data.toList.length + 1) / 2 = 0 by simp; omega]
  simp
theorem packed_nil (n : Nat) (l : List UInt8) : packed n (digs (l.take 0)) = List.replicate n 0 := by simp [packed, pack, digs]
theorem digs_small (l : List UInt8) (h : ∀ x ∈ digs l, 0 ≤ x) : ∀ x ∈ digs l, 0 ≤ x ∧ x < 16 := by
  intro x hx
  refine ⟨h x hx, ?_⟩
  obtain ⟨b, _, rfl⟩ := List.mem_map.1 hx
  exact (hexI_range _).2
set_option maxRecDepth 100000 in
theorem impl_even (s : ByteArray) (w : World) (hs : s.size ≤ 1048576) (h : s.size % 2 = 0) :
    Calls Tryd.prog 16 #[.string s] w fun e w' => e = .returned (.tuple #[.string (strOfNums (decH s.data.toList).1), .bool (decH s.data.toList).2]) ∧ Below w.heap.size w w' := by
  have hq : ((s.size : Int) % 2 != 0) = false := by rw [bne_eq_false_iff_eq]; omega
  have HE := Lib.hid h; clear h
  obtain ⟨i0, hi, hz0, hz1, hz2⟩ := info_parts Tryd.infoU8
  have HI := Lib.hid hi; have HZ0 := Lib.hid hz0; have HZ1 := Lib.hid hz1; have HZ2 := Lib.hid hz2
  clear hi hz0 hz1 hz2
  go_enter Tryd.func16, Tryd.ntmps16
  go_wp2_with (at_make; refine wpList_make_full _ rfl (.tmp 15) (.tmp 15) 22 rfl w.heap.size 5 i0 (.int .u8 0) 1 Tryd.underlying22 HI.out HZ0.out HZ1.out _ _ _ _ (s.size / 2) rfl rfl (by omega) (by omega) (by rw [HZ2.out]; omega) (by unfold maxLen; omega) (Nat.le_refl _) ?_)
  intro w1 hown0 hg0
  have hown1 := ownsB_made hown0
  have hbel1 := (Below.refl w.heap.size w).grown hg0 (Nat.le_refl _) (fun k hk => by cases hk)
  have hN := hbel1.size
  have hNb := (ownsB_ge hown1).2
  clear hown0 hg0 hq
  go_wp2
  go_loopw [5] (fun _ wr => ∃ p : Nat, p ≤ s.size ∧ Hid (wr.heap[w1.heap.size]? = some (.stringIter s p)) ∧ OwnsB wr w.heap.size (.slice (some ⟨w.heap.size, 0, none⟩) (s.size / 2) (s.size / 2)) (packed (s.size / 2) (digs (s.data.toList.take p))) ∧ Below w.heap.size w wr ∧ Hid (∀ x ∈ digs (s.data.toList.take p), 0 ≤ x)) (fun _ wr => s.size - wr.iterPos w1.heap.size)
  case atStart => exact ⟨0, Nat.zero_le _, Lib.hid (iter_start w1 s), by rw [packed_nil]; exact World.ownsRow.alloc hown1 _, hbel1.alloc hN _, Lib.hid (by simp [digs])⟩
  case round =>
    obtain ⟨p, hp, hit, hown, hbel, hx⟩ := hrel
    by_cases hlt : p < s.size
    · by_cases ha : s[p].toNat < 128
      · have hnx := next_any (P := Tryd.prog) hit.out hlt
        rw [decode_ascii s p hlt ha] at hnx
        by_cases h1 : hexI (s[p].toNat : Int) < 0
        · have H := Lib.hid (decH_bad s.data.toList s[p] (mem_at s p hlt) h1)
          have hb2 := below_setIter (s := s) (p := p + 1) hbel hN
          go_wp2_with (go_at_call 27; refine (hexValue_no _ _ h1).mono ?_; rintro e w' ⟨rfl, rfl⟩)
          go_ret2
          exact ⟨ret_decH (xs := []) H.out, hb2⟩
        · have g1 : 0 ≤ hexI (s[p].toNat : Int) := by omega
          have r1 := (hexI_range (s[p].toNat : Int)).2
          clear h1
          obtain ⟨a, a0, a1, hat, hset⟩ := packed_step (digs (s.data.toList.take p)) (s.size / 2) (hexI (s[p].toNat : Int)) (digs_small _ hx.out) (by rw [digs_length, List.length_take]; have := HE.out; simp; omega)
          rw [digs_length, List.length_take, show min p s.data.toList.length = p by simp; omega] at hat hset
          rw [← digs_step s p hlt] at hset
          have hit2 := setIter_get (p + 1) hit.out
          have hown2 := ownsB_setIter (p := p + 1) hown hit.out
          have hb2 := below_setIter (s := s) (p := p + 1) hbel hN
          have hc := ownsB_cell hown2 hat
          have hf := ownsB_frozen hown2 (p / 2)
          have hst := ownsB_store hown2 (p / 2) (a * 16 + hexI (s[p].toNat : Int))
          rw [hset] at hst
          have hit3 := iter_setCell (a := ⟨w.heap.size, p / 2, none⟩) (u := .int .u8 (a * 16 + hexI (s[p].toNat : Int))) hit2 (ownsB_ne hown2 hit2)
          have hb3 := hb2.setCell (p := ⟨w.heap.size, p / 2, none⟩) (Nat.le_refl _) (.int .u8 (a * 16 + hexI (s[p].toNat : Int)))
          have HST := Lib.hid hst
          have HIT := Lib.hid hit3
          have HX : Hid (∀ x ∈ digs (s.data.toList.take (p + 1)), 0 ≤ x) := Lib.hid (by rw [digs_step s p hlt]; exact all_step hx.out g1)
          have HM := Lib.hid (iterPos_of hit.out)
          have HM3 := Lib.hid (iterPos_of hit3)
          have i1 : (p : Int) / 2 < ((s.size / 2 : Nat) : Int) := by have := HE.out; omega
          clear hst hit3 hset hat hit2 hown hbel hb2
          go_wp2_with (go_at_call 27; refine (hexValue_yes _ _ g1).mono ?_; rintro e w' ⟨rfl, rfl⟩)
          go_roundw
          case rel => exact ⟨p + 1, by omega, HIT, HST.out, hb3, HX⟩
          case measure => rw [HM.out, HM3.out]; omega
      · have hnx := next_any (P := Tryd.prog) hit.out hlt
        have hr := (decode_high s p hlt (by omega)).1
        have h1 : hexI ((Utf8.decode s p).1 : Int) < 0 := by rw [hexI_high _ (by omega)]; omega
        have H := Lib.hid (decH_bad s.data.toList s[p] (mem_at s p hlt) (by rw [hexI_high _ (by omega)]; omega))
        have hb2 := below_setIter (s := s) (p := p + (Utf8.decode s p).2) hbel hN
        generalize (Utf8.decode s p).1 = r at *
        generalize (Utf8.decode s p).2 = q at *
        go_wp2_with (go_at_call 27; refine (hexValue_no _ _ h1).mono ?_; rintro e w' ⟨rfl, rfl⟩)
        go_ret2
        exact ⟨ret_decH (xs := []) H.out, hb2⟩
    · obtain rfl : p = s.size := by omega
      have hnx := next_end (P := Tryd.prog) hit.out hlt
      have hcv := string_owned hown
      have H := Lib.hid (decH_ok s.data.toList (by simpa using HE.out) (by have := hx.out; rwa [take_all] at this))
      have HT := Lib.hid (take_all s)
      have HP := Lib.hid (packed_all s HE.out)
      go_wp2
      go_ret2
      exact ⟨by rw [HT.out, HP.out]; exact ret_decH H.out, hbel⟩
theorem implDecH (s : ByteArray) (w : World) (hs : s.size ≤ 1048576) :
    Calls Tryd.prog 16 #[.string s] w fun e w' => e = .returned (.tuple #[.string (strOfNums (decH s.data.toList).1), .bool (decH s.data.toList).2]) ∧ Below w.heap.size w w' := by
  by_cases h : s.size % 2 = 0
  · exact impl_even s w hs h
  · exact impl_odd s w h
end Go.Proofs.YtanpmjmlglkopaaDoor
