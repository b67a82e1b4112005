/-
 Texts of the proof, merged: MaskMem.
-/
import Derived.Test.YtededfficggkaaaDoorI25
namespace Go.Proofs.YtededfficggkaaaDoor
open Go.RowKit
set_option linter.unusedVariables false
set_option linter.unusedSimpArgs false
theorem bit_div (m k : Nat) : bits .and .u32 ((m : Int) / 2 ^ k) 1 = (((m / 2 ^ k % 2 : Nat)) : Int) ∨ 4294967296 ≤ m := by
 by_cases h : m < 4294967296
 ·
  left
  have hd : (m : Int) / 2 ^ k = ((m / 2 ^ k : Nat) : Int) := by norm_cast
  have hl : m / 2 ^ k < 4294967296 := Nat.lt_of_le_of_lt (Nat.div_le_self _ _) h
  rw [hd, show (1 : Int) = ((1 : Nat) : Int) from rfl, and_u32 _ _ hl (by omega), Nat.and_one_is_mod]
 ·
  right; omega
theorem bit_true {m k : Nat} (hm : m < 16777216) (h : m.testBit k = true) : (bits .and .u32 ((m : Int) / 2 ^ k) 1 == 1) = true := by
 rcases bit_div m k with e | e
 ·
  rw [e]
  rw [Nat.testBit_eq_decide_div_mod_eq] at h
  have := of_decide_eq_true h
  rw [this]; rfl
 ·
  omega
theorem bit_false {m k : Nat} (hm : m < 16777216) (h : m.testBit k = false) : (bits .and .u32 ((m : Int) / 2 ^ k) 1 == 1) = false := by
 rcases bit_div m k with e | e
 ·
  rw [e]
  rw [Nat.testBit_eq_decide_div_mod_eq] at h
  have h1 := of_decide_eq_false h
  have : m / 2 ^ k % 2 = 0 := by omega
  rw [this]; rfl
 ·
  omega
set_option maxHeartbeats 2000000 in
set_option maxRecDepth 100000 in
theorem implMembers (m : Nat) (w : World) (hm : m < 16777216) :
  Calls Tryd.prog 51 #[.int .u32 (m : Nat)] w (Fresh w (memL m)) := by
 obtain ⟨i0, hi, hz0, hz1, hz2⟩ := info_parts Tryd.infoI64
 have HI := Lib.hid hi; have HZ0 := Lib.hid hz0; have HZ1 := Lib.hid hz1; have HZ2 := Lib.hid hz2
 have HM := Lib.hid hm
 clear hi hz0 hz1 hz2 hm
 go_enter Tryd.func51, Tryd.ntmps51
 go_wp2_with fail
 refine (maskCount m HM.out _).mono ?_
 rintro e w1 ⟨rfl, b1⟩
 have hB1 := b1.size
 have hn : cntM m ≤ 24 := memL_le m
 generalize cntM m = n at *
 go_wp2_with (at_make; refine wpList_make_own _ rfl (.const (.int .i64 0)) (.tmp 6) 24 rfl w.heap.size 3 i0 (.int .i64 0) 1 Tryd.underlying24 HI.out HZ0.out HZ1.out _ _ _ n rfl rfl rfl (by rw [HZ2.out]; omega) (by unfold maxLen; omega) hB1 ?_)
 intro w2 hown0 hg0
 have hown1 : OwnsN w2 w.heap.size (.slice (some ⟨w1.heap.size, 0, none⟩) 0 n) (memTo m 0) := hown0
 have hbel1 := b1.trans ((Below.refl w1.heap.size w1).grown hg0 (Nat.le_refl _) (fun k hk => by cases hk) |>.mono hB1)
 clear hown0 hg0 b1
 go_wp2
 go_loopw [3, 8] (fun v i wr => ∃ k : Nat, k ≤ 24 ∧ i = .int .i64 k ∧ OwnsN wr w.heap.size v (memTo m k) ∧ Below w.heap.size w wr) (fun _ i _ => 24 - (intOf i).toNat)
 case atStart => exact ⟨0, Nat.zero_le _, rfl, hown1, hbel1⟩
 case round =>
  obtain ⟨k, hk, rfl, hown, hbel⟩ := hrel
  clear hown1 hbel1
  by_cases hlt : k < 24
  ·
   have HL := Lib.hid (memTo_len m k)
   have hB2 := hbel.size
   have hd : (m : Int) / 2 ^ k = ((m / 2 ^ k : Nat) : Int) := by norm_cast
   clear hd
   cases hb : m.testBit k with
   | true =>
    have HT := Lib.hid (memTo_yes hb)
    have hq := bit_true HM.out hb
    clear hb
    go_wp2_with (at_builtin; refine append_ints rfl (.tmp 16) (.tmp 18) rfl w.heap.size _ _ rfl hown hB2 _ [(k : Int)] 1 _ rfl (by first | rfl | (simp; done)) rfl (by have := HL.out; simp; omega) ?_)
    intro v' w4 hown3 hb3
    rw [← HT.out] at hown3
    have hb4 := hbel.trans hb3
    clear hown hbel hb3
    go_wp2
    go_roundw
    case rel => exact ⟨k + 1, by omega, by go_num, hown3, hb4⟩
    case measure => simp [intOf]; omega
   | false =>
    have HT := Lib.hid (memTo_no hb)
    have hq := bit_false HM.out hb
    clear hb
    rw [← HT.out] at hown
    go_wp2
    go_roundw
    case rel => exact ⟨k + 1, by omega, by go_num, hown, hbel⟩
    case measure => simp [intOf]; omega
  ·
   obtain rfl : k = 24 := by omega
   go_wp2
   go_ret
   exact ⟨_, rfl, hown, hbel⟩
end Go.Proofs.YtededfficggkaaaDoor
