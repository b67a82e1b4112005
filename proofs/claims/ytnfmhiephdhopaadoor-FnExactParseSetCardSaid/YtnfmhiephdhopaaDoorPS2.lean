/-
  Texts of the proof, merged: ParSetLaw.
-/
import Derived.Test.YtnfmhiephdhopaaDoorPS1
namespace Go.Proofs.YtnfmhiephdhopaaDoor
open Go.RowKit
set_option linter.unusedVariables false
theorem strB_all (s : ByteArray) : ∃ l, s = strB l := ⟨s.data.toList, by cases s; simp [strB]⟩
set_option maxHeartbeats 8000000 in
set_option maxRecDepth 100000 in
theorem law_fnExactParseSet (s : ByteArray) (hs : s.size ≤ maxLen) (w : World) (htab : TabZ w ∧ Tab w) :
    Calls Tryd.prog 4 #[.string s] w fun e w' => e = .returned (.bool true) ∧ Below w.heap.size w w' := by
  obtain ⟨l, rfl⟩ := strB_all s
  obtain ⟨hZ, hT⟩ := htab
  by_cases hl : l.length ≤ 1048576
  · have hsz : ¬ (1048576 : Int) < ((strB l).size : Int) := by rw [strB_size]; omega
    have HS := Lib.hid (fun w => specParSet l w hl)
    have HI := Lib.hid (fun w h1 h2 => implParSet l w hl h1 h2)
    have HL := Lib.hid (parSet_len l)
    have HT := Lib.hid hT
    have HZ := Lib.hid hZ
    clear hs hl hT hZ
    generalize (parSet l).1 = xs at *
    generalize (parSet l).2 = b at *
    generalize strB l = sl at *
    have hbb : (b != b) = false := by simp
    go_enter Tryd.func4, Tryd.ntmps4
    go_wp2_with fail
    refine (HS.out _).mono ?_
    rintro e w1 ⟨r, rfl, or1, b1⟩
    have kr := blk_of or1
    have z1 := b1.size
    go_wp2_with fail
    refine (HI.out _ (HT.out.on b1) (HZ.out.on b1)).mono ?_
    rintro e w2 ⟨g, rfl, og2, b2'⟩
    have b2 := b1.trans (b2'.mono b1.size)
    have or2 := ownsN_below or1 b2'
    have kg := blk_of og2
    have z2 := b2'.size
    clear b1 b2' or1
    go_wp2_with fail
    refine (eqIntS_same g r _ _ (ownsN_ints og2) (ownsN_ints or2) (by have := HL.out; omega)).mono ?_
    rintro e w3 ⟨rfl, b3'⟩
    have b3 := b2.trans (b3'.mono b2.size)
    have or3 := ownsN_below or2 b3'
    have og3 := ownsN_below og2 b3'
    clear b2 b3' or2 og2
    go_wp2_with fail
    refine (markIntS_any g _ _ 1 _ og3 (by have := HL.out; omega) (by omega) (by omega)).mono ?_
    rintro e w4 ⟨rfl, og4, m4⟩
    have b4 := below_marked b3 m4 kg (by omega)
    have or4 := ownsN_kept or3 m4 kr kg (by omega)
    clear b3 or3 og3 m4
    go_wp2_with fail
    refine (heldIntS_any g _ 1 _ (ownsN_ints og4) (by have := HL.out; omega) (by omega) (by omega)).mono ?_
    rintro e w5 ⟨rfl, rfl⟩
    go_wp2_with fail
    refine (HI.out _ (HT.out.on b4) (HZ.out.on b4)).mono ?_
    rintro e w6 ⟨h, rfl, oh6, b6'⟩
    have b6 := b4.trans (b6'.mono b4.size)
    have or6 := ownsN_below or4 b6'
    have og6 := ownsN_below og4 b6'
    clear b4 b6' or4 og4
    go_wp2_with fail
    refine (eqIntS_same h r _ _ (ownsN_ints oh6) (ownsN_ints or6) (by have := HL.out; omega)).mono ?_
    rintro e w7 ⟨rfl, b7'⟩
    have b7 := b6.trans (b7'.mono b6.size)
    have og7 := ownsN_below og6 b7'
    clear b6 b7' or6 og6 oh6
    go_wp2_with fail
    refine (heldIntS_any g _ 1 _ (ownsN_ints og7) (by have := HL.out; omega) (by omega) (by omega)).mono ?_
    rintro e w8 ⟨rfl, rfl⟩
    go_wp2
    go_ret
    exact ⟨rfl, b7⟩
  · have hsz : (1048576 : Int) < ((strB l).size : Int) := by rw [strB_size]; omega
    clear hs hl hT hZ
    generalize strB l = sl at *
    go_enter Tryd.func4, Tryd.ntmps4
    go_wp2
    go_ret
    exact ⟨rfl, Below.refl _ _⟩
end Go.Proofs.YtnfmhiephdhopaaDoor
