/-
  The walks of the exact laws of UniteSets, MeetSets and SubtractSets: if the program's function returns in new memory what the operation says, the law returns true.
-/
import Derived.Test.YtededfficggkaaaSetOps
namespace Go.Proofs.Ytededfficggkaaa
open Go.RowKit
set_option linter.unusedVariables false
/-- The block of the slice v, if it has one, lies between lo and hi. -/
def Blk (v : Value) (lo hi : Nat) : Prop := ∀ k, v.ownBlock = some k → lo ≤ k ∧ k < hi
theorem blk_of {w : World} {B : Nat} {v : Value} {xs : List Int} (h : OwnsN w B v xs) : Blk v B w.heap.size := fun k hk => h.lt k hk
theorem ownsN_kept {w w' : World} {B : Nat} {v u : Value} {xs : List Int} {lo hi lo' hi' : Nat} (h : OwnsN w B v xs) (hg : w.grownBy w' u.ownBlock) (hv : Blk v lo hi) (hu : Blk u lo' hi') (hd : hi ≤ lo' ∨ hi' ≤ lo) : OwnsN w' B v xs := by
  refine h.kept hg ?_
  cases e : v.ownBlock with
  | none => exact Or.inl rfl
  | some k => exact Or.inr (fun g => by
      have h1 := hv k e
      have h2 := hu k g.symm
      omega)
theorem below_marked {W w w' : World} {u : Value} {lo hi : Nat} (h : Below W.heap.size W w) (hg : w.grownBy w' u.ownBlock) (hu : Blk u lo hi) (hl : W.heap.size ≤ lo) : Below W.heap.size W w' :=
  h.grown hg h.size (fun k hk => Nat.le_trans hl (hu k hk).1)
theorem uniteL_len (a b : List Int) (_ : a.length ≤ 1048576) (_ : b.length ≤ 1048576) : (uniteL a b).length ≤ 1048576 := by
  unfold uniteL; split
  · have := accU_len (fun x => decide (x ∈ a) || decide (x ∈ b)) 24
    unfold accU at this; omega
  · simp
theorem meetL_len (a b : List Int) (h : a.length ≤ 1048576) (_ : b.length ≤ 1048576) : (meetL a b).length ≤ 1048576 := by
  unfold meetL; split
  · exact Nat.le_trans (List.length_filter_le _ _) h
  · simp
theorem subL_len (a b : List Int) (h : a.length ≤ 1048576) (_ : b.length ≤ 1048576) : (subL a b).length ≤ 1048576 := by
  unfold subL; split
  · exact Nat.le_trans (List.length_filter_le _ _) h
  · simp
set_option maxHeartbeats 8000000 in
set_option maxRecDepth 100000 in
theorem law_fnExactUniteSets (va : Value) (a : List Int) (vb : Value) (b : List Int) (w : World) (ha : Ints w va a) (hb : Ints w vb b)
    (himpl : ∀ (va vb : Value) (w : World), Ints w va a → Ints w vb b → a.length ≤ 1048576 → b.length ≤ 1048576 → Calls Try.prog 8 #[va, vb] w (Fresh w (uniteL a b))) :
    Calls Try.prog 3 #[va, vb] w fun e w' => e = .returned (.bool true) ∧ Below w.heap.size w w' := by
  obtain ⟨a1, cap1, hva⟩ := ints_len ha
  obtain ⟨a2, cap2, hvb⟩ := ints_len hb
  by_cases na : a.length ≤ 1048576
  · by_cases nb : b.length ≤ 1048576
    · have HA := Lib.hid ha
      have HB := Lib.hid hb
      have NA := Lib.hid na
      have NB := Lib.hid nb
      have NF := Lib.hid (uniteL_len a b na nb)
      have HI := Lib.hid himpl
      clear ha hb himpl
      subst hva
      subst hvb
      go_enter Try.func3, Try.ntmps3
      go_wp2_with fail
      refine (toIntS_any _ a _ HA.out NA.out).mono ?_
      rintro e w1 ⟨c1, rfl, o1, b1⟩
      go_wp2_with fail
      refine (toIntS_any _ b _ (ints_below HB.out b1) NB.out).mono ?_
      rintro e w2 ⟨c2, rfl, o2, b2'⟩
      have b2 := b1.trans (b2'.mono b1.size)
      have o1' := ownsN_below o1 b2'
      go_wp2_with fail
      refine (specUnite c1 c2 a b _ (ownsN_ints o1') (ownsN_ints o2) NA.out NB.out).mono ?_
      rintro e w3 ⟨r, rfl, or3, b3'⟩
      have b3 := b2.trans (b3'.mono b2.size)
      have kr := blk_of or3
      have z3 := b3.size
      clear o1 o1' o2 b1 b2' b2 b3'
      go_wp2_with fail
      refine (toIntS_any _ a _ (ints_below HA.out b3) NA.out).mono ?_
      rintro e w4 ⟨x0, rfl, ox4, b4'⟩
      have b4 := b3.trans (b4'.mono b3.size)
      have or4 := ownsN_below or3 b4'
      have kx := blk_of ox4
      have z4 := b4'.size
      clear b3 b4' or3
      go_wp2_with fail
      refine (toIntS_any _ b _ (ints_below HB.out b4) NB.out).mono ?_
      rintro e w5 ⟨x1, rfl, oy5, b5'⟩
      have b5 := b4.trans (b5'.mono b4.size)
      have or5 := ownsN_below or4 b5'
      have ox5 := ownsN_below ox4 b5'
      have ky := blk_of oy5
      have z5 := b5'.size
      clear b4 b5' or4 ox4
      go_wp2_with fail
      refine (HI.out x0 x1 _ (ownsN_ints ox5) (ownsN_ints oy5) NA.out NB.out).mono ?_
      rintro e w6 ⟨g, rfl, og6, b6'⟩
      have b6 := b5.trans (b6'.mono b5.size)
      have or6 := ownsN_below or5 b6'
      have ox6 := ownsN_below ox5 b6'
      have oy6 := ownsN_below oy5 b6'
      have kg := blk_of og6
      clear b5 b6' or5 ox5 oy5
      go_wp2_with fail
      refine (eqIntS_same g r _ _ (ownsN_ints og6) (ownsN_ints or6) NF.out).mono ?_
      rintro e w7 ⟨rfl, b7'⟩
      have b7 := b6.trans (b7'.mono b6.size)
      have or7 := ownsN_below or6 b7'
      have ox7 := ownsN_below ox6 b7'
      have oy7 := ownsN_below oy6 b7'
      have og7 := ownsN_below og6 b7'
      clear b6 b7' or6 ox6 oy6 og6
      go_wp2_with fail
      refine (toIntS_any _ a _ (ints_below HA.out b7) NA.out).mono ?_
      rintro e w8 ⟨t8, rfl, ot8, b8'⟩
      have b8 := b7.trans (b8'.mono b7.size)
      have or8 := ownsN_below or7 b8'
      have ox8 := ownsN_below ox7 b8'
      have oy8 := ownsN_below oy7 b8'
      have og8 := ownsN_below og7 b8'
      clear b7 b8' or7 ox7 oy7 og7
      go_wp2_with fail
      refine (eqIntS_same x0 t8 _ _ (ownsN_ints ox8) (ownsN_ints ot8) NA.out).mono ?_
      rintro e w9 ⟨rfl, b9'⟩
      have b9 := b8.trans (b9'.mono b8.size)
      have or9 := ownsN_below or8 b9'
      have ox9 := ownsN_below ox8 b9'
      have oy9 := ownsN_below oy8 b9'
      have og9 := ownsN_below og8 b9'
      clear b8 b9' or8 ox8 oy8 og8 ot8
      go_wp2_with fail
      refine (toIntS_any _ b _ (ints_below HB.out b9) NB.out).mono ?_
      rintro e w10 ⟨t10, rfl, ot10, b10'⟩
      have b10 := b9.trans (b10'.mono b9.size)
      have or10 := ownsN_below or9 b10'
      have ox10 := ownsN_below ox9 b10'
      have oy10 := ownsN_below oy9 b10'
      have og10 := ownsN_below og9 b10'
      clear b9 b10' or9 ox9 oy9 og9
      go_wp2_with fail
      refine (eqIntS_same x1 t10 _ _ (ownsN_ints oy10) (ownsN_ints ot10) NB.out).mono ?_
      rintro e w11 ⟨rfl, b11'⟩
      have b11 := b10.trans (b11'.mono b10.size)
      have or11 := ownsN_below or10 b11'
      have ox11 := ownsN_below ox10 b11'
      have oy11 := ownsN_below oy10 b11'
      have og11 := ownsN_below og10 b11'
      clear b10 b11' or10 ox10 oy10 og10 ot10
      go_wp2_with fail
      refine (markIntS_any x0 a _ 1 _ ox11 NA.out (by omega) (by omega)).mono ?_
      rintro e w12 ⟨rfl, ox12, m12⟩
      have b12 := below_marked b11 m12 kx (by omega)
      have or12 := ownsN_kept or11 m12 kr kx (by omega)
      have oy12 := ownsN_kept oy11 m12 ky kx (by omega)
      have og12 := ownsN_kept og11 m12 kg kx (by omega)
      clear b11 or11 ox11 oy11 og11 m12 ox12
      go_wp2_with fail
      refine (markIntS_any x1 b _ _ _ oy12 NB.out (by omega) (by omega)).mono ?_
      rintro e w13 ⟨rfl, oy13, m13⟩
      have b13 := below_marked b12 m13 ky (by omega)
      have or13 := ownsN_kept or12 m13 kr ky (by omega)
      have og13 := ownsN_kept og12 m13 kg ky (by omega)
      clear b12 or12 oy12 og12 m13 oy13
      go_wp2_with fail
      refine (eqIntS_same g r _ _ (ownsN_ints og13) (ownsN_ints or13) NF.out).mono ?_
      rintro e w14 ⟨rfl, b14'⟩
      have b14 := b13.trans (b14'.mono b13.size)
      have or14 := ownsN_below or13 b14'
      have og14 := ownsN_below og13 b14'
      clear b13 b14' or13 og13
      go_wp2_with fail
      refine (markIntS_any g _ _ 1 _ og14 NF.out (by omega) (by omega)).mono ?_
      rintro e w15 ⟨rfl, og15, m15⟩
      have b15 := below_marked b14 m15 kg (by omega)
      have or15 := ownsN_kept or14 m15 kr kg (by omega)
      clear b14 or14 og14 m15
      go_wp2_with fail
      refine (heldIntS_any g _ 1 _ (ownsN_ints og15) NF.out (by omega) (by omega)).mono ?_
      rintro e w16 ⟨rfl, rfl⟩
      go_wp2_with fail
      refine (toIntS_any _ a _ (ints_below HA.out b15) NA.out).mono ?_
      rintro e w16 ⟨t16, rfl, ot16, b16'⟩
      have b16 := b15.trans (b16'.mono b15.size)
      have or16 := ownsN_below or15 b16'
      have og16 := ownsN_below og15 b16'
      clear b15 b16' or15 og15
      go_wp2_with fail
      refine (toIntS_any _ b _ (ints_below HB.out b16) NB.out).mono ?_
      rintro e w17 ⟨t17, rfl, ot17, b17'⟩
      have b17 := b16.trans (b17'.mono b16.size)
      have or17 := ownsN_below or16 b17'
      have og17 := ownsN_below og16 b17'
      have ot16' := ownsN_below ot16 b17'
      clear b16 b17' or16 og16 ot16
      go_wp2_with fail
      refine (HI.out t16 t17 _ (ownsN_ints ot16') (ownsN_ints ot17) NA.out NB.out).mono ?_
      rintro e w18 ⟨h, rfl, oh18, b18'⟩
      have b18 := b17.trans (b18'.mono b17.size)
      have or18 := ownsN_below or17 b18'
      have og18 := ownsN_below og17 b18'
      clear b17 b18' or17 og17 ot16' ot17
      go_wp2_with fail
      refine (eqIntS_same h r _ _ (ownsN_ints oh18) (ownsN_ints or18) NF.out).mono ?_
      rintro e w19 ⟨rfl, b19'⟩
      have b19 := b18.trans (b19'.mono b18.size)
      have og19 := ownsN_below og18 b19'
      clear b18 b19' or18 og18 oh18
      go_wp2_with fail
      refine (heldIntS_any g _ 1 _ (ownsN_ints og19) NF.out (by omega) (by omega)).mono ?_
      rintro e w20 ⟨rfl, rfl⟩
      go_wp2
      go_ret
      exact ⟨rfl, b19⟩
    · have hl : (1048576 : Int) < (b.length : Int) := by omega
      clear ha hb himpl
      subst hva
      subst hvb
      generalize a.length = la at na
      generalize b.length = lb at nb hl
      go_enter Try.func3, Try.ntmps3
      go_wp2
      go_ret
      exact ⟨rfl, Below.refl _ _⟩
  · have hl : (1048576 : Int) < (a.length : Int) := by omega
    clear ha hb himpl
    subst hva
    subst hvb
    generalize a.length = la at na hl
    generalize b.length = lb
    go_enter Try.func3, Try.ntmps3
    go_wp2
    go_ret
    exact ⟨rfl, Below.refl _ _⟩
set_option maxHeartbeats 8000000 in
set_option maxRecDepth 100000 in
theorem law_fnExactMeetSets (va : Value) (a : List Int) (vb : Value) (b : List Int) (w : World) (ha : Ints w va a) (hb : Ints w vb b)
    (himpl : ∀ (va vb : Value) (w : World), Ints w va a → Ints w vb b → a.length ≤ 1048576 → b.length ≤ 1048576 → Calls Try.prog 13 #[va, vb] w (Fresh w (meetL a b))) :
    Calls Try.prog 4 #[va, vb] w fun e w' => e = .returned (.bool true) ∧ Below w.heap.size w w' := by
  obtain ⟨a1, cap1, hva⟩ := ints_len ha
  obtain ⟨a2, cap2, hvb⟩ := ints_len hb
  by_cases na : a.length ≤ 1048576
  · by_cases nb : b.length ≤ 1048576
    · have HA := Lib.hid ha
      have HB := Lib.hid hb
      have NA := Lib.hid na
      have NB := Lib.hid nb
      have NF := Lib.hid (meetL_len a b na nb)
      have HI := Lib.hid himpl
      clear ha hb himpl
      subst hva
      subst hvb
      go_enter Try.func4, Try.ntmps4
      go_wp2_with fail
      refine (toIntS_any _ a _ HA.out NA.out).mono ?_
      rintro e w1 ⟨c1, rfl, o1, b1⟩
      go_wp2_with fail
      refine (toIntS_any _ b _ (ints_below HB.out b1) NB.out).mono ?_
      rintro e w2 ⟨c2, rfl, o2, b2'⟩
      have b2 := b1.trans (b2'.mono b1.size)
      have o1' := ownsN_below o1 b2'
      go_wp2_with fail
      refine (specMeet c1 c2 a b _ (ownsN_ints o1') (ownsN_ints o2) NA.out NB.out).mono ?_
      rintro e w3 ⟨r, rfl, or3, b3'⟩
      have b3 := b2.trans (b3'.mono b2.size)
      have kr := blk_of or3
      have z3 := b3.size
      clear o1 o1' o2 b1 b2' b2 b3'
      go_wp2_with fail
      refine (toIntS_any _ a _ (ints_below HA.out b3) NA.out).mono ?_
      rintro e w4 ⟨x0, rfl, ox4, b4'⟩
      have b4 := b3.trans (b4'.mono b3.size)
      have or4 := ownsN_below or3 b4'
      have kx := blk_of ox4
      have z4 := b4'.size
      clear b3 b4' or3
      go_wp2_with fail
      refine (toIntS_any _ b _ (ints_below HB.out b4) NB.out).mono ?_
      rintro e w5 ⟨x1, rfl, oy5, b5'⟩
      have b5 := b4.trans (b5'.mono b4.size)
      have or5 := ownsN_below or4 b5'
      have ox5 := ownsN_below ox4 b5'
      have ky := blk_of oy5
      have z5 := b5'.size
      clear b4 b5' or4 ox4
      go_wp2_with fail
      refine (HI.out x0 x1 _ (ownsN_ints ox5) (ownsN_ints oy5) NA.out NB.out).mono ?_
      rintro e w6 ⟨g, rfl, og6, b6'⟩
      have b6 := b5.trans (b6'.mono b5.size)
      have or6 := ownsN_below or5 b6'
      have ox6 := ownsN_below ox5 b6'
      have oy6 := ownsN_below oy5 b6'
      have kg := blk_of og6
      clear b5 b6' or5 ox5 oy5
      go_wp2_with fail
      refine (eqIntS_same g r _ _ (ownsN_ints og6) (ownsN_ints or6) NF.out).mono ?_
      rintro e w7 ⟨rfl, b7'⟩
      have b7 := b6.trans (b7'.mono b6.size)
      have or7 := ownsN_below or6 b7'
      have ox7 := ownsN_below ox6 b7'
      have oy7 := ownsN_below oy6 b7'
      have og7 := ownsN_below og6 b7'
      clear b6 b7' or6 ox6 oy6 og6
      go_wp2_with fail
      refine (toIntS_any _ a _ (ints_below HA.out b7) NA.out).mono ?_
      rintro e w8 ⟨t8, rfl, ot8, b8'⟩
      have b8 := b7.trans (b8'.mono b7.size)
      have or8 := ownsN_below or7 b8'
      have ox8 := ownsN_below ox7 b8'
      have oy8 := ownsN_below oy7 b8'
      have og8 := ownsN_below og7 b8'
      clear b7 b8' or7 ox7 oy7 og7
      go_wp2_with fail
      refine (eqIntS_same x0 t8 _ _ (ownsN_ints ox8) (ownsN_ints ot8) NA.out).mono ?_
      rintro e w9 ⟨rfl, b9'⟩
      have b9 := b8.trans (b9'.mono b8.size)
      have or9 := ownsN_below or8 b9'
      have ox9 := ownsN_below ox8 b9'
      have oy9 := ownsN_below oy8 b9'
      have og9 := ownsN_below og8 b9'
      clear b8 b9' or8 ox8 oy8 og8 ot8
      go_wp2_with fail
      refine (toIntS_any _ b _ (ints_below HB.out b9) NB.out).mono ?_
      rintro e w10 ⟨t10, rfl, ot10, b10'⟩
      have b10 := b9.trans (b10'.mono b9.size)
      have or10 := ownsN_below or9 b10'
      have ox10 := ownsN_below ox9 b10'
      have oy10 := ownsN_below oy9 b10'
      have og10 := ownsN_below og9 b10'
      clear b9 b10' or9 ox9 oy9 og9
      go_wp2_with fail
      refine (eqIntS_same x1 t10 _ _ (ownsN_ints oy10) (ownsN_ints ot10) NB.out).mono ?_
      rintro e w11 ⟨rfl, b11'⟩
      have b11 := b10.trans (b11'.mono b10.size)
      have or11 := ownsN_below or10 b11'
      have ox11 := ownsN_below ox10 b11'
      have oy11 := ownsN_below oy10 b11'
      have og11 := ownsN_below og10 b11'
      clear b10 b11' or10 ox10 oy10 og10 ot10
      go_wp2_with fail
      refine (markIntS_any x0 a _ 1 _ ox11 NA.out (by omega) (by omega)).mono ?_
      rintro e w12 ⟨rfl, ox12, m12⟩
      have b12 := below_marked b11 m12 kx (by omega)
      have or12 := ownsN_kept or11 m12 kr kx (by omega)
      have oy12 := ownsN_kept oy11 m12 ky kx (by omega)
      have og12 := ownsN_kept og11 m12 kg kx (by omega)
      clear b11 or11 ox11 oy11 og11 m12 ox12
      go_wp2_with fail
      refine (markIntS_any x1 b _ _ _ oy12 NB.out (by omega) (by omega)).mono ?_
      rintro e w13 ⟨rfl, oy13, m13⟩
      have b13 := below_marked b12 m13 ky (by omega)
      have or13 := ownsN_kept or12 m13 kr ky (by omega)
      have og13 := ownsN_kept og12 m13 kg ky (by omega)
      clear b12 or12 oy12 og12 m13 oy13
      go_wp2_with fail
      refine (eqIntS_same g r _ _ (ownsN_ints og13) (ownsN_ints or13) NF.out).mono ?_
      rintro e w14 ⟨rfl, b14'⟩
      have b14 := b13.trans (b14'.mono b13.size)
      have or14 := ownsN_below or13 b14'
      have og14 := ownsN_below og13 b14'
      clear b13 b14' or13 og13
      go_wp2_with fail
      refine (markIntS_any g _ _ 1 _ og14 NF.out (by omega) (by omega)).mono ?_
      rintro e w15 ⟨rfl, og15, m15⟩
      have b15 := below_marked b14 m15 kg (by omega)
      have or15 := ownsN_kept or14 m15 kr kg (by omega)
      clear b14 or14 og14 m15
      go_wp2_with fail
      refine (heldIntS_any g _ 1 _ (ownsN_ints og15) NF.out (by omega) (by omega)).mono ?_
      rintro e w16 ⟨rfl, rfl⟩
      go_wp2_with fail
      refine (toIntS_any _ a _ (ints_below HA.out b15) NA.out).mono ?_
      rintro e w16 ⟨t16, rfl, ot16, b16'⟩
      have b16 := b15.trans (b16'.mono b15.size)
      have or16 := ownsN_below or15 b16'
      have og16 := ownsN_below og15 b16'
      clear b15 b16' or15 og15
      go_wp2_with fail
      refine (toIntS_any _ b _ (ints_below HB.out b16) NB.out).mono ?_
      rintro e w17 ⟨t17, rfl, ot17, b17'⟩
      have b17 := b16.trans (b17'.mono b16.size)
      have or17 := ownsN_below or16 b17'
      have og17 := ownsN_below og16 b17'
      have ot16' := ownsN_below ot16 b17'
      clear b16 b17' or16 og16 ot16
      go_wp2_with fail
      refine (HI.out t16 t17 _ (ownsN_ints ot16') (ownsN_ints ot17) NA.out NB.out).mono ?_
      rintro e w18 ⟨h, rfl, oh18, b18'⟩
      have b18 := b17.trans (b18'.mono b17.size)
      have or18 := ownsN_below or17 b18'
      have og18 := ownsN_below og17 b18'
      clear b17 b18' or17 og17 ot16' ot17
      go_wp2_with fail
      refine (eqIntS_same h r _ _ (ownsN_ints oh18) (ownsN_ints or18) NF.out).mono ?_
      rintro e w19 ⟨rfl, b19'⟩
      have b19 := b18.trans (b19'.mono b18.size)
      have og19 := ownsN_below og18 b19'
      clear b18 b19' or18 og18 oh18
      go_wp2_with fail
      refine (heldIntS_any g _ 1 _ (ownsN_ints og19) NF.out (by omega) (by omega)).mono ?_
      rintro e w20 ⟨rfl, rfl⟩
      go_wp2
      go_ret
      exact ⟨rfl, b19⟩
    · have hl : (1048576 : Int) < (b.length : Int) := by omega
      clear ha hb himpl
      subst hva
      subst hvb
      generalize a.length = la at na
      generalize b.length = lb at nb hl
      go_enter Try.func4, Try.ntmps4
      go_wp2
      go_ret
      exact ⟨rfl, Below.refl _ _⟩
  · have hl : (1048576 : Int) < (a.length : Int) := by omega
    clear ha hb himpl
    subst hva
    subst hvb
    generalize a.length = la at na hl
    generalize b.length = lb
    go_enter Try.func4, Try.ntmps4
    go_wp2
    go_ret
    exact ⟨rfl, Below.refl _ _⟩
set_option maxHeartbeats 8000000 in
set_option maxRecDepth 100000 in
theorem law_fnExactSubtractSets (va : Value) (a : List Int) (vb : Value) (b : List Int) (w : World) (ha : Ints w va a) (hb : Ints w vb b)
    (himpl : ∀ (va vb : Value) (w : World), Ints w va a → Ints w vb b → a.length ≤ 1048576 → b.length ≤ 1048576 → Calls Try.prog 15 #[va, vb] w (Fresh w (subL a b))) :
    Calls Try.prog 5 #[va, vb] w fun e w' => e = .returned (.bool true) ∧ Below w.heap.size w w' := by
  obtain ⟨a1, cap1, hva⟩ := ints_len ha
  obtain ⟨a2, cap2, hvb⟩ := ints_len hb
  by_cases na : a.length ≤ 1048576
  · by_cases nb : b.length ≤ 1048576
    · have HA := Lib.hid ha
      have HB := Lib.hid hb
      have NA := Lib.hid na
      have NB := Lib.hid nb
      have NF := Lib.hid (subL_len a b na nb)
      have HI := Lib.hid himpl
      clear ha hb himpl
      subst hva
      subst hvb
      go_enter Try.func5, Try.ntmps5
      go_wp2_with fail
      refine (toIntS_any _ a _ HA.out NA.out).mono ?_
      rintro e w1 ⟨c1, rfl, o1, b1⟩
      go_wp2_with fail
      refine (toIntS_any _ b _ (ints_below HB.out b1) NB.out).mono ?_
      rintro e w2 ⟨c2, rfl, o2, b2'⟩
      have b2 := b1.trans (b2'.mono b1.size)
      have o1' := ownsN_below o1 b2'
      go_wp2_with fail
      refine (specSub c1 c2 a b _ (ownsN_ints o1') (ownsN_ints o2) NA.out NB.out).mono ?_
      rintro e w3 ⟨r, rfl, or3, b3'⟩
      have b3 := b2.trans (b3'.mono b2.size)
      have kr := blk_of or3
      have z3 := b3.size
      clear o1 o1' o2 b1 b2' b2 b3'
      go_wp2_with fail
      refine (toIntS_any _ a _ (ints_below HA.out b3) NA.out).mono ?_
      rintro e w4 ⟨x0, rfl, ox4, b4'⟩
      have b4 := b3.trans (b4'.mono b3.size)
      have or4 := ownsN_below or3 b4'
      have kx := blk_of ox4
      have z4 := b4'.size
      clear b3 b4' or3
      go_wp2_with fail
      refine (toIntS_any _ b _ (ints_below HB.out b4) NB.out).mono ?_
      rintro e w5 ⟨x1, rfl, oy5, b5'⟩
      have b5 := b4.trans (b5'.mono b4.size)
      have or5 := ownsN_below or4 b5'
      have ox5 := ownsN_below ox4 b5'
      have ky := blk_of oy5
      have z5 := b5'.size
      clear b4 b5' or4 ox4
      go_wp2_with fail
      refine (HI.out x0 x1 _ (ownsN_ints ox5) (ownsN_ints oy5) NA.out NB.out).mono ?_
      rintro e w6 ⟨g, rfl, og6, b6'⟩
      have b6 := b5.trans (b6'.mono b5.size)
      have or6 := ownsN_below or5 b6'
      have ox6 := ownsN_below ox5 b6'
      have oy6 := ownsN_below oy5 b6'
      have kg := blk_of og6
      clear b5 b6' or5 ox5 oy5
      go_wp2_with fail
      refine (eqIntS_same g r _ _ (ownsN_ints og6) (ownsN_ints or6) NF.out).mono ?_
      rintro e w7 ⟨rfl, b7'⟩
      have b7 := b6.trans (b7'.mono b6.size)
      have or7 := ownsN_below or6 b7'
      have ox7 := ownsN_below ox6 b7'
      have oy7 := ownsN_below oy6 b7'
      have og7 := ownsN_below og6 b7'
      clear b6 b7' or6 ox6 oy6 og6
      go_wp2_with fail
      refine (toIntS_any _ a _ (ints_below HA.out b7) NA.out).mono ?_
      rintro e w8 ⟨t8, rfl, ot8, b8'⟩
      have b8 := b7.trans (b8'.mono b7.size)
      have or8 := ownsN_below or7 b8'
      have ox8 := ownsN_below ox7 b8'
      have oy8 := ownsN_below oy7 b8'
      have og8 := ownsN_below og7 b8'
      clear b7 b8' or7 ox7 oy7 og7
      go_wp2_with fail
      refine (eqIntS_same x0 t8 _ _ (ownsN_ints ox8) (ownsN_ints ot8) NA.out).mono ?_
      rintro e w9 ⟨rfl, b9'⟩
      have b9 := b8.trans (b9'.mono b8.size)
      have or9 := ownsN_below or8 b9'
      have ox9 := ownsN_below ox8 b9'
      have oy9 := ownsN_below oy8 b9'
      have og9 := ownsN_below og8 b9'
      clear b8 b9' or8 ox8 oy8 og8 ot8
      go_wp2_with fail
      refine (toIntS_any _ b _ (ints_below HB.out b9) NB.out).mono ?_
      rintro e w10 ⟨t10, rfl, ot10, b10'⟩
      have b10 := b9.trans (b10'.mono b9.size)
      have or10 := ownsN_below or9 b10'
      have ox10 := ownsN_below ox9 b10'
      have oy10 := ownsN_below oy9 b10'
      have og10 := ownsN_below og9 b10'
      clear b9 b10' or9 ox9 oy9 og9
      go_wp2_with fail
      refine (eqIntS_same x1 t10 _ _ (ownsN_ints oy10) (ownsN_ints ot10) NB.out).mono ?_
      rintro e w11 ⟨rfl, b11'⟩
      have b11 := b10.trans (b11'.mono b10.size)
      have or11 := ownsN_below or10 b11'
      have ox11 := ownsN_below ox10 b11'
      have oy11 := ownsN_below oy10 b11'
      have og11 := ownsN_below og10 b11'
      clear b10 b11' or10 ox10 oy10 og10 ot10
      go_wp2_with fail
      refine (markIntS_any x0 a _ 1 _ ox11 NA.out (by omega) (by omega)).mono ?_
      rintro e w12 ⟨rfl, ox12, m12⟩
      have b12 := below_marked b11 m12 kx (by omega)
      have or12 := ownsN_kept or11 m12 kr kx (by omega)
      have oy12 := ownsN_kept oy11 m12 ky kx (by omega)
      have og12 := ownsN_kept og11 m12 kg kx (by omega)
      clear b11 or11 ox11 oy11 og11 m12 ox12
      go_wp2_with fail
      refine (markIntS_any x1 b _ _ _ oy12 NB.out (by omega) (by omega)).mono ?_
      rintro e w13 ⟨rfl, oy13, m13⟩
      have b13 := below_marked b12 m13 ky (by omega)
      have or13 := ownsN_kept or12 m13 kr ky (by omega)
      have og13 := ownsN_kept og12 m13 kg ky (by omega)
      clear b12 or12 oy12 og12 m13 oy13
      go_wp2_with fail
      refine (eqIntS_same g r _ _ (ownsN_ints og13) (ownsN_ints or13) NF.out).mono ?_
      rintro e w14 ⟨rfl, b14'⟩
      have b14 := b13.trans (b14'.mono b13.size)
      have or14 := ownsN_below or13 b14'
      have og14 := ownsN_below og13 b14'
      clear b13 b14' or13 og13
      go_wp2_with fail
      refine (markIntS_any g _ _ 1 _ og14 NF.out (by omega) (by omega)).mono ?_
      rintro e w15 ⟨rfl, og15, m15⟩
      have b15 := below_marked b14 m15 kg (by omega)
      have or15 := ownsN_kept or14 m15 kr kg (by omega)
      clear b14 or14 og14 m15
      go_wp2_with fail
      refine (heldIntS_any g _ 1 _ (ownsN_ints og15) NF.out (by omega) (by omega)).mono ?_
      rintro e w16 ⟨rfl, rfl⟩
      go_wp2_with fail
      refine (toIntS_any _ a _ (ints_below HA.out b15) NA.out).mono ?_
      rintro e w16 ⟨t16, rfl, ot16, b16'⟩
      have b16 := b15.trans (b16'.mono b15.size)
      have or16 := ownsN_below or15 b16'
      have og16 := ownsN_below og15 b16'
      clear b15 b16' or15 og15
      go_wp2_with fail
      refine (toIntS_any _ b _ (ints_below HB.out b16) NB.out).mono ?_
      rintro e w17 ⟨t17, rfl, ot17, b17'⟩
      have b17 := b16.trans (b17'.mono b16.size)
      have or17 := ownsN_below or16 b17'
      have og17 := ownsN_below og16 b17'
      have ot16' := ownsN_below ot16 b17'
      clear b16 b17' or16 og16 ot16
      go_wp2_with fail
      refine (HI.out t16 t17 _ (ownsN_ints ot16') (ownsN_ints ot17) NA.out NB.out).mono ?_
      rintro e w18 ⟨h, rfl, oh18, b18'⟩
      have b18 := b17.trans (b18'.mono b17.size)
      have or18 := ownsN_below or17 b18'
      have og18 := ownsN_below og17 b18'
      clear b17 b18' or17 og17 ot16' ot17
      go_wp2_with fail
      refine (eqIntS_same h r _ _ (ownsN_ints oh18) (ownsN_ints or18) NF.out).mono ?_
      rintro e w19 ⟨rfl, b19'⟩
      have b19 := b18.trans (b19'.mono b18.size)
      have og19 := ownsN_below og18 b19'
      clear b18 b19' or18 og18 oh18
      go_wp2_with fail
      refine (heldIntS_any g _ 1 _ (ownsN_ints og19) NF.out (by omega) (by omega)).mono ?_
      rintro e w20 ⟨rfl, rfl⟩
      go_wp2
      go_ret
      exact ⟨rfl, b19⟩
    · have hl : (1048576 : Int) < (b.length : Int) := by omega
      clear ha hb himpl
      subst hva
      subst hvb
      generalize a.length = la at na
      generalize b.length = lb at nb hl
      go_enter Try.func5, Try.ntmps5
      go_wp2
      go_ret
      exact ⟨rfl, Below.refl _ _⟩
  · have hl : (1048576 : Int) < (a.length : Int) := by omega
    clear ha hb himpl
    subst hva
    subst hvb
    generalize a.length = la at na hl
    generalize b.length = lb
    go_enter Try.func5, Try.ntmps5
    go_wp2
    go_ret
    exact ⟨rfl, Below.refl _ _⟩
end Go.Proofs.Ytededfficggkaaa
