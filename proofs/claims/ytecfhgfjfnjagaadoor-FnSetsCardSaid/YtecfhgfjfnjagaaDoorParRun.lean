/-
  The walks of cutting a text at its first minus, and of the program's parseRun.
-/
import Derived.Test.YtecfhgfjfnjagaaDoorParMask
import Derived.Test.YtecfhgfjfnjagaaDoorParImpl
import Derived.Test.YtecfhgfjfnjagaaDoorMaskFmt
namespace Go.Proofs.YtecfhgfjfnjagaaDoor
open Go.RowKit
set_option linter.unusedVariables false
theorem strB_take (a b : List UInt8) : (strB (a ++ b)).extract 0 a.length = strB a := by
  apply ByteArray.ext
  apply Array.ext'
  simp only [ByteArray.data_extract, Array.toList_extract, strB]
  rw [List.extract_eq_take_drop]
  simp
theorem strB_drop (a : List UInt8) (c : UInt8) (b : List UInt8) : (strB (a ++ c :: b)).extract (a.length + 1) (a ++ c :: b).length = strB b := by
  apply ByteArray.ext
  apply Array.ext'
  simp only [ByteArray.data_extract, Array.toList_extract, strB]
  rw [List.extract_eq_take_drop, show a ++ c :: b = (a ++ [c]) ++ b by simp]
  rw [List.drop_left' (by simp), List.take_of_length_le (by simp; omega)]
theorem triple {a b c d : List UInt8} {x : Bool} (h1 : a = b) (h2 : c = d) : Ending.returned (.tuple #[.string (strB a), .string (strB c), .bool x]) = .returned (.tuple #[.string (strB b), .string (strB d), .bool x]) := by rw [h1, h2]
theorem triple' {u v : ByteArray} {c d : List UInt8} {x : Bool} (h1 : u = strB c) (h2 : v = strB d) : Ending.returned (.tuple #[.string u, .string v, .bool x]) = .returned (.tuple #[.string (strB c), .string (strB d), .bool x]) := by rw [h1, h2]
set_option maxHeartbeats 1000000 in
set_option maxRecDepth 100000 in
theorem cut1_no (q : List UInt8) (w : World) (h : (45 : UInt8) ∉ q) : Calls Tryd.prog 69 #[.string (strB q), .string ⟨#[45]⟩] w fun e w' => e = .returned (.tuple #[.string (strB q), .string (strB []), .bool false]) ∧ w' = w := by
  have hi : Lib.indexByte (strB q).data.toList 45 = -1 := by
    rcases index_cases q 45 with ⟨_, e⟩ | ⟨a, r, e, _⟩
    · exact e
    · exact absurd (by rw [e]; simp) h
  have HI := Lib.hid (Tryd.stringslite_Index_one (strB q) 45 w)
  rw [hi] at HI
  clear hi
  go_enter Tryd.func69, Tryd.ntmps69
  go_wp2_with fail
  refine HI.out.mono ?_
  rintro e w1 ⟨rfl, rfl⟩
  go_wp2
  go_ret3
  exact ⟨rfl, rfl⟩
set_option maxHeartbeats 1000000 in
set_option maxRecDepth 100000 in
theorem cut1_yes (a b : List UInt8) (w : World) (h : (45 : UInt8) ∉ a) (hl : (a ++ 45 :: b).length ≤ 1048576) : Calls Tryd.prog 69 #[.string (strB (a ++ 45 :: b)), .string ⟨#[45]⟩] w fun e w' => e = .returned (.tuple #[.string (strB a), .string (strB b), .bool true]) ∧ Below w.heap.size w w' := by
  have hi : Lib.indexByte (strB (a ++ 45 :: b)).data.toList 45 = (a.length : Int) := by
    rcases index_cases (a ++ 45 :: b) 45 with ⟨g, _⟩ | ⟨c, r, e, hc, e2⟩
    · exact absurd (by simp) g
    · show Lib.indexByte (a ++ 45 :: b) 45 = _
      have h1 := cutL_app b h
      have h2 := cutL_app r hc
      rw [← e, h1] at h2
      rw [e2, (List.cons.inj h2).1]
  have HI := Lib.hid (Tryd.stringslite_Index_one (strB (a ++ 45 :: b)) 45 w)
  rw [hi] at HI
  have hsz : ((strB (a ++ 45 :: b)).size : Int) = (a.length : Int) + 1 + (b.length : Int) := by rw [strB_size]; simp; omega
  have H1 := Lib.hid (strB_take a (45 :: b))
  have H2 := Lib.hid (strB_drop a 45 b)
  have hs2 : (strB (a ++ 45 :: b)).size = (a ++ 45 :: b).length := strB_size _
  rw [← hs2] at H2
  have hl2 : (a.length : Int) ≤ 1048576 := by simp at hl; omega
  clear hi hl hs2
  generalize strB (a ++ 45 :: b) = s at *
  have h0 : (0 : Int) ≤ (a.length : Int) := by omega
  have e1 : IntKind.i64.wrap ((a.length : Int) + 1) = (a.length : Int) + 1 := IntWalk.i64_in _ (by omega)
  have e2 : (0 : Int) ≤ (a.length : Int) + 1 := by omega
  have e3 : (a.length : Int) + 1 ≤ (s.size : Int) := by omega
  have e4 : (a.length : Int) ≤ (s.size : Int) := by omega
  have e5 : ((a.length : Int) + 1).toNat = a.length + 1 := by omega
  go_enter Tryd.func69, Tryd.ntmps69
  go_wp2_with fail
  refine HI.out.mono ?_
  rintro e w1 ⟨rfl, rfl⟩
  go_wp2
  go_quiet (fail)
  go_wp2
  go_ret3
  exact ⟨triple' H1.out H2.out, below_drewN (Below.refl _ _) _⟩
set_option maxHeartbeats 1000000 in
theorem cut_no (q : List UInt8) (w : World) (h : (45 : UInt8) ∉ q) : Calls Tryd.prog 60 #[.string (strB q), .string ⟨#[45]⟩] w fun e w' => e = .returned (.tuple #[.string (strB q), .string (strB []), .bool false]) ∧ Below w.heap.size w w' := by
  have HI := Lib.hid (cut1_no q w h)
  go_enter Tryd.func60, Tryd.ntmps60
  go_wp2_with fail
  refine HI.out.mono ?_
  rintro e w1 ⟨rfl, rfl⟩
  go_wp2
  go_ret3
  exact ⟨rfl, Below.refl _ _⟩
set_option maxHeartbeats 1000000 in
theorem cut_yes (a b : List UInt8) (w : World) (h : (45 : UInt8) ∉ a) (hl : (a ++ 45 :: b).length ≤ 1048576) : Calls Tryd.prog 60 #[.string (strB (a ++ 45 :: b)), .string ⟨#[45]⟩] w fun e w' => e = .returned (.tuple #[.string (strB a), .string (strB b), .bool true]) ∧ Below w.heap.size w w' := by
  have HI := Lib.hid (cut1_yes a b w h hl)
  clear hl
  generalize strB (a ++ 45 :: b) = s at *
  go_enter Tryd.func60, Tryd.ntmps60
  go_wp2_with fail
  refine HI.out.mono ?_
  rintro e w1 ⟨rfl, b1⟩
  go_wp2
  go_ret3
  exact ⟨rfl, b1⟩
/-- What parseRun answers of a piece. -/
def runAns (q : List UInt8) : Value := if partOk (cutL 45 q) = true then .tuple #[.int .u32 ((partMask (cutL 45 q) : Nat) : Int), .bool true] else .tuple #[.int .u32 0, .bool false]
theorem ret_v {a b : Value} (h : a = b) : Ending.returned a = .returned b := by rw [h]
set_option maxHeartbeats 4000000 in
set_option maxRecDepth 100000 in
theorem implParseRun (q : List UInt8) (w : World) (hl : q.length ≤ 1048576) (hT : Tab w) :
    Calls Tryd.prog 48 #[.string (strB q)] w fun e w' => e = .returned (runAns q) ∧ Below w.heap.size w w' := by
  -- the two texts, and what the pieces' words say of them
  obtain ⟨a, b, found, hcut, hfb, hla, hlb, hkey, hval⟩ : ∃ (a b : List UInt8) (found : Bool), Hid (Calls Tryd.prog 60 #[.string (strB q), .string ⟨#[45]⟩] w fun e w' => e = .returned (.tuple #[.string (strB a), .string (strB (if found = true then b else [])), .bool found]) ∧ Below w.heap.size w w') ∧ (found = false → b = a) ∧ a.length ≤ 1048576 ∧ b.length ≤ 1048576 ∧ (partOk (cutL 45 q) = true ↔ progOk a b) ∧ (progOk a b → numL ((cutL 45 q).getD 0 []) = (parI a).1 ∧ partTo (cutL 45 q) = (parI b).1) := by
    rcases index_cases q 45 with ⟨h, _⟩ | ⟨a, b, rfl, h, _⟩
    · exact ⟨q, q, false, Lib.hid (cut_no q w h), fun _ => rfl, hl, hl, (part_one h).1, (part_one h).2⟩
    · have hl' := hl
      simp at hl'
      exact ⟨a, b, true, Lib.hid (cut_yes a b w h hl), fun g => Bool.noConfusion g, by omega, by omega, (part_two h).1, (part_two h).2⟩
  have HT := Lib.hid hT
  have P1 := Lib.hid (fun w h => implPar (strB a) w (by rw [strB_size]; exact hla) h)
  have P2 := Lib.hid (fun w h => implPar (strB b) w (by rw [strB_size]; exact hlb) h)
  have HYES : Hid (progOk a b → runAns q = .tuple #[.int .u32 ((rangeM (parI a).1.toNat (parI b).1.toNat : Nat) : Int), .bool true]) := Lib.hid (fun g => by
    unfold runAns partMask
    rw [if_pos (hkey.2 g), (hval g).1, (hval g).2])
  have HNO : Hid (¬ progOk a b → runAns q = .tuple #[.int .u32 0, .bool false]) := Lib.hid (fun g => by
    unfold runAns
    rw [if_neg (fun h => g (hkey.1 h))])
  have e1 : (strB a).data.toList = a := rfl
  have e2 : (strB b).data.toList = b := rfl
  rw [e1] at P1
  rw [e2] at P2
  clear e1 e2 hkey hval hl hT hla hlb
  unfold progOk at HYES HNO
  generalize runAns q = ans at *
  cases found with
  | false =>
    obtain rfl := hfb rfl
    clear P2 hfb
    generalize strB q = s at *
    generalize (parI b).1 = x at *
    obtain ⟨y, hy0⟩ : ∃ y, y = x := ⟨_, rfl⟩
    generalize (parI b).2 = p at *
    go_enter Tryd.func48, Tryd.ntmps48
    go_wp2_with fail
    refine hcut.out.mono ?_
    rintro e w1 ⟨rfl, b1⟩
    go_wp2_with fail
    refine (P1.out _ (HT.out.on b1)).mono ?_
    rintro e w2 ⟨rfl, b2⟩
    have b3 := b1.trans (b2.mono b1.size)
    clear b1 b2
    go_wp2_with fail
    refine (P1.out _ (HT.out.on b3)).mono ?_
    rintro e w3 ⟨rfl, b4⟩
    have b5 := b3.trans (b4.mono b3.size)
    clear b3 b4 P1 HT
    cases p with
    | false =>
      have HN := Lib.hid (HNO.out (by rintro ⟨h, _⟩; cases h))
      clear HYES HNO
      go_wp2
      go_ret2
      exact ⟨ret_v HN.out.symm, b5⟩
    | true =>
      by_cases hxy : x ≤ x
      · have hgt : decide (x < x) = false := by rw [decide_eq_false_iff_not]; omega
        have hgt2 : ¬ x < x := by omega
        by_cases hx : 0 ≤ x ∧ x ≤ 23
        · have HQ1 := Lib.hid (decide_eq_true hx)
          by_cases hy : 0 ≤ x ∧ x ≤ 23
          · have HQ2 := Lib.hid (decide_eq_true hy)
            have HN := Lib.hid (HYES.out ⟨rfl, rfl, hxy, hx, hy⟩)
            obtain ⟨f, rfl⟩ := Int.eq_ofNat_of_zero_le hx.1
            have hfu : f ≤ f := by omega
            have hu : f ≤ 23 := by omega
            have HRM := Lib.hid (fun w => implRunMask f f w hfu hu)
            clear HYES HNO hx hy hxy hfu hu
            go_wp2_with fail
            refine (isQuery _ _).mono ?_
            rintro e wx ⟨rfl, rfl⟩
            rw [HQ1.out]
            go_wp2_with fail
            refine (isQuery _ _).mono ?_
            rintro e wx ⟨rfl, rfl⟩
            rw [HQ2.out]
            go_wp2_with fail
            refine (HRM.out _).mono ?_
            rintro e w6 ⟨rfl, b6⟩
            have b7 := b5.trans (b6.mono b5.size)
            go_wp2
            go_ret2
            exact ⟨ret_v HN.out.symm, b7⟩
          · have HQ2 := Lib.hid (decide_eq_false hy)
            have HN := Lib.hid (HNO.out (by rintro ⟨_, _, _, _, h⟩; exact hy h))
            clear HYES HNO hx hy hxy
            go_wp2_with fail
            refine (isQuery _ _).mono ?_
            rintro e wx ⟨rfl, rfl⟩
            rw [HQ1.out]
            go_wp2_with fail
            refine (isQuery _ _).mono ?_
            rintro e wx ⟨rfl, rfl⟩
            rw [HQ2.out]
            go_wp2
            go_ret2
            exact ⟨ret_v HN.out.symm, b5⟩
        · have HQ1 := Lib.hid (decide_eq_false hx)
          have HN := Lib.hid (HNO.out (by rintro ⟨_, _, _, h, _⟩; exact hx h))
          clear HYES HNO hx hxy
          go_wp2_with fail
          refine (isQuery _ _).mono ?_
          rintro e wx ⟨rfl, rfl⟩
          rw [HQ1.out]
          go_wp2
          go_ret2
          exact ⟨ret_v HN.out.symm, b5⟩
      · have hgt : decide (x < x) = true := by rw [decide_eq_true_iff]; omega
        have hgt2 : x < x := by omega
        have HN := Lib.hid (HNO.out (by rintro ⟨_, _, h, _⟩; exact hxy h))
        clear HYES HNO hxy
        go_wp2
        go_ret2
        exact ⟨ret_v HN.out.symm, b5⟩
  | true =>
    clear hfb
    have hcut2 : Hid (Calls Tryd.prog 60 #[.string (strB q), .string ⟨#[45]⟩] w fun e w' => e = .returned (.tuple #[.string (strB a), .string (strB b), .bool true]) ∧ Below w.heap.size w w') := hcut
    clear hcut
    generalize strB q = s at *
    generalize strB a = sa at *
    generalize strB b = sb at *
    generalize (parI a).1 = x at *
    generalize (parI b).1 = y at *
    generalize (parI a).2 = p at *
    generalize (parI b).2 = r at *
    go_enter Tryd.func48, Tryd.ntmps48
    go_wp2_with fail
    refine hcut2.out.mono ?_
    rintro e w1 ⟨rfl, b1⟩
    go_wp2_with fail
    refine (P1.out _ (HT.out.on b1)).mono ?_
    rintro e w2 ⟨rfl, b2⟩
    have b3 := b1.trans (b2.mono b1.size)
    clear b1 b2
    go_wp2_with fail
    refine (P2.out _ (HT.out.on b3)).mono ?_
    rintro e w3 ⟨rfl, b4⟩
    have b5 := b3.trans (b4.mono b3.size)
    clear b3 b4 P1 P2 HT
    cases p with
    | false =>
      have HN := Lib.hid (HNO.out (by rintro ⟨h, _⟩; cases h))
      clear HYES HNO
      go_wp2
      go_ret2
      exact ⟨ret_v HN.out.symm, b5⟩
    | true =>
      cases r with
      | false =>
        have HN := Lib.hid (HNO.out (by rintro ⟨_, h, _⟩; cases h))
        clear HYES HNO
        go_wp2
        go_ret2
        exact ⟨ret_v HN.out.symm, b5⟩
      | true =>
        by_cases hxy : x ≤ y
        · have hgt : decide (y < x) = false := by rw [decide_eq_false_iff_not]; omega
          have hgt2 : ¬ y < x := by omega
          by_cases hx : 0 ≤ x ∧ x ≤ 23
          · have HQ1 := Lib.hid (decide_eq_true hx)
            by_cases hy : 0 ≤ y ∧ y ≤ 23
            · have HQ2 := Lib.hid (decide_eq_true hy)
              have HN := Lib.hid (HYES.out ⟨rfl, rfl, hxy, hx, hy⟩)
              obtain ⟨f, rfl⟩ := Int.eq_ofNat_of_zero_le hx.1
              obtain ⟨u, rfl⟩ := Int.eq_ofNat_of_zero_le hy.1
              have hfu : f ≤ u := by omega
              have hu : u ≤ 23 := by omega
              have HRM := Lib.hid (fun w => implRunMask f u w hfu hu)
              clear HYES HNO hx hy hxy hfu hu
              go_wp2_with fail
              refine (isQuery _ _).mono ?_
              rintro e wx ⟨rfl, rfl⟩
              rw [HQ1.out]
              go_wp2_with fail
              refine (isQuery _ _).mono ?_
              rintro e wx ⟨rfl, rfl⟩
              rw [HQ2.out]
              go_wp2_with fail
              refine (HRM.out _).mono ?_
              rintro e w6 ⟨rfl, b6⟩
              have b7 := b5.trans (b6.mono b5.size)
              go_wp2
              go_ret2
              exact ⟨ret_v HN.out.symm, b7⟩
            · have HQ2 := Lib.hid (decide_eq_false hy)
              have HN := Lib.hid (HNO.out (by rintro ⟨_, _, _, _, h⟩; exact hy h))
              clear HYES HNO hx hy hxy
              go_wp2_with fail
              refine (isQuery _ _).mono ?_
              rintro e wx ⟨rfl, rfl⟩
              rw [HQ1.out]
              go_wp2_with fail
              refine (isQuery _ _).mono ?_
              rintro e wx ⟨rfl, rfl⟩
              rw [HQ2.out]
              go_wp2
              go_ret2
              exact ⟨ret_v HN.out.symm, b5⟩
          · have HQ1 := Lib.hid (decide_eq_false hx)
            have HN := Lib.hid (HNO.out (by rintro ⟨_, _, _, h, _⟩; exact hx h))
            clear HYES HNO hx hxy
            go_wp2_with fail
            refine (isQuery _ _).mono ?_
            rintro e wx ⟨rfl, rfl⟩
            rw [HQ1.out]
            go_wp2
            go_ret2
            exact ⟨ret_v HN.out.symm, b5⟩
        · have hgt : decide (y < x) = true := by rw [decide_eq_true_iff]; omega
          have hgt2 : y < x := by omega
          have HN := Lib.hid (HNO.out (by rintro ⟨_, _, h, _⟩; exact hxy h))
          clear HYES HNO hxy
          go_wp2
          go_ret2
          exact ⟨ret_v HN.out.symm, b5⟩
end Go.Proofs.YtecfhgfjfnjagaaDoor
