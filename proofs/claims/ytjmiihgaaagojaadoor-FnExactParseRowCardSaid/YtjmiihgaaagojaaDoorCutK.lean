/-
  strings.Cut at a colon.
-/
import Derived.Test.YtjmiihgaaagojaaDoorParPart
import Derived.Test.YtjmiihgaaagojaaDoorShelf
import Derived.Test.YtjmiihgaaagojaaDoorTake
namespace Go.Proofs.YtjmiihgaaagojaaDoor.Colon
open Go.RowKit
set_option linter.unusedVariables false
set_option maxHeartbeats 1000000 in
set_option maxRecDepth 100000 in
theorem cut1_no (q : List UInt8) (w : World) (h : (58 : UInt8) ∉ q) : Calls Tryd.prog 36 #[.string (strB q), .string ⟨#[58]⟩] w fun e w' => e = .returned (.tuple #[.string (strB q), .string (strB []), .bool false]) ∧ w' = w := by
  have hi : Lib.indexByte (strB q).data.toList 58 = -1 := by
    rcases index_cases q 58 with ⟨_, e⟩ | ⟨a, r, e, _⟩
    · exact e
    · exact absurd (by rw [e]; simp) h
  have HI := Lib.hid (Tryd.stringslite_Index_one (strB q) 58 w)
  rw [hi] at HI
  clear hi
  go_enter Tryd.func36, Tryd.ntmps36
  go_wp2_with fail
  refine HI.out.mono ?_
  rintro e w1 ⟨rfl, rfl⟩
  go_wp2
  go_ret3
  exact ⟨rfl, rfl⟩
set_option maxHeartbeats 1000000 in
set_option maxRecDepth 100000 in
theorem cut1_yes (a b : List UInt8) (w : World) (h : (58 : UInt8) ∉ a) (hl : (a ++ 58 :: b).length ≤ 1048576) : Calls Tryd.prog 36 #[.string (strB (a ++ 58 :: b)), .string ⟨#[58]⟩] w fun e w' => e = .returned (.tuple #[.string (strB a), .string (strB b), .bool true]) ∧ Below w.heap.size w w' := by
  have hi : Lib.indexByte (strB (a ++ 58 :: b)).data.toList 58 = (a.length : Int) := by
    rcases index_cases (a ++ 58 :: b) 58 with ⟨g, _⟩ | ⟨c, r, e, hc, e2⟩
    · exact absurd (by simp) g
    · show Lib.indexByte (a ++ 58 :: b) 58 = _
      have h1 := cutL_app b h
      have h2 := cutL_app r hc
      rw [← e, h1] at h2
      rw [e2, (List.cons.inj h2).1]
  have HI := Lib.hid (Tryd.stringslite_Index_one (strB (a ++ 58 :: b)) 58 w)
  rw [hi] at HI
  have hsz : ((strB (a ++ 58 :: b)).size : Int) = (a.length : Int) + 1 + (b.length : Int) := by rw [strB_size]; simp; omega
  have H1 := Lib.hid (strB_take a (58 :: b))
  have H2 := Lib.hid (strB_drop a 58 b)
  have hs2 : (strB (a ++ 58 :: b)).size = (a ++ 58 :: b).length := strB_size _
  rw [← hs2] at H2
  have hl2 : (a.length : Int) ≤ 1048576 := by simp at hl; omega
  clear hi hl hs2
  generalize strB (a ++ 58 :: b) = s at *
  have h0 : (0 : Int) ≤ (a.length : Int) := by omega
  have e1 : IntKind.i64.wrap ((a.length : Int) + 1) = (a.length : Int) + 1 := IntWalk.i64_in _ (by omega)
  have e2 : (0 : Int) ≤ (a.length : Int) + 1 := by omega
  have e3 : (a.length : Int) + 1 ≤ (s.size : Int) := by omega
  have e4 : (a.length : Int) ≤ (s.size : Int) := by omega
  have e5 : ((a.length : Int) + 1).toNat = a.length + 1 := by omega
  go_enter Tryd.func36, Tryd.ntmps36
  go_wp2_with fail
  refine HI.out.mono ?_
  rintro e w1 ⟨rfl, rfl⟩
  go_wp2
  go_quiet (fail)
  go_wp2
  go_ret3
  exact ⟨triple' H1.out H2.out, below_dn (Below.refl _ _) _⟩
set_option maxHeartbeats 1000000 in
theorem cut_no (q : List UInt8) (w : World) (h : (58 : UInt8) ∉ q) : Calls Tryd.prog 25 #[.string (strB q), .string ⟨#[58]⟩] w fun e w' => e = .returned (.tuple #[.string (strB q), .string (strB []), .bool false]) ∧ Below w.heap.size w w' := by
  have HI := Lib.hid (cut1_no q w h)
  go_enter Tryd.func25, Tryd.ntmps25
  go_wp2_with fail
  refine HI.out.mono ?_
  rintro e w1 ⟨rfl, rfl⟩
  go_wp2
  go_ret3
  exact ⟨rfl, Below.refl _ _⟩
set_option maxHeartbeats 1000000 in
theorem cut_yes (a b : List UInt8) (w : World) (h : (58 : UInt8) ∉ a) (hl : (a ++ 58 :: b).length ≤ 1048576) : Calls Tryd.prog 25 #[.string (strB (a ++ 58 :: b)), .string ⟨#[58]⟩] w fun e w' => e = .returned (.tuple #[.string (strB a), .string (strB b), .bool true]) ∧ Below w.heap.size w w' := by
  have HI := Lib.hid (cut1_yes a b w h hl)
  clear hl
  generalize strB (a ++ 58 :: b) = s at *
  go_enter Tryd.func25, Tryd.ntmps25
  go_wp2_with fail
  refine HI.out.mono ?_
  rintro e w1 ⟨rfl, b1⟩
  go_wp2
  go_ret3
  exact ⟨rfl, b1⟩
end Go.Proofs.YtjmiihgaaagojaaDoor.Colon
