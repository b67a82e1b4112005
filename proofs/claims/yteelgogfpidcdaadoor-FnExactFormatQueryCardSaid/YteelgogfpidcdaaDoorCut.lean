/-
  The walk of the specification's cutting of a text by a sign: it owns the pieces of 'cutL'.
-/
import Derived.Test.YteelgogfpidcdaaDoorStrs
import Derived.Test.YteelgogfpidcdaaDoorFmtSet
namespace Go.Proofs.YteelgogfpidcdaaDoor
open Go.RowKit
set_option linter.unusedVariables false
/-- The pieces of a text, cut at each b; p is the piece under way. -/
def cutGo (b : UInt8) : List UInt8 → List UInt8 → List (List UInt8)
  | p, [] => [p]
  | p, c :: r => if c = b then p :: cutGo b [] r else cutGo b (p ++ [c]) r
def cutL (b : UInt8) (l : List UInt8) : List (List UInt8) := cutGo b [] l
theorem drop_at (s : ByteArray) (m : Nat) (h : m < s.size) : s.data.toList.drop m = s[m] :: s.data.toList.drop (m + 1) := by
  rw [List.drop_eq_getElem_cons (by simpa using h)]
  rfl
theorem cut_hit {b : UInt8} {p : List UInt8} {s : ByteArray} {m : Nat} (h : m < s.size) (hb : s[m] = b) : cutGo b p (s.data.toList.drop m) = p :: cutGo b [] (s.data.toList.drop (m + 1)) := by
  rw [drop_at s m h]
  show (if s[m] = b then _ else _) = _
  rw [if_pos hb]
theorem cut_miss {b : UInt8} {p : List UInt8} {s : ByteArray} {m : Nat} (h : m < s.size) (hb : ¬ s[m] = b) : cutGo b p (s.data.toList.drop m) = cutGo b (p ++ [s[m]]) (s.data.toList.drop (m + 1)) := by
  rw [drop_at s m h]
  show (if s[m] = b then _ else _) = _
  rw [if_neg hb]
theorem ext_one (s : ByteArray) (m : Nat) (h : m < s.size) : s.extract m (m + 1) = strB [s[m]] := by
  apply ByteArray.ext
  apply Array.ext'
  simp only [ByteArray.data_extract, Array.toList_extract, strB]
  rw [List.extract_eq_take_drop, show m + 1 - m = 1 by omega, drop_at s m h]
  rfl
theorem strB_app (a b : List UInt8) : strB a ++ strB b = strB (a ++ b) := by
  apply ByteArray.ext
  simp [strB, ByteArray.data_append]
theorem cutGo_len (b : UInt8) : ∀ (l p : List UInt8), (cutGo b p l).length ≤ l.length + 1 := by
  intro l
  induction l with
  | nil => intro p; simp [cutGo]
  | cons c r ih =>
    intro p
    unfold cutGo
    split
    · have := ih []; simp; omega
    · have := ih (p ++ [c]); simp; omega
set_option maxHeartbeats 4000000 in
set_option maxRecDepth 100000 in
theorem specCut (s : ByteArray) (b : UInt8) (c : Int) (w : World) (hc : (b.toNat : Int) = c) (hs : s.size ≤ 1048576) :
    Calls Tryd.prog 61 #[.string s, .int .u8 c] w fun e w' => ∃ v, e = .returned v ∧ OwnsS w' w.heap.size v ((cutL b s.data.toList).map strB) ∧ Below w.heap.size w w' := by
  subst hc
  go_enter Tryd.func61, Tryd.ntmps61
  go_wp2
  go_loopw [5, 6, 7] (fun v t i wr => ∃ (m : Nat) (os : List (List UInt8)) (p : List UInt8), m ≤ s.size ∧ i = .int .i64 m ∧ t = .string (strB p) ∧ p.length ≤ m ∧ os.length ≤ m ∧ OwnsS wr w.heap.size v (os.map strB) ∧ Below w.heap.size w wr ∧ Hid (os ++ cutGo b p (s.data.toList.drop m) = cutL b s.data.toList)) (fun _ _ i _ => s.size - (intOf i).toNat)
  case atStart => exact ⟨0, [], [], Nat.zero_le _, rfl, rfl, Nat.le_refl _, Nat.le_refl _, ownsS_lit w _ (Nat.le_refl _) #[] 0 [] rfl rfl (by decide), (Below.refl _ _).alloc (Nat.le_refl _) _, Lib.hid rfl⟩
  case round =>
    obtain ⟨m, os, p, hm, rfl, rfl, hpl, hol, hown, hbel, hcut⟩ := hrel
    have hB := hbel.size
    by_cases hlt : m < s.size
    · have i1 : (0 : Int) ≤ (m : Int) := by omega
      have i2 : (m : Int) < (s.size : Int) := by omega
      by_cases hb : s[m] = b
      · have HC : Hid ((os ++ [p]) ++ cutGo b [] (s.data.toList.drop (m + 1)) = cutL b s.data.toList) := Lib.hid (by rw [← hcut.out, cut_hit hlt hb]; simp)
        have hbn : s[m].toNat = b.toNat := by rw [hb]
        have hlen : Hid ((os.map strB).length + 1 ≤ 8796093022208) := Lib.hid (by simp; omega)
        clear hcut hb
        go_wp2_with (at_builtin; refine append_strs rfl (.tmp 20) (.tmp 22) rfl w.heap.size _ _ rfl hown hB _ [strB p] 1 _ rfl (by first | rfl | (simp; done)) rfl (by have := hlen.out; simp at this ⊢; omega) ?_)
        intro v' w4 hown3 hb3
        have hb4 := hbel.trans hb3
        clear hown hbel hb3
        go_wp2
        go_roundw
        case rel => exact ⟨m + 1, os ++ [p], [], by omega, by go_num, rfl, Nat.zero_le _, by simp; omega, by simpa using hown3, hb4, HC⟩
        case measure => simp [intOf]; omega
      · have HC : Hid (os ++ cutGo b (p ++ [s[m]]) (s.data.toList.drop (m + 1)) = cutL b s.data.toList) := Lib.hid (by rw [← hcut.out, cut_miss hlt hb])
        have hbn : ¬ s[m].toNat = b.toNat := fun g => hb (UInt8.toNat_inj.1 g)
        have e1 : IntKind.i64.wrap ((m : Int) + 1) = (m : Int) + 1 := IntWalk.i64_in _ (by omega)
        have d : ∀ w, (Op.stringOp .add (strB p) (s.extract m (m + 1))).run Tryd.prog w = .ok (.string (strB (p ++ [s[m]]))) w := by rw [ext_one s m hlt]; exact strB_add p [s[m]] (by simp; omega)
        clear hcut hb
        go_wp2
        go_roundw
        case rel => exact ⟨m + 1, os, p ++ [s[m]], by omega, by go_num, rfl, by simp; omega, by omega, hown, hbel, HC⟩
        case measure => simp [intOf]; omega
    · obtain rfl : m = s.size := by omega
      have HC : Hid (os ++ [p] = cutL b s.data.toList) := Lib.hid (by rw [← hcut.out, List.drop_eq_nil_of_le (by simp)]; rfl)
      have hlen : Hid ((os.map strB).length + 1 ≤ 8796093022208) := Lib.hid (by simp; omega)
      clear hcut
      go_wp2_with (at_builtin; refine append_strs rfl (.tmp 31) (.tmp 33) rfl w.heap.size _ _ rfl hown hB _ [strB p] 1 _ rfl (by first | rfl | (simp; done)) rfl (by have := hlen.out; simp at this ⊢; omega) ?_)
      intro v' w4 hown3 hb3
      have hb4 := hbel.trans hb3
      clear hown hbel hb3
      go_wp2
      go_ret
      exact ⟨_, rfl, by rw [← HC.out]; simpa using hown3, hb4⟩
end Go.Proofs.YteelgogfpidcdaaDoor
