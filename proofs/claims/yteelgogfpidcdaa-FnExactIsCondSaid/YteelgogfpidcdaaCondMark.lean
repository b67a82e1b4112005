/-
  Marking conditions and queries: the walks of markCondS and markQuery, of heldCondS and heldQuery.
-/
import Derived.Test.YteelgogfpidcdaaQueryVal
import Derived.Test.YteelgogfpidcdaaRowMark
namespace Go.Proofs.Yteelgogfpidcdaa
open Go.RowKit
set_option linter.unusedVariables false
set_option linter.unusedSimpArgs false
/-- The conditions (k, k + 1, k + 2), (k + 3, ..), .. -/
def mCond (k : Int) (i : Nat) : CondD := (k + 3 * (i : Int), k + 3 * (i : Int) + 1, k + 3 * (i : Int) + 1 + 1)
def marksC (k : Int) (n : Nat) : List CondD := (List.range n).map (mCond k)
theorem marksC_length (k : Int) (n : Nat) : (marksC k n).length = n := by simp [marksC]
theorem marksC_at (k : Int) (n j : Nat) (h : j < n) : (marksC k n).getD j (0, 0, 0) = mCond k j := by simp [marksC, List.getD, h]
def markedCTo (cs : List CondD) (k : Int) (j : Nat) : List CondD := marksC k j ++ cs.drop j
theorem markedCTo_step (cs : List CondD) (k : Int) (j : Nat) (h : j < cs.length) : (markedCTo cs k j).set j (mCond k j) = markedCTo cs k (j + 1) := by
  unfold markedCTo
  rw [List.set_append_right _ _ (by rw [marksC_length]; exact Nat.le_refl _), marksC_length, Nat.sub_self, List.drop_eq_getElem_cons h, List.set_cons_zero]
  simp [marksC, List.range_succ]
theorem markedCTo_length (cs : List CondD) (k : Int) (j : Nat) (h : j ≤ cs.length) : (markedCTo cs k j).length = cs.length := by
  unfold markedCTo; rw [List.length_append, marksC_length, List.length_drop]; omega
theorem markedCTo_all (cs : List CondD) (k : Int) : markedCTo cs k cs.length = marksC k cs.length := by unfold markedCTo; simp
theorem ownsC_form {w : World} {B : Nat} {v : Value} {cs : List CondD} (h : OwnsC w B v cs) : (v = .slice none 0 0 ∧ cs = []) ∨ ∃ g cap, v = .slice (some ⟨g, 0, none⟩) cs.length cap ∧ B ≤ g ∧ g < w.heap.size := by
  rcases h.2 with ⟨e, h0⟩ | ⟨g, cap, cur, e, hb, hg, rest⟩
  · exact Or.inl ⟨e, List.eq_nil_of_length_eq_zero h0⟩
  · exact Or.inr ⟨g, cap, e, hb, (Array.getElem?_eq_some_iff.1 hg).1⟩
def MarkedC (w : World) (B : Nat) (v : Value) (n : Nat) (k : Int) (e : Ending) (w' : World) : Prop := e = .returned (.int .i64 (k + 3 * (n : Int))) ∧ OwnsC w' B v (marksC k n) ∧ w.grownBy w' v.ownBlock
set_option maxHeartbeats 4000000 in
set_option maxRecDepth 100000 in
theorem markCondS_any (v : Value) (cs : List CondD) (B : Nat) (k : Int) (w : World) (h : OwnsC w B v cs) (hn : cs.length ≤ 1048576) (k0 : 0 ≤ k) (k1 : k ≤ 1073741824) :
    Calls Try.prog 69 #[v, .int .i64 k] w (MarkedC w B v cs.length k) := by
  have H := Lib.hid h
  rcases ownsC_form h with ⟨rfl, rfl⟩ | ⟨g, cap, rfl, hBg, hgl⟩
  · clear h
    go_enter Try.func69, Try.ntmps69
    go_wp2
    go_loop [1, 5] (fun m i => i = .int .i64 0 ∧ m = .int .i64 k) (fun _ _ => 0)
    case atStart => exact ⟨rfl, rfl⟩
    case round =>
      obtain ⟨rfl, rfl⟩ := hrel
      go_wp2
      go_ret
      exact ⟨by simp, by rw [show marksC k 0 = [] from rfl]; exact H.out, World.grownBy.refl _ _⟩
  · clear h
    go_enter Try.func69, Try.ntmps69
    go_wp2
    go_loopw [1, 5] (fun m i wr => ∃ j : Nat, j ≤ cs.length ∧ i = .int .i64 j ∧ m = .int .i64 (k + 3 * (j : Int)) ∧ OwnsC wr B (.slice (some ⟨g, 0, none⟩) cs.length cap) (markedCTo cs k j) ∧ w.grownBy wr (some g)) (fun _ i _ => cs.length - (intOf i).toNat)
    case atStart => exact ⟨0, Nat.zero_le _, rfl, by simp, by rw [show markedCTo cs k 0 = cs by simp [markedCTo, marksC]]; exact H.out, World.grownBy.refl _ _⟩
    case round =>
      obtain ⟨j, hj, rfl, rfl, hown, hgr⟩ := hrel
      by_cases hlt : j < cs.length
      · have i1 : (0 : Int) ≤ (j : Int) := by omega
        have i2 : (j : Int) < (cs.length : Int) := by omega
        have hl : j < (markedCTo cs k j).length := by rw [markedCTo_length cs k j hj]; exact hlt
        obtain ⟨⟨x0, q0⟩, ⟨x1, q1⟩, ⟨x2, q2⟩, f0, f1, f2⟩ := ownsC_cells hown hl
        have hst := ownsC_store hown hl (mCond k j)
        rw [markedCTo_step cs k j hlt] at hst
        unfold mCond at hst
        simp only at hst
        have hg2 := grown_more (grown_more (grown_more hgr (grownBy_store wr g (j * 3) (.int .i64 (k + 3 * (j : Int))))) (grownBy_store _ g (j * 3 + 1) (.int .i64 (k + 3 * (j : Int) + 1)))) (grownBy_store _ g (j * 3 + 2) (.int .i64 (k + 3 * (j : Int) + 1 + 1)))
        have HST := Lib.hid hst
        have HG2 := Lib.hid hg2
        clear hst hown hgr hg2 hl
        go_wp2
        go_roundw
        case rel => exact ⟨j + 1, by omega, by go_num, by simp; omega, HST.out, HG2.out⟩
        case measure => simp [intOf]; omega
      · obtain rfl : j = cs.length := by omega
        rw [markedCTo_all] at hown
        go_wp2
        go_ret
        exact ⟨rfl, hown, hgr⟩
theorem ownsC_beside {w w' : World} {B : Nat} {v : Value} {cs : List CondD} {r : Option Nat} (h : OwnsC w B v cs) (hg : w.grownBy w' r) (hne : ∀ b, v.ownBlock = some b → r ≠ some b) : OwnsC w' B v cs := by
  refine h.kept hg ?_
  cases hv : v.ownBlock with
  | none => exact Or.inl rfl
  | some k => exact Or.inr (fun e => hne k hv e.symm)
theorem ownsN_beside {w w' : World} {B : Nat} {v : Value} {xs : List Int} {r : Option Nat} (h : OwnsN w B v xs) (hg : w.grownBy w' r) (hne : ∀ b, v.ownBlock = some b → r ≠ some b) : OwnsN w' B v xs := by
  refine h.kept hg ?_
  cases hv : v.ownBlock with
  | none => exact Or.inl rfl
  | some k => exact Or.inr (fun e => hne k hv e.symm)
theorem ownsC_only {B hi C : Nat} {w w' : World} {v : Value} {cs : List CondD} (h : OwnsC w C v cs) (k : Only B hi w w') (hc : hi ≤ C) : OwnsC w' C v cs := by
  refine ⟨h.1, ?_⟩
  rcases h.2 with hn | ⟨g, cap, cur, rfl, hb', hg, rest⟩
  · exact .inl hn
  · refine .inr ⟨g, cap, cur, rfl, hb', ?_, rest⟩
    rw [k.block g (Array.getElem?_eq_some_iff.1 hg).1 (Or.inr (by omega))]
    exact hg
def MarkedQ (w : World) (B hi : Nat) (cv ov : Value) (n m : Nat) (k : Int) (e : Ending) (w' : World) : Prop :=
  e = .returned (.int .i64 (k + 3 * (n : Int) + (m : Int))) ∧ OwnsC w' B cv (marksC k n) ∧ OwnsN w' B ov (marks (k + 3 * (n : Int)) m) ∧ Only B hi w w'
set_option maxHeartbeats 4000000 in
set_option maxRecDepth 100000 in
theorem markQuery_any (id tn : Int) (cv ov : Value) (cs : List CondD) (os : List Int) (B hi : Nat) (k : Int) (w : World) (h : OwnsC w B cv cs) (g : OwnsN w B ov os) (hd : ∀ b, cv.ownBlock = some b → ov.ownBlock ≠ some b)
    (hc : ∀ b, cv.ownBlock = some b → b < hi) (ho : ∀ b, ov.ownBlock = some b → b < hi) (hhi : hi ≤ w.heap.size) (hn : cs.length ≤ 1048576) (hm : os.length ≤ 1048576) (k0 : 0 ≤ k) (k1 : k ≤ 1048576) :
    Calls Try.prog 32 #[qV id tn cv ov, .int .i64 k] w (MarkedQ w B hi cv ov cs.length os.length k) := by
  obtain ⟨ca, ccap, rfl⟩ := ownsC_len h
  obtain ⟨oa, ocap, rfl⟩ := ints_len (ownsN_ints g)
  have hb : Below w.heap.size w (w.alloc (.cells #[.int .i64 id, .int .i64 tn, .slice ca cs.length ccap, .slice oa os.length ocap] 36)) := (Below.refl _ w).alloc (Nat.le_refl _) _
  have hq := heap_alloc_new w (.cells #[.int .i64 id, .int .i64 tn, .slice ca cs.length ccap, .slice oa os.length ocap] 36)
  have HC := Lib.hid (markCondS_any (.slice ca cs.length ccap) cs B k _ (ownsC_below h hb) hn k0 (by omega))
  have HO := Lib.hid (ownsN_below g hb)
  have hsz : w.heap.size < (w.alloc (.cells #[.int .i64 id, .int .i64 tn, .slice ca cs.length ccap, .slice oa os.length ocap] 36)).heap.size := by simp
  have o1 : Only B hi w (w.alloc (.cells #[.int .i64 id, .int .i64 tn, .slice ca cs.length ccap, .slice oa os.length ocap] 36)) := ⟨hb.os, hb.tape, hb.output, hb.size, fun j hj _ => hb.block j hj⟩
  have HLC := Lib.hid h.lt
  have HLO := Lib.hid g.lt
  have HD := Lib.hid hd
  have HHC := Lib.hid hc
  have HHO := Lib.hid ho
  have O1 := Lib.hid o1
  have HSZ := Lib.hid hsz
  have HQ := Lib.hid hq
  have HK := Lib.hid (fun w (h : OwnsN w B (.slice oa os.length ocap) os) => markIntS_any (.slice oa os.length ocap) os B (k + 3 * (cs.length : Int)) w h hm (by omega) (by omega))
  clear h g hd hc ho hb hq hsz o1
  go_enter Try.func32, Try.ntmps32
  go_wp2_with fail
  generalize w.alloc (.cells #[.int .i64 id, .int .i64 tn, .slice ca cs.length ccap, .slice oa os.length ocap] 36) = W at *
  refine HC.out.mono ?_
  rintro e w1 ⟨rfl, oc1, g1⟩
  have oc := Lib.hid oc1
  have on1 := ownsN_beside HO.out g1 (fun b hb e => HD.out b e hb)
  have hq1 := (g1.block w.heap.size HSZ.out (fun e => absurd (HLC.out _ e.symm).2 (Nat.lt_irrefl _))).trans HQ.out
  have o2 := O1.out.trans (only_grown g1 (fun b hb => ⟨(HLC.out b hb).1, HHC.out b hb⟩))
  have p3 := (cell_of_row w1 _ 3 _ _ _ hq1).trans (show _ = some (Value.slice oa os.length ocap) from rfl)
  have O2 := Lib.hid o2
  have ON := Lib.hid on1
  clear oc1 on1 g1 hq1 o2 O1 HO HQ
  go_wp2_with fail
  refine (HK.out _ ON.out).mono ?_
  rintro e w2 ⟨rfl, on2, g2⟩
  have oc2 := ownsC_beside oc.out g2 (fun b hb e => HD.out b hb e)
  have o3 := O2.out.trans (only_grown g2 (fun b hb => ⟨(HLO.out b hb).1, HHO.out b hb⟩))
  clear p3
  go_wp2
  go_ret
  exact ⟨rfl, oc2, on2, o3⟩
end Go.Proofs.Yteelgogfpidcdaa
