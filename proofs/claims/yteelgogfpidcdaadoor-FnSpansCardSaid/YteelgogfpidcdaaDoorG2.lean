/-
  Texts of the proof, merged: FmtSet, Cut, ParMath, NumMath, ParWalks, ParSetMath, QueryCut, RowFmt, QueryFmt, QuerySl, QueryParM, ParPart, RowParM, QueryProgM, QueryIsP, SplitC, Iter, ParImpl, SplitInts, AppConds, ParSet, CondMark, QueryParS, AppStrs, QueryParP, QueryOwn, QueryHold.
-/
import Derived.Test.YteelgogfpidcdaaDoorG1
import Derived.Test.YteelgogfpidcdaaDoorShelf
import Derived.IntWalk
import Derived.Lib.Strings
import Derived.Laws.BitsLemmas
import Derived.WalkKit
import Derived.Maps.AppendAt
import Derived.Lib.Split
import Derived.Lib.IndexMore
import Derived.RangeFuncNested
import Derived.RangeFuncBound
import Derived.RangeFuncCalls
import Derived.RangeFuncLeaves
import Derived.Shelf.Abstract
import Derived.Shelf.RegionOpen
import Derived.OwnWalkIn
import Derived.TacticsInMore
import Derived.LoopNIn
import Derived.LoopIn
import Derived.Laws.RangeAny
import Derived.Deep.CutRange
import Derived.Deep.Upon
namespace Go.Proofs.YteelgogfpidcdaaDoor
open Go.RowKit
set_option linter.unusedVariables false
/-- A text as a string. -/
def strB (l : List UInt8) : ByteArray := ⟨l.toArray⟩
theorem strB_size (l : List UInt8) : (strB l).size = l.length := by simp [strB, ByteArray.size]
theorem strB_add (a b : List UInt8) (h : a.length + b.length ≤ 1073741824) (w : World) : (Op.stringOp .add (strB a) (strB b)).run Tryd.prog w = .ok (.string (strB (a ++ b))) w := by
  rw [run_string_add_sum w _ _ (by rw [strB_size, strB_size]; omega)]
  congr 2
theorem strB_toList (l : List UInt8) : (strB l).toList = l := by rw [ByteArray.toList_eq]; rfl
theorem strB_none {l : List UInt8} (h : l = []) : (strB l).toList = [] ∧ (strB l).toList.isEmpty = true := by rw [strB_toList, h]; exact ⟨rfl, rfl⟩
theorem strB_some {l : List UInt8} (h : l ≠ []) : ¬ (strB l).toList = [] ∧ (strB l).toList.isEmpty = false := by
  rw [strB_toList]
  cases l with
  | nil => exact absurd rfl h
  | cons a r => exact ⟨by simp, rfl⟩
theorem fmtB (n : Int) (w : World) (h0 : 0 ≤ n) (h1 : n ≤ 23) : Calls Tryd.prog 44 #[.int .i64 n] w fun e w' => e = .returned (.string (strB (Lib.itoa n))) ∧ Below w.heap.size w w' := specFmt n w (by omega) (by omega)
theorem set_ge {l : List Int} (h : SetL l) : ∀ i, i < l.length → (i : Int) ≤ l.getD i 0 := by
  intro i
  induction i with
  | zero => intro hi; have := h.1 0 hi; omega
  | succ i ih => intro hi; have h1 := ih (by omega); have h2 := h.2 i hi; omega
theorem set_len {l : List Int} (h : SetL l) : l.length ≤ 24 := by
  by_cases h0 : l.length = 0
  · omega
  · have h1 := set_ge h (l.length - 1) (by omega)
    have h2 := h.1 (l.length - 1) (by omega)
    omega
/-- FormatSet. -/
def fmtSet (l : List Int) : List UInt8 := if setB l then fmtRuns l else []
theorem fmtSet_no {l : List Int} (h : setB l = false) : fmtSet l = [] := by unfold fmtSet; rw [h]; rfl
theorem fmtSet_nil : fmtSet [] = [110, 111, 110, 101] := rfl
theorem fmtSet_yes {l : List Int} (h : setB l = true) (h0 : l ≠ []) : fmtSet l = glue [] (runs l) := by unfold fmtSet fmtRuns; rw [h, if_neg h0]; rfl
theorem glue_one (s : List UInt8) (r : Int × Int) (t : List (Int × Int)) : glue s (r :: t) = glue ((if s = [] then s else s ++ [32]) ++ runText r) t := rfl
theorem text_one {x y : Int} (h : x = y) : runText (x, y) = Lib.itoa x := by unfold runText; rw [if_pos h]
theorem text_two {x y : Int} (h : x ≠ y) : runText (x, y) = Lib.itoa x ++ 45 :: Lib.itoa y := by unfold runText; rw [if_neg h]
theorem ret_s {a b : List UInt8} (h : a = b) : Ending.returned (.string (strB a)) = .returned (.string (strB b)) := by rw [h]
theorem run_up (l : List Int) (i n : Nat) (h : ∀ j, j < n → l.getD (i + j + 1) 0 = l.getD (i + j) 0 + 1) : l.getD (i + n) 0 = l.getD i 0 + n := by
  induction n with
  | zero => simp
  | succ n ih => have h1 := ih (fun j hj => h j (by omega)); have h2 := h n (by omega); rw [show i + (n + 1) = i + n + 1 by omega, h2, h1]; omega
theorem below_step {q : Nat} {w wr w5 : World} (h : Below w.heap.size w wr) (h5 : Below (wr.drewN q).heap.size (wr.drewN q) w5) : Below w.heap.size w w5 := by
  have h2 : Below w.heap.size w (wr.drewN q) := below_same h rfl rfl rfl rfl
  exact h2.trans (h5.mono h2.size)
theorem specFmtSet_no (v : Value) (xs : List Int) (w : World) (h : Ints w v xs) (hn : xs.length ≤ 1073741824) (hs : setB xs = false) :
    Calls Tryd.prog 43 #[v] w fun e w' => e = .returned (.string (strB (fmtSet xs))) ∧ Below w.heap.size w w' := by
  have H := Lib.hid h
  have HS := Lib.hid hs
  have HE := Lib.hid (fmtSet_no hs)
  clear h hs
  go_enter Tryd.func43, Tryd.ntmps43
  go_wp2_with fail
  refine (specIsSetBig v xs _ H.out hn).mono ?_
  rintro e w1 ⟨rfl, b1⟩
  rw [HS.out]
  go_wp2
  go_ret
  exact ⟨ret_s HE.out.symm, b1⟩
set_option maxHeartbeats 16000000 in
set_option maxRecDepth 100000 in
theorem specFmtSet_yes (v : Value) (xs : List Int) (w : World) (h : Ints w v xs) (hn : xs.length ≤ 1073741824) (hs : setB xs = true) :
    Calls Tryd.prog 43 #[v] w fun e w' => e = .returned (.string (strB (fmtSet xs))) ∧ Below w.heap.size w w' := by
  have hset := (setB_iff xs).1 hs
  have hl24 := set_len hset
  have H := Lib.hid h
  have HS := Lib.hid hs
  have HR := Lib.hid hset.1
  obtain ⟨a, cap, rfl⟩ := ints_len h
  clear h hs hset
  go_enter Tryd.func43, Tryd.ntmps43
  go_wp2_with fail
  refine (specIsSetBig _ xs _ H.out hn).mono ?_
  rintro e w1 ⟨rfl, b1⟩
  rw [HS.out]
  go_wp2
  go_loopw [3, 4] (fun s i wr => ∃ (k : Nat) (t : List UInt8), k ≤ xs.length ∧ i = .int .i64 k ∧ s = .string (strB t) ∧ t.length ≤ 45 * k ∧ Below w.heap.size w wr ∧ Hid (glue t (runs (xs.drop k)) = glue [] (runs xs)) ∧ Hid (t = [] ↔ k = 0)) (fun _ i _ => xs.length - (intOf i).toNat)
  case atStart => exact ⟨0, [], Nat.zero_le _, rfl, rfl, by simp, b1, Lib.hid rfl, Lib.hid ⟨fun _ => rfl, fun _ => rfl⟩⟩
  case round =>
    obtain ⟨k, t, hk, rfl, rfl, htl, hbel, hgl, hte⟩ := hrel
    clear b1
    by_cases hlt : k < xs.length
    · obtain ⟨b, off, cap', hv, hbl, hc⟩ := ints_cell H.out (by omega)
      simp only [Value.slice.injEq] at hv
      obtain ⟨rfl, _, rfl⟩ := hv
      have HC := Lib.hid hc
      clear hc
      obtain ⟨wo, hwo⟩ : ∃ wo : World, wo = wr := ⟨_, rfl⟩
      subst hwo
      have i1 : (0 : Int) ≤ (k : Int) := by omega
      have i2 : (k : Int) < (xs.length : Int) := by omega
      go_wp2
      go_loopw [5] (fun j wr => ∃ n : Nat, k + n < xs.length ∧ j = .int .i64 ((k + n : Nat) : Int) ∧ Below w.heap.size w wr ∧ Hid (∀ j, j < n → xs.getD (k + j + 1) 0 = xs.getD (k + j) 0 + 1)) (fun j _ => xs.length - (intOf j).toNat)
      case atStart => exact ⟨0, by omega, rfl, hbel, Lib.hid (fun j hj => by omega)⟩
      case round =>
        obtain ⟨n, hkn, rfl, hbel2, hcon⟩ := hrel
        clear hbel
        have hcell := (hbel2.cell (p := ⟨b, off + (k + n), none⟩) hbl).trans (HC.out (k + n) hkn)
        have hcellk := (hbel2.cell (p := ⟨b, off + k, none⟩) hbl).trans (HC.out k hlt)
        have hrk := HR.out k hlt
        have hrm := HR.out (k + n) hkn
        have HUP := Lib.hid (run_up xs k n hcon.out)
        generalize hm : k + n = m at *
        by_cases hn1 : m + 1 < xs.length
        · have hcell1 := (hbel2.cell (p := ⟨b, off + (m + 1), none⟩) hbl).trans (HC.out (m + 1) hn1)
          have i3 : (0 : Int) ≤ (m : Int) + 1 := by omega
          have i4 : (m : Int) + 1 < (xs.length : Int) := by omega
          have i5 : (0 : Int) ≤ (m : Int) := by omega
          have i6 : (m : Int) < (xs.length : Int) := by omega
          have e1 : IntKind.i64.wrap ((m : Int) + 1) = (m : Int) + 1 := IntWalk.i64_in _ (by omega)
          have e2 : IntKind.i64.wrap (xs.getD m 0 + 1) = xs.getD m 0 + 1 := IntWalk.i64_in _ (by omega)
          have i7 : ((m : Int) + 1).toNat = m + 1 := by omega
          by_cases hne : xs.getD (m + 1) 0 = xs.getD m 0 + 1
          · have HN : Hid (∀ j, j < n + 1 → xs.getD (k + j + 1) 0 = xs.getD (k + j) 0 + 1) := Lib.hid (fun j hj => by
              by_cases e : j = n
              · rw [e, hm]; exact hne
              · exact hcon.out j (by omega))
            have heq : (xs.getD (m + 1) 0 == xs.getD m 0 + 1) = true := by rw [beq_iff_eq]; exact hne
            have HMK := Lib.hid hm
            clear hne hm hcellk HUP
            generalize xs.getD (m + 1) 0 = z at *
            generalize xs.getD m 0 = y at *
            clear hcon
            go_wp2_with fail
            go_quiet (fail)
            go_wp2
            go_roundw
            case rel => exact ⟨n + 1, by have := HMK.out; omega, by have := HMK.out; go_num, below_same hbel2 rfl rfl rfl rfl, HN⟩
            case measure => simp [intOf]; omega
          · have heq : (xs.getD (m + 1) 0 == xs.getD m 0 + 1) = false := by rw [beq_eq_false_iff_ne]; exact hne
            have HNE := Lib.hid hne
            clear hne
            generalize hz : xs.getD (m + 1) 0 = z at hcell1 heq
            clear hz
            have HM : Hid (runs (xs.drop k) = (xs.getD k 0, xs.getD m 0) :: runs (xs.drop (m + 1))) := Lib.hid (by rw [← hm]; exact run_max xs n k (by omega) hcon.out (by rw [hm]; exact fun _ => HNE.out))
            have HG : Hid (glue ((if t = [] then t else t ++ [32]) ++ runText (xs.getD k 0, xs.getD m 0)) (runs (xs.drop (m + 1))) = glue [] (runs xs)) := Lib.hid (by rw [← glue_one, ← HM.out]; exact hgl.out)
            clear HM hgl hcon
            generalize hx : xs.getD k 0 = x at *
            obtain ⟨x0, x1⟩ := hrk
            generalize hy : xs.getD m 0 = y at *
            obtain ⟨y0, y1⟩ := hrm
            have hlx := Lib.hid (Lib.itoa_length_le x (by omega) (by omega))
            have hly := Lib.hid (Lib.itoa_length_le y (by omega) (by omega))
            have HXY : Hid (y = x + (n : Int)) := Lib.hid HUP.out
            clear HUP hx hy
            have HKM : Hid (m = k + n) := Lib.hid hm.symm
            have hkm : k ≤ m := by omega
            clear hm
            by_cases ht : t = []
            · have f := strB_none ht
              obtain ⟨f1, f2⟩ := f
              have HG2 : Hid (glue (t ++ runText (x, y)) (runs (xs.drop (m + 1))) = glue [] (runs xs)) := Lib.hid (by have := HG.out; rwa [if_pos ht] at this)
              have d2 := strB_add t (Lib.itoa x) (by have := hlx.out; omega)
              clear HG ht
              by_cases hn0 : n = 0
              · have hxy : x = y := by have := HXY.out; omega
                have hmk : m = k := by have := HKM.out; omega
                have HF : Hid (glue (t ++ Lib.itoa x) (runs (xs.drop (m + 1))) = glue [] (runs xs)) := Lib.hid (by have := HG2.out; rwa [text_one hxy] at this)
                have HT : Hid (t ++ Lib.itoa x = [] ↔ m + 1 = 0) := Lib.hid ⟨fun g => absurd (List.append_eq_nil_iff.1 g).2 (itoa_ne _), fun g => by omega⟩
                have HLEN : Hid ((t ++ Lib.itoa x).length ≤ 45 * (m + 1)) := Lib.hid (by have := hlx.out; simp; omega)
                have hgt : decide (k < m) = false := by rw [decide_eq_false_iff_not]; omega
                have HMK := Lib.hid hmk
                clear hxy hn0 hmk HG2
                go_wp2_with fail
                go_quiet (fail)
                go_wp2_with (go_at_call 44; refine (fmtB x _ x0 x1).mono ?_; rintro e w5 ⟨rfl, hb5⟩)
                go_roundw
                case rel => exact ⟨m + 1, t ++ Lib.itoa x, by omega, by go_num, by simp, HLEN.out, below_step hbel2 hb5, HF, HT⟩
                case measure => simp [intOf]; omega
              · have hxy : x ≠ y := by have := HXY.out; omega
                have HF : Hid (glue (t ++ Lib.itoa x ++ [45] ++ Lib.itoa y) (runs (xs.drop (m + 1))) = glue [] (runs xs)) := Lib.hid (by have := HG2.out; rw [text_two hxy] at this; simpa using this)
                have HT : Hid (t ++ Lib.itoa x ++ [45] ++ Lib.itoa y = [] ↔ m + 1 = 0) := Lib.hid ⟨fun g => absurd (List.append_eq_nil_iff.1 g).2 (itoa_ne _), fun g => by omega⟩
                have HLEN : Hid ((t ++ Lib.itoa x ++ [45] ++ Lib.itoa y).length ≤ 45 * (m + 1)) := Lib.hid (by have := hlx.out; have := hly.out; have := HKM.out; simp; omega)
                have hgt : k < m := by have := HKM.out; omega
                have d3 : ∀ w, (Op.stringOp .add (strB (t ++ Lib.itoa x)) ⟨#[45]⟩).run Tryd.prog w = .ok (.string (strB (t ++ Lib.itoa x ++ [45]))) w := strB_add (t ++ Lib.itoa x) [45] (by have := hlx.out; simp; omega)
                have d4 := strB_add (t ++ Lib.itoa x ++ [45]) (Lib.itoa y) (by have := hlx.out; have := hly.out; simp; omega)
                simp only [List.append_assoc, List.cons_append, List.nil_append] at d4
                clear hxy hn0 HG2
                go_wp2_with fail
                go_quiet (fail)
                go_wp2_with fail
                refine (fmtB x _ x0 x1).mono ?_
                rintro e w5 ⟨rfl, hb5⟩
                have hb6 := below_step hbel2 hb5
                have hcell6 := (hb6.cell (p := ⟨b, off + m, none⟩) hbl).trans ((hbel2.cell (p := ⟨b, off + m, none⟩) hbl).symm.trans hcell)
                clear hb5 hcellk hcell
                go_wp2_with fail
                refine (fmtB y _ y0 y1).mono ?_
                rintro e w6 ⟨rfl, hb7⟩
                go_wp2
                go_roundw
                case rel => exact ⟨m + 1, t ++ Lib.itoa x ++ [45] ++ Lib.itoa y, by omega, by go_num, by simp, HLEN.out, hb6.trans (hb7.mono hb6.size), HF, HT⟩
                case measure => simp [intOf]; omega
            · have f := strB_some ht
              obtain ⟨f1, f2⟩ := f
              have HG2 : Hid (glue ((t ++ [32]) ++ runText (x, y)) (runs (xs.drop (m + 1))) = glue [] (runs xs)) := Lib.hid (by have := HG.out; rwa [if_neg ht] at this)
              have d1 : ∀ w, (Op.stringOp .add (strB t) ⟨#[32]⟩).run Tryd.prog w = .ok (.string (strB (t ++ [32]))) w := strB_add t [32] (by simp; omega)
              have d2 := strB_add (t ++ [32]) (Lib.itoa x) (by have := hlx.out; simp; omega)
              clear HG ht
              by_cases hn0 : n = 0
              · have hxy : x = y := by have := HXY.out; omega
                have hmk : m = k := by have := HKM.out; omega
                have HF : Hid (glue ((t ++ [32]) ++ Lib.itoa x) (runs (xs.drop (m + 1))) = glue [] (runs xs)) := Lib.hid (by have := HG2.out; rwa [text_one hxy] at this)
                have HT : Hid ((t ++ [32]) ++ Lib.itoa x = [] ↔ m + 1 = 0) := Lib.hid ⟨fun g => absurd (List.append_eq_nil_iff.1 g).2 (itoa_ne _), fun g => by omega⟩
                have HLEN : Hid (((t ++ [32]) ++ Lib.itoa x).length ≤ 45 * (m + 1)) := Lib.hid (by have := hlx.out; simp; omega)
                have hgt : decide (k < m) = false := by rw [decide_eq_false_iff_not]; omega
                have HMK := Lib.hid hmk
                clear hxy hn0 hmk HG2
                go_wp2_with fail
                go_quiet (fail)
                go_wp2_with (go_at_call 44; refine (fmtB x _ x0 x1).mono ?_; rintro e w5 ⟨rfl, hb5⟩)
                go_roundw
                case rel => exact ⟨m + 1, (t ++ [32]) ++ Lib.itoa x, by omega, by go_num, by simp, HLEN.out, below_step hbel2 hb5, HF, HT⟩
                case measure => simp [intOf]; omega
              · have hxy : x ≠ y := by have := HXY.out; omega
                have HF : Hid (glue ((t ++ [32]) ++ Lib.itoa x ++ [45] ++ Lib.itoa y) (runs (xs.drop (m + 1))) = glue [] (runs xs)) := Lib.hid (by have := HG2.out; rw [text_two hxy] at this; simpa using this)
                have HT : Hid ((t ++ [32]) ++ Lib.itoa x ++ [45] ++ Lib.itoa y = [] ↔ m + 1 = 0) := Lib.hid ⟨fun g => absurd (List.append_eq_nil_iff.1 g).2 (itoa_ne _), fun g => by omega⟩
                have HLEN : Hid (((t ++ [32]) ++ Lib.itoa x ++ [45] ++ Lib.itoa y).length ≤ 45 * (m + 1)) := Lib.hid (by have := hlx.out; have := hly.out; have := HKM.out; simp; omega)
                have hgt : k < m := by have := HKM.out; omega
                have d3 : ∀ w, (Op.stringOp .add (strB ((t ++ [32]) ++ Lib.itoa x)) ⟨#[45]⟩).run Tryd.prog w = .ok (.string (strB ((t ++ [32]) ++ Lib.itoa x ++ [45]))) w := strB_add ((t ++ [32]) ++ Lib.itoa x) [45] (by have := hlx.out; simp; omega)
                have d4 := strB_add ((t ++ [32]) ++ Lib.itoa x ++ [45]) (Lib.itoa y) (by have := hlx.out; have := hly.out; simp; omega)
                simp only [List.append_assoc, List.cons_append, List.nil_append] at d4
                simp only [List.append_assoc, List.cons_append, List.nil_append] at d3
                clear hxy hn0 HG2
                go_wp2_with fail
                go_quiet (fail)
                go_wp2_with fail
                refine (fmtB x _ x0 x1).mono ?_
                rintro e w5 ⟨rfl, hb5⟩
                have hb6 := below_step hbel2 hb5
                have hcell6 := (hb6.cell (p := ⟨b, off + m, none⟩) hbl).trans ((hbel2.cell (p := ⟨b, off + m, none⟩) hbl).symm.trans hcell)
                clear hb5 hcellk hcell
                go_wp2_with fail
                refine (fmtB y _ y0 y1).mono ?_
                rintro e w6 ⟨rfl, hb7⟩
                go_wp2
                go_roundw
                case rel => exact ⟨m + 1, (t ++ [32]) ++ Lib.itoa x ++ [45] ++ Lib.itoa y, by omega, by go_num, by simp, HLEN.out, hb6.trans (hb7.mono hb6.size), HF, HT⟩
                case measure => simp [intOf]; omega
        · have i3 : ¬ ((m : Int) + 1 < (xs.length : Int)) := by omega
          have i4 : decide ((m : Int) + 1 < (xs.length : Int)) = false := decide_eq_false i3
          have i5 : (0 : Int) ≤ (m : Int) := by omega
          have i6 : (m : Int) < (xs.length : Int) := by omega
          have e1 : IntKind.i64.wrap ((m : Int) + 1) = (m : Int) + 1 := IntWalk.i64_in _ (by omega)
          have HM : Hid (runs (xs.drop k) = (xs.getD k 0, xs.getD m 0) :: runs (xs.drop (m + 1))) := Lib.hid (by rw [← hm]; exact run_max xs n k (by omega) hcon.out (by rw [hm]; exact fun g => absurd g hn1))
          have HG : Hid (glue ((if t = [] then t else t ++ [32]) ++ runText (xs.getD k 0, xs.getD m 0)) (runs (xs.drop (m + 1))) = glue [] (runs xs)) := Lib.hid (by rw [← glue_one, ← HM.out]; exact hgl.out)
          clear HM hgl hcon
          generalize hx : xs.getD k 0 = x at *
          obtain ⟨x0, x1⟩ := hrk
          generalize hy : xs.getD m 0 = y at *
          obtain ⟨y0, y1⟩ := hrm
          have hlx := Lib.hid (Lib.itoa_length_le x (by omega) (by omega))
          have hly := Lib.hid (Lib.itoa_length_le y (by omega) (by omega))
          have HXY : Hid (y = x + (n : Int)) := Lib.hid HUP.out
          clear HUP hx hy
          have HKM : Hid (m = k + n) := Lib.hid hm.symm
          have hkm : k ≤ m := by omega
          clear hm
          by_cases ht : t = []
          · have f := strB_none ht
            obtain ⟨f1, f2⟩ := f
            have HG2 : Hid (glue (t ++ runText (x, y)) (runs (xs.drop (m + 1))) = glue [] (runs xs)) := Lib.hid (by have := HG.out; rwa [if_pos ht] at this)
            have d2 := strB_add t (Lib.itoa x) (by have := hlx.out; omega)
            clear HG ht
            by_cases hn0 : n = 0
            · have hxy : x = y := by have := HXY.out; omega
              have hmk : m = k := by have := HKM.out; omega
              have HF : Hid (glue (t ++ Lib.itoa x) (runs (xs.drop (m + 1))) = glue [] (runs xs)) := Lib.hid (by have := HG2.out; rwa [text_one hxy] at this)
              have HT : Hid (t ++ Lib.itoa x = [] ↔ m + 1 = 0) := Lib.hid ⟨fun g => absurd (List.append_eq_nil_iff.1 g).2 (itoa_ne _), fun g => by omega⟩
              have HLEN : Hid ((t ++ Lib.itoa x).length ≤ 45 * (m + 1)) := Lib.hid (by have := hlx.out; simp; omega)
              have hgt : decide (k < m) = false := by rw [decide_eq_false_iff_not]; omega
              have HMK := Lib.hid hmk
              clear hxy hn0 hmk HG2
              go_wp2_with fail
              go_quiet (fail)
              go_wp2_with (go_at_call 44; refine (fmtB x _ x0 x1).mono ?_; rintro e w5 ⟨rfl, hb5⟩)
              go_roundw
              case rel => exact ⟨m + 1, t ++ Lib.itoa x, by omega, by go_num, by simp, HLEN.out, below_step hbel2 hb5, HF, HT⟩
              case measure => simp [intOf]; omega
            · have hxy : x ≠ y := by have := HXY.out; omega
              have HF : Hid (glue (t ++ Lib.itoa x ++ [45] ++ Lib.itoa y) (runs (xs.drop (m + 1))) = glue [] (runs xs)) := Lib.hid (by have := HG2.out; rw [text_two hxy] at this; simpa using this)
              have HT : Hid (t ++ Lib.itoa x ++ [45] ++ Lib.itoa y = [] ↔ m + 1 = 0) := Lib.hid ⟨fun g => absurd (List.append_eq_nil_iff.1 g).2 (itoa_ne _), fun g => by omega⟩
              have HLEN : Hid ((t ++ Lib.itoa x ++ [45] ++ Lib.itoa y).length ≤ 45 * (m + 1)) := Lib.hid (by have := hlx.out; have := hly.out; have := HKM.out; simp; omega)
              have hgt : k < m := by have := HKM.out; omega
              have d3 : ∀ w, (Op.stringOp .add (strB (t ++ Lib.itoa x)) ⟨#[45]⟩).run Tryd.prog w = .ok (.string (strB (t ++ Lib.itoa x ++ [45]))) w := strB_add (t ++ Lib.itoa x) [45] (by have := hlx.out; simp; omega)
              have d4 := strB_add (t ++ Lib.itoa x ++ [45]) (Lib.itoa y) (by have := hlx.out; have := hly.out; simp; omega)
              simp only [List.append_assoc, List.cons_append, List.nil_append] at d4
              clear hxy hn0 HG2
              go_wp2_with fail
              go_quiet (fail)
              go_wp2_with fail
              refine (fmtB x _ x0 x1).mono ?_
              rintro e w5 ⟨rfl, hb5⟩
              have hb6 := below_step hbel2 hb5
              have hcell6 := (hb6.cell (p := ⟨b, off + m, none⟩) hbl).trans ((hbel2.cell (p := ⟨b, off + m, none⟩) hbl).symm.trans hcell)
              clear hb5 hcellk hcell
              go_wp2_with fail
              refine (fmtB y _ y0 y1).mono ?_
              rintro e w6 ⟨rfl, hb7⟩
              go_wp2
              go_roundw
              case rel => exact ⟨m + 1, t ++ Lib.itoa x ++ [45] ++ Lib.itoa y, by omega, by go_num, by simp, HLEN.out, hb6.trans (hb7.mono hb6.size), HF, HT⟩
              case measure => simp [intOf]; omega
          · have f := strB_some ht
            obtain ⟨f1, f2⟩ := f
            have HG2 : Hid (glue ((t ++ [32]) ++ runText (x, y)) (runs (xs.drop (m + 1))) = glue [] (runs xs)) := Lib.hid (by have := HG.out; rwa [if_neg ht] at this)
            have d1 : ∀ w, (Op.stringOp .add (strB t) ⟨#[32]⟩).run Tryd.prog w = .ok (.string (strB (t ++ [32]))) w := strB_add t [32] (by simp; omega)
            have d2 := strB_add (t ++ [32]) (Lib.itoa x) (by have := hlx.out; simp; omega)
            clear HG ht
            by_cases hn0 : n = 0
            · have hxy : x = y := by have := HXY.out; omega
              have hmk : m = k := by have := HKM.out; omega
              have HF : Hid (glue ((t ++ [32]) ++ Lib.itoa x) (runs (xs.drop (m + 1))) = glue [] (runs xs)) := Lib.hid (by have := HG2.out; rwa [text_one hxy] at this)
              have HT : Hid ((t ++ [32]) ++ Lib.itoa x = [] ↔ m + 1 = 0) := Lib.hid ⟨fun g => absurd (List.append_eq_nil_iff.1 g).2 (itoa_ne _), fun g => by omega⟩
              have HLEN : Hid (((t ++ [32]) ++ Lib.itoa x).length ≤ 45 * (m + 1)) := Lib.hid (by have := hlx.out; simp; omega)
              have hgt : decide (k < m) = false := by rw [decide_eq_false_iff_not]; omega
              have HMK := Lib.hid hmk
              clear hxy hn0 hmk HG2
              go_wp2_with fail
              go_quiet (fail)
              go_wp2_with (go_at_call 44; refine (fmtB x _ x0 x1).mono ?_; rintro e w5 ⟨rfl, hb5⟩)
              go_roundw
              case rel => exact ⟨m + 1, (t ++ [32]) ++ Lib.itoa x, by omega, by go_num, by simp, HLEN.out, below_step hbel2 hb5, HF, HT⟩
              case measure => simp [intOf]; omega
            · have hxy : x ≠ y := by have := HXY.out; omega
              have HF : Hid (glue ((t ++ [32]) ++ Lib.itoa x ++ [45] ++ Lib.itoa y) (runs (xs.drop (m + 1))) = glue [] (runs xs)) := Lib.hid (by have := HG2.out; rw [text_two hxy] at this; simpa using this)
              have HT : Hid ((t ++ [32]) ++ Lib.itoa x ++ [45] ++ Lib.itoa y = [] ↔ m + 1 = 0) := Lib.hid ⟨fun g => absurd (List.append_eq_nil_iff.1 g).2 (itoa_ne _), fun g => by omega⟩
              have HLEN : Hid (((t ++ [32]) ++ Lib.itoa x ++ [45] ++ Lib.itoa y).length ≤ 45 * (m + 1)) := Lib.hid (by have := hlx.out; have := hly.out; have := HKM.out; simp; omega)
              have hgt : k < m := by have := HKM.out; omega
              have d3 : ∀ w, (Op.stringOp .add (strB ((t ++ [32]) ++ Lib.itoa x)) ⟨#[45]⟩).run Tryd.prog w = .ok (.string (strB ((t ++ [32]) ++ Lib.itoa x ++ [45]))) w := strB_add ((t ++ [32]) ++ Lib.itoa x) [45] (by have := hlx.out; simp; omega)
              have d4 := strB_add ((t ++ [32]) ++ Lib.itoa x ++ [45]) (Lib.itoa y) (by have := hlx.out; have := hly.out; simp; omega)
              simp only [List.append_assoc, List.cons_append, List.nil_append] at d4
              simp only [List.append_assoc, List.cons_append, List.nil_append] at d3
              clear hxy hn0 HG2
              go_wp2_with fail
              go_quiet (fail)
              go_wp2_with fail
              refine (fmtB x _ x0 x1).mono ?_
              rintro e w5 ⟨rfl, hb5⟩
              have hb6 := below_step hbel2 hb5
              have hcell6 := (hb6.cell (p := ⟨b, off + m, none⟩) hbl).trans ((hbel2.cell (p := ⟨b, off + m, none⟩) hbl).symm.trans hcell)
              clear hb5 hcellk hcell
              go_wp2_with fail
              refine (fmtB y _ y0 y1).mono ?_
              rintro e w6 ⟨rfl, hb7⟩
              go_wp2
              go_roundw
              case rel => exact ⟨m + 1, (t ++ [32]) ++ Lib.itoa x ++ [45] ++ Lib.itoa y, by omega, by go_num, by simp, HLEN.out, hb6.trans (hb7.mono hb6.size), HF, HT⟩
              case measure => simp [intOf]; omega
    · obtain rfl : k = xs.length := by omega
      have hg := hgl.out
      rw [List.drop_eq_nil_of_le (Nat.le_refl _)] at hg
      have hg2 : t = glue [] (runs xs) := hg
      by_cases h0 : xs = []
      · have ht : t = [] := hte.out.2 (by rw [h0]; rfl)
        obtain ⟨f1, f2⟩ := strB_none ht
        have HE : Hid (fmtSet xs = [110, 111, 110, 101]) := Lib.hid (by rw [h0]; exact fmtSet_nil)
        clear hg hg2 h0 ht
        go_wp2_with fail
        go_ret
        exact ⟨ret_s HE.out.symm, hbel⟩
      · have ht : t ≠ [] := fun g => h0 (List.eq_nil_of_length_eq_zero (hte.out.1 g))
        obtain ⟨f1, f2⟩ := strB_some ht
        have HE : Hid (fmtSet xs = t) := Lib.hid (by rw [fmtSet_yes HS.out h0]; exact hg2.symm)
        clear hg hg2 h0 ht
        go_wp2_with fail
        go_ret
        exact ⟨ret_s HE.out.symm, hbel⟩
/-- FormatSet returns the text 'fmtSet'. -/
theorem specFmtSetBig (v : Value) (xs : List Int) (w : World) (h : Ints w v xs) (hn : xs.length ≤ 1073741824) :
    Calls Tryd.prog 43 #[v] w fun e w' => e = .returned (.string (strB (fmtSet xs))) ∧ Below w.heap.size w w' := by
  cases hs : setB xs
  · exact specFmtSet_no v xs w h hn hs
  · exact specFmtSet_yes v xs w h hn hs
theorem specFmtSet (v : Value) (xs : List Int) (w : World) (h : Ints w v xs) (hn : xs.length ≤ 1048576) :
    Calls Tryd.prog 43 #[v] w fun e w' => e = .returned (.string (strB (fmtSet xs))) ∧ Below w.heap.size w w' := specFmtSetBig v xs w h (by omega)
end Go.Proofs.YteelgogfpidcdaaDoor
namespace Go.Proofs.YteelgogfpidcdaaDoor
open Go.RowKit
set_option linter.unusedVariables false
end Go.Proofs.YteelgogfpidcdaaDoor
namespace Go.Proofs.YteelgogfpidcdaaDoor
end Go.Proofs.YteelgogfpidcdaaDoor
namespace Go.Proofs.YteelgogfpidcdaaDoor
/-- The number that a list of bytes encodes, most significant byte first. -/
def be (l : List UInt8) : Nat := l.foldl (fun n b => n * 256 + b.toNat) 0
end Go.Proofs.YteelgogfpidcdaaDoor
namespace Go.Proofs.YteelgogfpidcdaaDoor
open Go.RowKit
set_option linter.unusedVariables false
end Go.Proofs.YteelgogfpidcdaaDoor
namespace Go.Proofs.YteelgogfpidcdaaDoor
open Go.RowKit
set_option linter.unusedVariables false
end Go.Proofs.YteelgogfpidcdaaDoor
namespace Go.Proofs.YteelgogfpidcdaaDoor
open Go.RowKit
set_option linter.unusedVariables false
set_option linter.unusedSimpArgs false
end Go.Proofs.YteelgogfpidcdaaDoor
namespace Go.Proofs.YteelgogfpidcdaaDoor
open Go.RowKit
set_option linter.unusedVariables false
set_option linter.unusedSimpArgs false
end Go.Proofs.YteelgogfpidcdaaDoor
namespace Go.Proofs.YteelgogfpidcdaaDoor
open Go.RowKit
set_option linter.unusedVariables false
set_option linter.unusedSimpArgs false
end Go.Proofs.YteelgogfpidcdaaDoor
namespace Go.Proofs.YteelgogfpidcdaaDoor
open Go.RowKit
set_option linter.unusedVariables false
set_option linter.unusedSimpArgs false
/-- A query's data: number, tenant, conditions, fields. -/
abbrev QD := Int × Int × List CondD × List Int
def q0D : QD := (0, 0, [], [])
/-- The slice v reads as the queries qs. -/
def QueriesR (w : World) (v : Value) (qs : List QD) : Prop :=
  (qs = [] ∧ ∃ a cap, v = .slice a 0 cap) ∨ ∃ (b off cap : Nat) (vs us : Nat → Value), v = .slice (some ⟨b, off, none⟩) qs.length cap ∧ qs.length ≤ cap ∧ b < w.heap.size ∧
    ∀ j, j < qs.length → w.cell? ⟨b, off + j * 4, none⟩ = some (.int .i64 (qs.getD j q0D).1) ∧ w.cell? ⟨b, off + j * 4 + 1, none⟩ = some (.int .i64 (qs.getD j q0D).2.1) ∧ w.cell? ⟨b, off + j * 4 + 2, none⟩ = some (vs j) ∧ w.cell? ⟨b, off + j * 4 + 3, none⟩ = some (us j) ∧
      CondsR w (vs j) (qs.getD j q0D).2.2.1 ∧ Ints w (us j) (qs.getD j q0D).2.2.2
theorem queriesR_len {w : World} {v : Value} {qs : List QD} (h : QueriesR w v qs) : ∃ a cap, v = .slice a qs.length cap := by
  rcases h with ⟨rfl, a, cap, rfl⟩ | ⟨b, off, cap, vs, us, rfl, _⟩
  · exact ⟨a, cap, rfl⟩
  · exact ⟨_, cap, rfl⟩
theorem queriesR_below {W w : World} {v : Value} {qs : List QD} (h : QueriesR W v qs) (hb : Below W.heap.size W w) : QueriesR w v qs := by
  rcases h with h | ⟨b, off, cap, vs, us, h1, h2, h3, h4⟩
  · exact Or.inl h
  · refine Or.inr ⟨b, off, cap, vs, us, h1, h2, Nat.lt_of_lt_of_le h3 hb.size, fun j hj => ?_⟩
    obtain ⟨g1, g2, g3, g4, g5, g6⟩ := h4 j hj
    exact ⟨(hb.cell (p := ⟨b, off + j * 4, none⟩) h3).trans g1, (hb.cell (p := ⟨b, off + j * 4 + 1, none⟩) h3).trans g2, (hb.cell (p := ⟨b, off + j * 4 + 2, none⟩) h3).trans g3, (hb.cell (p := ⟨b, off + j * 4 + 3, none⟩) h3).trans g4, condsR_below g5 hb, ints_below g6 hb⟩
theorem queriesR_at {w : World} {v : Value} {qs : List QD} (h : QueriesR w v qs) {k : Nat} (hk : k < qs.length) : ∃ (b off cap : Nat) (cv ov : Value), v = .slice (some ⟨b, off, none⟩) qs.length cap ∧ b < w.heap.size ∧
    w.cell? ⟨b, off + k * 4, none⟩ = some (.int .i64 (qs.getD k q0D).1) ∧ w.cell? ⟨b, off + k * 4 + 1, none⟩ = some (.int .i64 (qs.getD k q0D).2.1) ∧ w.cell? ⟨b, off + k * 4 + 2, none⟩ = some cv ∧ w.cell? ⟨b, off + k * 4 + 3, none⟩ = some ov ∧
    CondsR w cv (qs.getD k q0D).2.2.1 ∧ Ints w ov (qs.getD k q0D).2.2.2 := by
  rcases h with ⟨rfl, _⟩ | ⟨b, off, cap, vs, us, h1, h2, h3, h4⟩
  · simp at hk
  · obtain ⟨g1, g2, g3, g4, g5, g6⟩ := h4 k hk
    exact ⟨b, off, cap, vs k, us k, h1, h3, g1, g2, g3, g4, g5, g6⟩
/-- How many conditions, fields and elements the first k queries hold. -/
def szQTo (qs : List QD) (k : Nat) : Nat := qs.length + ((qs.take k).map fun q => q.2.2.1.length + q.2.2.2.length).sum
def szQL (qs : List QD) : Nat := szQTo qs qs.length
theorem szQTo_zero (qs : List QD) : szQTo qs 0 = qs.length := by simp [szQTo]
theorem szQTo_step {qs : List QD} {k : Nat} (hk : k < qs.length) : szQTo qs (k + 1) = szQTo qs k + ((qs.getD k q0D).2.2.1.length + (qs.getD k q0D).2.2.2.length) := by
  unfold szQTo
  have e : qs.getD k q0D = qs[k] := by simp [List.getD, hk]
  rw [e, List.take_succ_eq_append_getElem hk, List.map_append, List.sum_append]
  simp; omega
theorem szQTo_le {qs : List QD} {k : Nat} (hk : k ≤ qs.length) : szQTo qs k ≤ szQL qs := by
  unfold szQL szQTo
  have h2 : (qs.map fun q : QD => q.2.2.1.length + q.2.2.2.length).sum = ((qs.take k).map fun q => q.2.2.1.length + q.2.2.2.length).sum + ((qs.drop k).map fun q => q.2.2.1.length + q.2.2.2.length).sum := by
    rw [← List.sum_append, ← List.map_append, List.take_append_drop]
  rw [List.take_length, h2]
  omega
theorem szQL_at {qs : List QD} (hs : szQL qs ≤ 1048576) {k : Nat} (hk : k < qs.length) : (qs.getD k q0D).2.2.1.length ≤ 1048576 ∧ (qs.getD k q0D).2.2.2.length ≤ 1048576 := by
  have h1 := szQTo_step hk
  have h2 := szQTo_le (qs := qs) (k := k + 1) (by omega)
  omega
theorem szQL_len {qs : List QD} (hs : szQL qs ≤ 1048576) : qs.length ≤ 1048576 := by
  have := szQTo_le (qs := qs) (Nat.zero_le _); rw [szQTo_zero] at this; omega
end Go.Proofs.YteelgogfpidcdaaDoor
namespace Go.Proofs.YteelgogfpidcdaaDoor
open Go.RowKit
set_option linter.unusedVariables false
set_option linter.unusedSimpArgs false
end Go.Proofs.YteelgogfpidcdaaDoor
namespace Go.Proofs.YteelgogfpidcdaaDoor
open Go.RowKit
set_option linter.unusedVariables false
/-! ### Numerals -/
end Go.Proofs.YteelgogfpidcdaaDoor
namespace Go.Proofs.YteelgogfpidcdaaDoor
open Go.RowKit
set_option linter.unusedVariables false
end Go.Proofs.YteelgogfpidcdaaDoor
namespace Go.Proofs.YteelgogfpidcdaaDoor
open Go.RowKit
set_option linter.unusedVariables false
set_option linter.unusedSimpArgs false
end Go.Proofs.YteelgogfpidcdaaDoor
namespace Go.Proofs.YteelgogfpidcdaaDoor
open Go.RowKit
set_option linter.unusedVariables false
set_option linter.unusedSimpArgs false
theorem box_cells4 {W w : World} {t : TypeId} {x y z u : Value} {b : Nat} (h : W.heap[b]? = some (.cells #[x, y, z, u] t (0, 0))) (hb : Below W.heap.size W w) :
    w.cell? ⟨b, 0, none⟩ = some x ∧ w.cell? ⟨b, 1, none⟩ = some y ∧ w.cell? ⟨b, 2, none⟩ = some z ∧ w.cell? ⟨b, 3, none⟩ = some u := by
  have hlt := (Array.getElem?_eq_some_iff.1 h).1
  have h' := (hb.block b hlt).trans h
  exact ⟨(cell_of_row w b 0 _ _ _ h').trans rfl, (cell_of_row w b 1 _ _ _ h').trans rfl, (cell_of_row w b 2 _ _ _ h').trans rfl, (cell_of_row w b 3 _ _ _ h').trans rfl⟩
theorem isField_yes (n : Int) (w : World) (h1 : 0 ≤ n) (h2 : n < 3) : Calls Tryd.prog 31 #[.int .i64 n] w fun e w' => e = .returned (.bool true) ∧ w' = w := by
  go_enter Tryd.func31, Tryd.ntmps31
  go_wp2
  go_ret
  exact ⟨rfl, rfl⟩
theorem isField_no (n : Int) (w : World) (h : ¬ (0 ≤ n ∧ n < 3)) : Calls Tryd.prog 31 #[.int .i64 n] w fun e w' => e = .returned (.bool false) ∧ w' = w := by
  by_cases h1 : 0 ≤ n
  · have h2 : ¬ n < 3 := fun g => h ⟨h1, g⟩
    clear h
    go_enter Tryd.func31, Tryd.ntmps31
    go_wp2
    go_ret
    exact ⟨rfl, rfl⟩
  · clear h
    go_enter Tryd.func31, Tryd.ntmps31
    go_wp2
    go_ret
    exact ⟨rfl, rfl⟩
theorem isTenant_yes (n : Int) (w : World) (h1 : 0 ≤ n) (h2 : n < 4) : Calls Tryd.prog 98 #[.int .i64 n] w fun e w' => e = .returned (.bool true) ∧ w' = w := by
  go_enter Tryd.func98, Tryd.ntmps98
  go_wp2
  go_ret
  exact ⟨rfl, rfl⟩
theorem isTenant_no (n : Int) (w : World) (h : ¬ (0 ≤ n ∧ n < 4)) : Calls Tryd.prog 98 #[.int .i64 n] w fun e w' => e = .returned (.bool false) ∧ w' = w := by
  by_cases h1 : 0 ≤ n
  · have h2 : ¬ n < 4 := fun g => h ⟨h1, g⟩
    clear h
    go_enter Tryd.func98, Tryd.ntmps98
    go_wp2
    go_ret
    exact ⟨rfl, rfl⟩
  · clear h
    go_enter Tryd.func98, Tryd.ntmps98
    go_wp2
    go_ret
    exact ⟨rfl, rfl⟩
theorem isQNum_yes (n : Int) (w : World) (h1 : 0 ≤ n) (h2 : n < 24) : Calls Tryd.prog 97 #[.int .i64 n] w fun e w' => e = .returned (.bool true) ∧ w' = w := by
  go_enter Tryd.func97, Tryd.ntmps97
  go_wp2
  go_ret
  exact ⟨rfl, rfl⟩
theorem isQNum_no (n : Int) (w : World) (h : ¬ (0 ≤ n ∧ n < 24)) : Calls Tryd.prog 97 #[.int .i64 n] w fun e w' => e = .returned (.bool false) ∧ w' = w := by
  by_cases h1 : 0 ≤ n
  · have h2 : ¬ n < 24 := fun g => h ⟨h1, g⟩
    clear h
    go_enter Tryd.func97, Tryd.ntmps97
    go_wp2
    go_ret
    exact ⟨rfl, rfl⟩
  · clear h
    go_enter Tryd.func97, Tryd.ntmps97
    go_wp2
    go_ret
    exact ⟨rfl, rfl⟩
/-- Can a field have the values from l to h? -/
theorem isFieldRange_is (l h : Int) (w : World) : Calls Tryd.prog 79 #[.int .i64 l, .int .i64 h] w fun e w' => e = .returned (.bool (decide (0 ≤ l ∧ l ≤ h) && decide (h ≤ 99))) ∧ w' = w := by
  obtain ⟨r, hr⟩ : ∃ r, (decide (0 ≤ l ∧ l ≤ h) && decide (h ≤ 99)) = r := ⟨_, rfl⟩
  rw [hr]
  by_cases h2 : 0 ≤ l
  · by_cases h3 : l ≤ h
    · by_cases h4 : h ≤ 99
      · have HX := trivial
        have HT : Hid (r = true) := Lib.hid (by rw [← hr, decide_eq_true (And.intro h2 h3), decide_eq_true h4]; rfl)
        clear HX hr
        go_enter Tryd.func79, Tryd.ntmps79
        go_wp2
        go_ret
        exact ⟨ret_b HT.out.symm, rfl⟩
      · have HX := trivial
        have HT : Hid (r = false) := Lib.hid (by rw [← hr, decide_eq_false h4, Bool.and_false])
        clear HX hr
        go_enter Tryd.func79, Tryd.ntmps79
        go_wp2
        go_ret
        exact ⟨ret_b HT.out.symm, rfl⟩
    · have HX := trivial
      have HT : Hid (r = false) := Lib.hid (by rw [← hr, decide_eq_false (fun g => h3 g.2), Bool.false_and])
      clear HX hr
      go_enter Tryd.func79, Tryd.ntmps79
      go_wp2
      go_ret
      exact ⟨ret_b HT.out.symm, rfl⟩
  · have HX := trivial
    have HT : Hid (r = false) := Lib.hid (by rw [← hr, decide_eq_false (fun g => h2 g.1), Bool.false_and])
    clear HX hr
    go_enter Tryd.func79, Tryd.ntmps79
    go_wp2
    go_ret
    exact ⟨ret_b HT.out.symm, rfl⟩
set_option maxHeartbeats 4000000 in
set_option maxRecDepth 100000 in
theorem implIsCond (f l h : Int) (w : World) : Calls Tryd.prog 117 #[condV f l h] w fun e w' => e = .returned (.bool (condB (f, l, h))) ∧ Below w.heap.size w w' := by
  have hb : Below w.heap.size w (w.alloc (.cells #[.int .i64 f, .int .i64 l, .int .i64 h] 79)) := (Below.refl _ w).alloc (Nat.le_refl _) _
  by_cases h1 : 0 ≤ f ∧ f < 3
  · have H1 := Lib.hid (fun w => isField_yes f w h1.1 h1.2)
    have H2 := Lib.hid (fun w => isFieldRange_is l h w)
    have HE : Hid (condB (f, l, h) = (decide (0 ≤ l ∧ l ≤ h) && decide (h ≤ 99))) := Lib.hid (by unfold condB; rw [decide_eq_true (by omega : 0 ≤ f ∧ f ≤ 2), Bool.true_and])
    clear h1
    generalize (decide (0 ≤ l ∧ l ≤ h) && decide (h ≤ 99)) = r at *
    go_enter Tryd.func117, Tryd.ntmps117
    go_wp2_with fail
    refine (H1.out _).mono ?_
    rintro e w1 ⟨rfl, rfl⟩
    go_wp2_with fail
    refine (H2.out _).mono ?_
    rintro e w1 ⟨rfl, rfl⟩
    go_wp2
    go_ret
    exact ⟨ret_b HE.out.symm, hb⟩
  · have H1 := Lib.hid (fun w => isField_no f w h1)
    have HT : Hid (condB (f, l, h) = false) := Lib.hid (by unfold condB; rw [decide_eq_false (by omega : ¬ (0 ≤ f ∧ f ≤ 2)), Bool.false_and])
    clear h1
    go_enter Tryd.func117, Tryd.ntmps117
    go_wp2_with fail
    refine (H1.out _).mono ?_
    rintro e w1 ⟨rfl, rfl⟩
    go_wp2
    go_ret
    exact ⟨ret_b HT.out.symm, hb⟩
/-- Are these the conditions of a query? -/
def condsV (cs : List CondD) : Bool := decide (cs.length ≤ 3) && condsB cs
theorem condsV_bad {cs : List CondD} {k : Nat} (hk : k < cs.length) (h : condB (cs.getD k c0D) = false ∨ (0 < k ∧ ¬ (cs.getD (k - 1) c0D).1 < (cs.getD k c0D).1)) : condsV cs = false := by
  unfold condsV; rw [condsB_bad hk h, Bool.and_false]
set_option maxHeartbeats 8000000 in
set_option maxRecDepth 100000 in
theorem areValid_any (v : Value) (cs : List CondD) (w : World) (h : CondsR w v cs) (hn : cs.length ≤ 1048576) :
    Calls Tryd.prog 99 #[v] w fun e w' => e = .returned (.bool (condsV cs)) ∧ Below w.heap.size w w' := by
  have H := Lib.hid h
  obtain ⟨a, cap, rfl⟩ := condsR_len h
  clear h
  by_cases hbig : 3 < cs.length
  · have HF : Hid (condsV cs = false) := Lib.hid (by unfold condsV; rw [decide_eq_false (by omega)]; simp)
    have i0 : (3 : Int) < (cs.length : Int) := by omega
    have hd : decide ((3 : Int) < (cs.length : Int)) = true := decide_eq_true i0
    have hdn : decide (3 < cs.length) = true := decide_eq_true hbig
    go_enter Tryd.func99, Tryd.ntmps99
    go_wp2
    go_ret
    exact ⟨ret_b HF.out.symm, Below.refl _ _⟩
  have HT : Hid (CondsTo cs cs.length → condsV cs = true) := Lib.hid (fun g => by unfold condsV; rw [decide_eq_true (by omega), condsB_all g]; rfl)
  have hd : decide ((3 : Int) < (cs.length : Int)) = false := decide_eq_false (by omega)
  have hdn : decide (3 < cs.length) = false := decide_eq_false hbig
  clear hbig
  go_enter Tryd.func99, Tryd.ntmps99
  go_wp2
  clear hd hdn
  go_loopw [10] (fun i wr => ∃ k : Nat, k ≤ cs.length ∧ i = .int .i64 k ∧ Hid (CondsTo cs k) ∧ Below w.heap.size w wr) (fun i _ => cs.length - (intOf i).toNat)
  case atStart => exact ⟨0, Nat.zero_le _, rfl, Lib.hid (fun i hi => by omega), Below.refl _ _⟩
  case round =>
    obtain ⟨k, hk, rfl, hall, hbel⟩ := hrel
    by_cases hlt : k < cs.length
    · have H1 := Lib.hid (condsR_below H.out hbel)
      obtain ⟨b, off, cap', hv, hbl, hc1, hc2, hc3⟩ := condsR_at H1.out hlt
      simp only [Value.slice.injEq] at hv
      obtain ⟨rfl, _, rfl⟩ := hv
      have HBAD := Lib.hid (condsV_bad (cs := cs) (k := k) hlt)
      have HSTEP := Lib.hid (condsTo_step hall.out)
      have HR0 : Hid (∀ w, Calls Tryd.prog 117 #[condV (cs.getD k c0D).1 (cs.getD k c0D).2.1 (cs.getD k c0D).2.2] w fun e w' => e = .returned (.bool (condB (cs.getD k c0D))) ∧ Below w.heap.size w w') := Lib.hid (fun w => implIsCond (cs.getD k c0D).1 (cs.getD k c0D).2.1 (cs.getD k c0D).2.2 w)
      have i1 : (0 : Int) ≤ (k : Int) := by omega
      have i2 : (k : Int) < (cs.length : Int) := by omega
      clear hall
      cases hrb : condB (cs.getD k c0D) with
      | false =>
        have HF := Lib.hid (HBAD.out (Or.inl hrb))
        have HR := Lib.hid (fun w => (HR0.out w))
        rw [hrb] at HR
        clear hrb HBAD HSTEP H1 HR0
        generalize (cs.getD k c0D).1 = cf at *
        generalize (cs.getD k c0D).2.1 = cl at *
        generalize (cs.getD k c0D).2.2 = ch at *
        go_wp2
        have hW : Below wr.heap.size wr (wr.alloc (.cells #[.int .i64 cf, .int .i64 cl, .int .i64 ch] 79)) := (Below.refl _ wr).alloc (Nat.le_refl _) _
        have g0 := heap_alloc_new wr (.cells #[.int .i64 cf, .int .i64 cl, .int .i64 ch] 79)
        have hlt2 : wr.heap.size < (wr.alloc (.cells #[.int .i64 cf, .int .i64 cl, .int .i64 ch] 79)).heap.size := by simp
        generalize wr.alloc (.cells #[.int .i64 cf, .int .i64 cl, .int .i64 ch] 79) = W at *
        have q0 := cell_of_row W _ 0 _ _ _ g0
        have q1 := cell_of_row W _ 1 _ _ _ g0
        have q2 := cell_of_row W _ 2 _ _ _ g0
        simp at q0 q1 q2
        refine wp_region_held_drew (S := fun w' => w'.cell? ⟨wr.heap.size, 0, none⟩ = some (.int .i64 cf) ∧ w'.cell? ⟨wr.heap.size, 1, none⟩ = some (.int .i64 cl) ∧ w'.cell? ⟨wr.heap.size, 2, none⟩ = some (.int .i64 ch)) (by kernel_rfl) ⟨q0, q1, q2⟩ (fun hHeld => ?_)
        refine take_runs (i := 0) (v := ?_) (by simp only [List.getElem?_toArray, List.getElem?_cons_succ, List.getElem?_cons_zero]; rfl) (by kernel_rfl) (by kernel_rfl) (by kernel_rfl) rfl (by exact fun _ _ _ h => h) (by rfl) ?_ (by assumption) ?_
        rotate_left
        · intro w hSw; (try dsimp only at hSw); go_simp; try (with_reducible rfl)
        try simp only [Act.put, List.setIfInBounds_toArray, List.set_cons_zero, List.set_cons_succ]
        refine wpAnyH_ready (rs := [1]) (by kernel_rfl) (by simp) ?_
        refine AllReadyH.cons (o := _) (by simp only [List.getElem?_toArray, List.getElem?_cons_succ, List.getElem?_cons_zero]; rfl) (fun K hK => ?_) AllReadyH.nil
        go_simp
        refine (HR.out _).mono ?_
        rintro e w8 ⟨rfl, b9⟩
        have b10 : Below W.heap.size W w8 := ⟨b9.os, b9.tape, b9.output, b9.size, b9.block⟩
        have s0 := (b10.cell (p := ⟨wr.heap.size, 0, none⟩) hlt2).trans q0
        have s1 := (b10.cell (p := ⟨wr.heap.size, 1, none⟩) hlt2).trans q1
        have s2 := (b10.cell (p := ⟨wr.heap.size, 2, none⟩) hlt2).trans q2
        refine hK.out _ _ ⟨s0, s1, s2⟩ (fun hHeld => ?_)
        clear hK K
        try simp only [Act.put, List.setIfInBounds_toArray, List.set_cons_zero, List.set_cons_succ]
        refine take_runs (i := 2) (v := ?_) (by simp only [List.getElem?_toArray, List.getElem?_cons_succ, List.getElem?_cons_zero]; rfl) (by kernel_rfl) (by kernel_rfl) (by kernel_rfl) rfl (by exact fun _ _ _ h => h) (by rfl) ?_ (by assumption) ?_
        rotate_left
        · intro w hSw; (try dsimp only at hSw); go_simp; try (with_reducible rfl)
        try simp only [Act.put, List.setIfInBounds_toArray, List.set_cons_zero, List.set_cons_succ]
        refine take_runs (i := 3) (v := ?_) (by simp only [List.getElem?_toArray, List.getElem?_cons_succ, List.getElem?_cons_zero]; rfl) (by kernel_rfl) (by kernel_rfl) (by kernel_rfl) rfl (by exact fun _ _ _ h => h) (by rfl) ?_ (by assumption) ?_
        rotate_left
        · intro w hSw; (try dsimp only at hSw); go_simp; try (with_reducible rfl)
        try simp only [Act.put, List.setIfInBounds_toArray, List.set_cons_zero, List.set_cons_succ]
        refine take_over (i := 4) (by simp only [List.getElem?_toArray, List.getElem?_cons_succ, List.getElem?_cons_zero]; rfl) (by kernel_rfl) (by kernel_rfl) (by kernel_rfl) rfl (by exact fun _ _ _ h => h) (by rfl) (by assumption) ?_
        try simp only [Act.put, List.setIfInBounds_toArray, List.set_cons_zero, List.set_cons_succ]
        refine take_over (i := 5) (by simp only [List.getElem?_toArray, List.getElem?_cons_succ, List.getElem?_cons_zero]; rfl) (by kernel_rfl) (by kernel_rfl) (by kernel_rfl) rfl (by exact fun _ _ _ h => h) (by rfl) (by assumption) ?_
        try simp only [Act.put, List.setIfInBounds_toArray, List.set_cons_zero, List.set_cons_succ]
        refine take_over (i := 6) (by simp only [List.getElem?_toArray, List.getElem?_cons_succ, List.getElem?_cons_zero]; rfl) (by kernel_rfl) (by kernel_rfl) (by kernel_rfl) rfl (by exact fun _ _ _ h => h) (by rfl) (by assumption) ?_
        try simp only [Act.put, List.setIfInBounds_toArray, List.set_cons_zero, List.set_cons_succ]
        refine take_over (i := 7) (by simp only [List.getElem?_toArray, List.getElem?_cons_succ, List.getElem?_cons_zero]; rfl) (by kernel_rfl) (by kernel_rfl) (by kernel_rfl) rfl (by exact fun _ _ _ h => h) (by rfl) (by assumption) ?_
        try simp only [Act.put, List.setIfInBounds_toArray, List.set_cons_zero, List.set_cons_succ]
        refine take_over (i := 8) (by simp only [List.getElem?_toArray, List.getElem?_cons_succ, List.getElem?_cons_zero]; rfl) (by kernel_rfl) (by kernel_rfl) (by kernel_rfl) rfl (by exact fun _ _ _ h => h) (by rfl) (by assumption) ?_
        try simp only [Act.put, List.setIfInBounds_toArray, List.set_cons_zero, List.set_cons_succ]
        refine take_over (i := 9) (by simp only [List.getElem?_toArray, List.getElem?_cons_succ, List.getElem?_cons_zero]; rfl) (by kernel_rfl) (by kernel_rfl) (by kernel_rfl) rfl (by exact fun _ _ _ h => h) (by rfl) (by assumption) ?_
        try simp only [Act.put, List.setIfInBounds_toArray, List.set_cons_zero, List.set_cons_succ]
        refine take_over (i := 10) (by simp only [List.getElem?_toArray, List.getElem?_cons_succ, List.getElem?_cons_zero]; rfl) (by kernel_rfl) (by kernel_rfl) (by kernel_rfl) rfl (by exact fun _ _ _ h => h) (by rfl) (by assumption) ?_
        try simp only [Act.put, List.setIfInBounds_toArray, List.set_cons_zero, List.set_cons_succ]
        refine take_over (i := 11) (by simp only [List.getElem?_toArray, List.getElem?_cons_succ, List.getElem?_cons_zero]; rfl) (by kernel_rfl) (by kernel_rfl) (by kernel_rfl) rfl (by exact fun _ _ _ h => h) (by rfl) (by assumption) ?_
        try simp only [Act.put, List.setIfInBounds_toArray, List.set_cons_zero, List.set_cons_succ]
        refine take_over (i := 12) (by simp only [List.getElem?_toArray, List.getElem?_cons_succ, List.getElem?_cons_zero]; rfl) (by kernel_rfl) (by kernel_rfl) (by kernel_rfl) rfl (by exact fun _ _ _ h => h) (by rfl) (by assumption) ?_
        try simp only [Act.put, List.setIfInBounds_toArray, List.set_cons_zero, List.set_cons_succ]
        refine take_over (i := 13) (by simp only [List.getElem?_toArray, List.getElem?_cons_succ, List.getElem?_cons_zero]; rfl) (by kernel_rfl) (by kernel_rfl) (by kernel_rfl) rfl (by exact fun _ _ _ h => h) (by rfl) (by assumption) ?_
        try simp only [Act.put, List.setIfInBounds_toArray, List.set_cons_zero, List.set_cons_succ]
        refine take_over (i := 14) (by simp only [List.getElem?_toArray, List.getElem?_cons_succ, List.getElem?_cons_zero]; rfl) (by kernel_rfl) (by kernel_rfl) (by kernel_rfl) rfl (by exact fun _ _ _ h => h) (by rfl) (by assumption) ?_
        try simp only [Act.put, List.setIfInBounds_toArray, List.set_cons_zero, List.set_cons_succ]
        refine take_over (i := 15) (by simp only [List.getElem?_toArray, List.getElem?_cons_succ, List.getElem?_cons_zero]; rfl) (by kernel_rfl) (by kernel_rfl) (by kernel_rfl) rfl (by exact fun _ _ _ h => h) (by rfl) (by assumption) ?_
        try simp only [Act.put, List.setIfInBounds_toArray, List.set_cons_zero, List.set_cons_succ]
        refine take_over (i := 16) (by simp only [List.getElem?_toArray, List.getElem?_cons_succ, List.getElem?_cons_zero]; rfl) (by kernel_rfl) (by kernel_rfl) (by kernel_rfl) rfl (by exact fun _ _ _ h => h) (by rfl) (by assumption) ?_
        try simp only [Act.put, List.setIfInBounds_toArray, List.set_cons_zero, List.set_cons_succ]
        refine take_runs (i := 17) (v := ?_) (by simp only [List.getElem?_toArray, List.getElem?_cons_succ, List.getElem?_cons_zero]; rfl) (by kernel_rfl) (by kernel_rfl) (by kernel_rfl) rfl (by exact fun _ _ _ h => h) (by rfl) ?_ (by assumption) ?_
        rotate_left
        · intro w hSw; (try dsimp only at hSw); go_simp; try (with_reducible rfl)
        try simp only [Act.put, List.setIfInBounds_toArray, List.set_cons_zero, List.set_cons_succ]
        refine wpAnyH_done (by kernel_rfl) ?_ _
        have b11 := hbel.trans ((hW.trans (b10.mono hW.size)).mono hbel.size)
        clear s0 s1 s2 hHeld b9 b10
        try clear s3
        go_wp2
        go_ret
        exact ⟨ret_b HF.out.symm, b11⟩
      | true =>
        have HR := Lib.hid (fun w => (HR0.out w))
        rw [hrb] at HR
        clear HR0
        by_cases hz : k = 0
        · have HA := Lib.hid (HSTEP.out hrb (fun g => absurd g (by omega)))
          have hg : decide ((0 : Int) < (k : Int)) = false := decide_eq_false (by omega)
          have hgn : decide (0 < k) = false := decide_eq_false (by omega)
          clear hrb HBAD HSTEP H1 hz
          generalize (cs.getD k c0D).1 = cf at *
          generalize (cs.getD k c0D).2.1 = cl at *
          generalize (cs.getD k c0D).2.2 = ch at *
          go_wp2
          have hW : Below wr.heap.size wr (wr.alloc (.cells #[.int .i64 cf, .int .i64 cl, .int .i64 ch] 79)) := (Below.refl _ wr).alloc (Nat.le_refl _) _
          have g0 := heap_alloc_new wr (.cells #[.int .i64 cf, .int .i64 cl, .int .i64 ch] 79)
          have hlt2 : wr.heap.size < (wr.alloc (.cells #[.int .i64 cf, .int .i64 cl, .int .i64 ch] 79)).heap.size := by simp
          generalize wr.alloc (.cells #[.int .i64 cf, .int .i64 cl, .int .i64 ch] 79) = W at *
          have q0 := cell_of_row W _ 0 _ _ _ g0
          have q1 := cell_of_row W _ 1 _ _ _ g0
          have q2 := cell_of_row W _ 2 _ _ _ g0
          simp at q0 q1 q2
          refine wp_region_held_drew (S := fun w' => w'.cell? ⟨wr.heap.size, 0, none⟩ = some (.int .i64 cf) ∧ w'.cell? ⟨wr.heap.size, 1, none⟩ = some (.int .i64 cl) ∧ w'.cell? ⟨wr.heap.size, 2, none⟩ = some (.int .i64 ch)) (by kernel_rfl) ⟨q0, q1, q2⟩ (fun hHeld => ?_)
          refine take_runs (i := 0) (v := ?_) (by simp only [List.getElem?_toArray, List.getElem?_cons_succ, List.getElem?_cons_zero]; rfl) (by kernel_rfl) (by kernel_rfl) (by kernel_rfl) rfl (by exact fun _ _ _ h => h) (by rfl) ?_ (by assumption) ?_
          rotate_left
          · intro w hSw; (try dsimp only at hSw); go_simp; try (with_reducible rfl)
          try simp only [Act.put, List.setIfInBounds_toArray, List.set_cons_zero, List.set_cons_succ]
          refine wpAnyH_ready (rs := [1]) (by kernel_rfl) (by simp) ?_
          refine AllReadyH.cons (o := _) (by simp only [List.getElem?_toArray, List.getElem?_cons_succ, List.getElem?_cons_zero]; rfl) (fun K hK => ?_) AllReadyH.nil
          go_simp
          refine (HR.out _).mono ?_
          rintro e w8 ⟨rfl, b9⟩
          have b10 : Below W.heap.size W w8 := ⟨b9.os, b9.tape, b9.output, b9.size, b9.block⟩
          have s0 := (b10.cell (p := ⟨wr.heap.size, 0, none⟩) hlt2).trans q0
          have s1 := (b10.cell (p := ⟨wr.heap.size, 1, none⟩) hlt2).trans q1
          have s2 := (b10.cell (p := ⟨wr.heap.size, 2, none⟩) hlt2).trans q2
          refine hK.out _ _ ⟨s0, s1, s2⟩ (fun hHeld => ?_)
          clear hK K
          try simp only [Act.put, List.setIfInBounds_toArray, List.set_cons_zero, List.set_cons_succ]
          refine take_runs (i := 2) (v := ?_) (by simp only [List.getElem?_toArray, List.getElem?_cons_succ, List.getElem?_cons_zero]; rfl) (by kernel_rfl) (by kernel_rfl) (by kernel_rfl) rfl (by exact fun _ _ _ h => h) (by rfl) ?_ (by assumption) ?_
          rotate_left
          · intro w hSw; (try dsimp only at hSw); go_simp; try (with_reducible rfl)
          try simp only [Act.put, List.setIfInBounds_toArray, List.set_cons_zero, List.set_cons_succ]
          refine take_runs (i := 3) (v := ?_) (by simp only [List.getElem?_toArray, List.getElem?_cons_succ, List.getElem?_cons_zero]; rfl) (by kernel_rfl) (by kernel_rfl) (by kernel_rfl) rfl (by exact fun _ _ _ h => h) (by rfl) ?_ (by assumption) ?_
          rotate_left
          · intro w hSw; (try dsimp only at hSw); go_simp; try (with_reducible rfl)
          try simp only [Act.put, List.setIfInBounds_toArray, List.set_cons_zero, List.set_cons_succ]
          refine take_runs (i := 4) (v := ?_) (by simp only [List.getElem?_toArray, List.getElem?_cons_succ, List.getElem?_cons_zero]; rfl) (by kernel_rfl) (by kernel_rfl) (by kernel_rfl) rfl (by exact fun _ _ _ h => h) (by rfl) ?_ (by assumption) ?_
          rotate_left
          · intro w hSw; (try dsimp only at hSw); go_simp; try (with_reducible rfl)
          try simp only [Act.put, List.setIfInBounds_toArray, List.set_cons_zero, List.set_cons_succ]
          refine take_runs (i := 5) (v := ?_) (by simp only [List.getElem?_toArray, List.getElem?_cons_succ, List.getElem?_cons_zero]; rfl) (by kernel_rfl) (by kernel_rfl) (by kernel_rfl) rfl (by exact fun _ _ _ h => h) (by rfl) ?_ (by assumption) ?_
          rotate_left
          · intro w hSw; (try dsimp only at hSw); go_simp; try (with_reducible rfl)
          try simp only [Act.put, List.setIfInBounds_toArray, List.set_cons_zero, List.set_cons_succ]
          refine take_runs (i := 6) (v := ?_) (by simp only [List.getElem?_toArray, List.getElem?_cons_succ, List.getElem?_cons_zero]; rfl) (by kernel_rfl) (by kernel_rfl) (by kernel_rfl) rfl (by exact fun _ _ _ h => h) (by rfl) ?_ (by assumption) ?_
          rotate_left
          · intro w hSw; (try dsimp only at hSw); go_simp; try (with_reducible rfl)
          try simp only [Act.put, List.setIfInBounds_toArray, List.set_cons_zero, List.set_cons_succ]
          refine take_over (i := 7) (by simp only [List.getElem?_toArray, List.getElem?_cons_succ, List.getElem?_cons_zero]; rfl) (by kernel_rfl) (by kernel_rfl) (by kernel_rfl) rfl (by exact fun _ _ _ h => h) (by rfl) (by assumption) ?_
          try simp only [Act.put, List.setIfInBounds_toArray, List.set_cons_zero, List.set_cons_succ]
          refine take_over (i := 8) (by simp only [List.getElem?_toArray, List.getElem?_cons_succ, List.getElem?_cons_zero]; rfl) (by kernel_rfl) (by kernel_rfl) (by kernel_rfl) rfl (by exact fun _ _ _ h => h) (by rfl) (by assumption) ?_
          try simp only [Act.put, List.setIfInBounds_toArray, List.set_cons_zero, List.set_cons_succ]
          refine take_over (i := 9) (by simp only [List.getElem?_toArray, List.getElem?_cons_succ, List.getElem?_cons_zero]; rfl) (by kernel_rfl) (by kernel_rfl) (by kernel_rfl) rfl (by exact fun _ _ _ h => h) (by rfl) (by assumption) ?_
          try simp only [Act.put, List.setIfInBounds_toArray, List.set_cons_zero, List.set_cons_succ]
          refine take_over (i := 10) (by simp only [List.getElem?_toArray, List.getElem?_cons_succ, List.getElem?_cons_zero]; rfl) (by kernel_rfl) (by kernel_rfl) (by kernel_rfl) rfl (by exact fun _ _ _ h => h) (by rfl) (by assumption) ?_
          try simp only [Act.put, List.setIfInBounds_toArray, List.set_cons_zero, List.set_cons_succ]
          refine take_over (i := 11) (by simp only [List.getElem?_toArray, List.getElem?_cons_succ, List.getElem?_cons_zero]; rfl) (by kernel_rfl) (by kernel_rfl) (by kernel_rfl) rfl (by exact fun _ _ _ h => h) (by rfl) (by assumption) ?_
          try simp only [Act.put, List.setIfInBounds_toArray, List.set_cons_zero, List.set_cons_succ]
          refine take_over (i := 12) (by simp only [List.getElem?_toArray, List.getElem?_cons_succ, List.getElem?_cons_zero]; rfl) (by kernel_rfl) (by kernel_rfl) (by kernel_rfl) rfl (by exact fun _ _ _ h => h) (by rfl) (by assumption) ?_
          try simp only [Act.put, List.setIfInBounds_toArray, List.set_cons_zero, List.set_cons_succ]
          refine take_over (i := 13) (by simp only [List.getElem?_toArray, List.getElem?_cons_succ, List.getElem?_cons_zero]; rfl) (by kernel_rfl) (by kernel_rfl) (by kernel_rfl) rfl (by exact fun _ _ _ h => h) (by rfl) (by assumption) ?_
          try simp only [Act.put, List.setIfInBounds_toArray, List.set_cons_zero, List.set_cons_succ]
          refine take_over (i := 14) (by simp only [List.getElem?_toArray, List.getElem?_cons_succ, List.getElem?_cons_zero]; rfl) (by kernel_rfl) (by kernel_rfl) (by kernel_rfl) rfl (by exact fun _ _ _ h => h) (by rfl) (by assumption) ?_
          try simp only [Act.put, List.setIfInBounds_toArray, List.set_cons_zero, List.set_cons_succ]
          refine take_over (i := 15) (by simp only [List.getElem?_toArray, List.getElem?_cons_succ, List.getElem?_cons_zero]; rfl) (by kernel_rfl) (by kernel_rfl) (by kernel_rfl) rfl (by exact fun _ _ _ h => h) (by rfl) (by assumption) ?_
          try simp only [Act.put, List.setIfInBounds_toArray, List.set_cons_zero, List.set_cons_succ]
          refine take_runs (i := 16) (v := ?_) (by simp only [List.getElem?_toArray, List.getElem?_cons_succ, List.getElem?_cons_zero]; rfl) (by kernel_rfl) (by kernel_rfl) (by kernel_rfl) rfl (by exact fun _ _ _ h => h) (by rfl) ?_ (by assumption) ?_
          rotate_left
          · intro w hSw; (try dsimp only at hSw); go_simp; try (with_reducible rfl)
          try simp only [Act.put, List.setIfInBounds_toArray, List.set_cons_zero, List.set_cons_succ]
          refine take_runs (i := 17) (v := ?_) (by simp only [List.getElem?_toArray, List.getElem?_cons_succ, List.getElem?_cons_zero]; rfl) (by kernel_rfl) (by kernel_rfl) (by kernel_rfl) rfl (by exact fun _ _ _ h => h) (by rfl) ?_ (by assumption) ?_
          rotate_left
          · intro w hSw; (try dsimp only at hSw); go_simp; try (with_reducible rfl)
          try simp only [Act.put, List.setIfInBounds_toArray, List.set_cons_zero, List.set_cons_succ]
          refine wpAnyH_done (by kernel_rfl) ?_ _
          have b11 := hbel.trans ((hW.trans (b10.mono hW.size)).mono hbel.size)
          clear s0 s1 s2 hHeld b9 b10
          try clear s3
          go_wp2
          go_roundw
          case rel => exact ⟨k + 1, by omega, by go_num, HA, b11⟩
          case measure => simp [intOf]; omega
        · obtain ⟨m, hkm⟩ : ∃ m, k = m + 1 := ⟨k - 1, by omega⟩
          have hml : m < cs.length := by omega
          obtain ⟨b', off', cap'', hv', _, hc0, _, _⟩ := condsR_at H1.out hml
          simp only [Value.slice.injEq, Option.some.injEq, Addr.mk.injEq] at hv'
          obtain ⟨⟨rfl, rfl, _⟩, _, rfl⟩ := hv'
          have hg : decide ((0 : Int) < (k : Int)) = true := decide_eq_true (by omega)
          have hgn : decide (0 < k) = true := decide_eq_true (by omega)
          have j1 : (0 : Int) ≤ (m : Int) := by omega
          have j2 : (m : Int) < (cs.length : Int) := by omega
          have hsub : IntKind.i64.wrap ((k : Int) - 1) = (m : Int) := by rw [IntWalk.i64_in _ (by omega)]; omega
          rw [show k - 1 = m by omega] at HBAD HSTEP
          by_cases hle : (cs.getD k c0D).1 ≤ (cs.getD m c0D).1
          · have HF := Lib.hid (HBAD.out (Or.inr ⟨by omega, by omega⟩))
            have hd := decide_eq_true hle
            clear hrb HBAD HSTEP H1 hz hle hkm
            generalize (cs.getD k c0D).1 = cf at *
            generalize (cs.getD k c0D).2.1 = cl at *
            generalize (cs.getD k c0D).2.2 = ch at *
            generalize (cs.getD m c0D).1 = fp at *
            go_wp2
            have hW : Below wr.heap.size wr (wr.alloc (.cells #[.int .i64 cf, .int .i64 cl, .int .i64 ch] 79)) := (Below.refl _ wr).alloc (Nat.le_refl _) _
            have g0 := heap_alloc_new wr (.cells #[.int .i64 cf, .int .i64 cl, .int .i64 ch] 79)
            have hlt2 : wr.heap.size < (wr.alloc (.cells #[.int .i64 cf, .int .i64 cl, .int .i64 ch] 79)).heap.size := by simp
            generalize wr.alloc (.cells #[.int .i64 cf, .int .i64 cl, .int .i64 ch] 79) = W at *
            have q0 := cell_of_row W _ 0 _ _ _ g0
            have q1 := cell_of_row W _ 1 _ _ _ g0
            have q2 := cell_of_row W _ 2 _ _ _ g0
            simp at q0 q1 q2
            have p0 := (hW.cell (p := ⟨b, off + m * 3, none⟩) hbl).trans hc0
            refine wp_region_held_drew (S := fun w' => w'.cell? ⟨wr.heap.size, 0, none⟩ = some (.int .i64 cf) ∧ w'.cell? ⟨wr.heap.size, 1, none⟩ = some (.int .i64 cl) ∧ w'.cell? ⟨wr.heap.size, 2, none⟩ = some (.int .i64 ch) ∧ w'.cell? ⟨b, off + m * 3, none⟩ = some (.int .i64 fp)) (by kernel_rfl) ⟨q0, q1, q2, p0⟩ (fun hHeld => ?_)
            refine take_runs (i := 0) (v := ?_) (by simp only [List.getElem?_toArray, List.getElem?_cons_succ, List.getElem?_cons_zero]; rfl) (by kernel_rfl) (by kernel_rfl) (by kernel_rfl) rfl (by exact fun _ _ _ h => h) (by rfl) ?_ (by assumption) ?_
            rotate_left
            · intro w hSw; (try dsimp only at hSw); go_simp; try (with_reducible rfl)
            try simp only [Act.put, List.setIfInBounds_toArray, List.set_cons_zero, List.set_cons_succ]
            refine wpAnyH_ready (rs := [1]) (by kernel_rfl) (by simp) ?_
            refine AllReadyH.cons (o := _) (by simp only [List.getElem?_toArray, List.getElem?_cons_succ, List.getElem?_cons_zero]; rfl) (fun K hK => ?_) AllReadyH.nil
            go_simp
            refine (HR.out _).mono ?_
            rintro e w8 ⟨rfl, b9⟩
            have b10 : Below W.heap.size W w8 := ⟨b9.os, b9.tape, b9.output, b9.size, b9.block⟩
            have s0 := (b10.cell (p := ⟨wr.heap.size, 0, none⟩) hlt2).trans q0
            have s1 := (b10.cell (p := ⟨wr.heap.size, 1, none⟩) hlt2).trans q1
            have s2 := (b10.cell (p := ⟨wr.heap.size, 2, none⟩) hlt2).trans q2
            have s3 := (b10.cell (p := ⟨b, off + m * 3, none⟩) (Nat.lt_of_lt_of_le hbl hW.size)).trans p0
            refine hK.out _ _ ⟨s0, s1, s2, s3⟩ (fun hHeld => ?_)
            clear hK K
            try simp only [Act.put, List.setIfInBounds_toArray, List.set_cons_zero, List.set_cons_succ]
            refine take_runs (i := 2) (v := ?_) (by simp only [List.getElem?_toArray, List.getElem?_cons_succ, List.getElem?_cons_zero]; rfl) (by kernel_rfl) (by kernel_rfl) (by kernel_rfl) rfl (by exact fun _ _ _ h => h) (by rfl) ?_ (by assumption) ?_
            rotate_left
            · intro w hSw; (try dsimp only at hSw); go_simp; try (with_reducible rfl)
            try simp only [Act.put, List.setIfInBounds_toArray, List.set_cons_zero, List.set_cons_succ]
            refine take_runs (i := 3) (v := ?_) (by simp only [List.getElem?_toArray, List.getElem?_cons_succ, List.getElem?_cons_zero]; rfl) (by kernel_rfl) (by kernel_rfl) (by kernel_rfl) rfl (by exact fun _ _ _ h => h) (by rfl) ?_ (by assumption) ?_
            rotate_left
            · intro w hSw; (try dsimp only at hSw); go_simp; try (with_reducible rfl)
            try simp only [Act.put, List.setIfInBounds_toArray, List.set_cons_zero, List.set_cons_succ]
            refine take_runs (i := 4) (v := ?_) (by simp only [List.getElem?_toArray, List.getElem?_cons_succ, List.getElem?_cons_zero]; rfl) (by kernel_rfl) (by kernel_rfl) (by kernel_rfl) rfl (by exact fun _ _ _ h => h) (by rfl) ?_ (by assumption) ?_
            rotate_left
            · intro w hSw; (try dsimp only at hSw); go_simp; try (with_reducible rfl)
            try simp only [Act.put, List.setIfInBounds_toArray, List.set_cons_zero, List.set_cons_succ]
            refine take_runs (i := 5) (v := ?_) (by simp only [List.getElem?_toArray, List.getElem?_cons_succ, List.getElem?_cons_zero]; rfl) (by kernel_rfl) (by kernel_rfl) (by kernel_rfl) rfl (by exact fun _ _ _ h => h) (by rfl) ?_ (by assumption) ?_
            rotate_left
            · intro w hSw; (try dsimp only at hSw); go_simp; try (with_reducible rfl)
            try simp only [Act.put, List.setIfInBounds_toArray, List.set_cons_zero, List.set_cons_succ]
            refine take_runs (i := 6) (v := ?_) (by simp only [List.getElem?_toArray, List.getElem?_cons_succ, List.getElem?_cons_zero]; rfl) (by kernel_rfl) (by kernel_rfl) (by kernel_rfl) rfl (by exact fun _ _ _ h => h) (by rfl) ?_ (by assumption) ?_
            rotate_left
            · intro w hSw; (try dsimp only at hSw); go_simp; try (with_reducible rfl)
            try simp only [Act.put, List.setIfInBounds_toArray, List.set_cons_zero, List.set_cons_succ]
            refine take_runs (i := 7) (v := ?_) (by simp only [List.getElem?_toArray, List.getElem?_cons_succ, List.getElem?_cons_zero]; rfl) (by kernel_rfl) (by kernel_rfl) (by kernel_rfl) rfl (by exact fun _ _ _ h => h) (by rfl) ?_ (by assumption) ?_
            rotate_left
            · intro w hSw; (try dsimp only at hSw); go_simp; try (with_reducible rfl)
            try simp only [Act.put, List.setIfInBounds_toArray, List.set_cons_zero, List.set_cons_succ]
            refine take_runs (i := 8) (v := ?_) (by simp only [List.getElem?_toArray, List.getElem?_cons_succ, List.getElem?_cons_zero]; rfl) (by kernel_rfl) (by kernel_rfl) (by kernel_rfl) rfl (by exact fun _ _ _ h => h) (by rfl) ?_ (by assumption) ?_
            rotate_left
            · intro w hSw; (try dsimp only at hSw); go_simp; try (with_reducible rfl)
            try simp only [Act.put, List.setIfInBounds_toArray, List.set_cons_zero, List.set_cons_succ]
            refine take_runs (i := 9) (v := ?_) (by simp only [List.getElem?_toArray, List.getElem?_cons_succ, List.getElem?_cons_zero]; rfl) (by kernel_rfl) (by kernel_rfl) (by kernel_rfl) rfl (by exact fun _ _ _ h => h) (by rfl) ?_ (by assumption) ?_
            rotate_left
            · intro w hSw; (try dsimp only at hSw); go_simp; try (with_reducible rfl)
            try simp only [Act.put, List.setIfInBounds_toArray, List.set_cons_zero, List.set_cons_succ]
            refine take_runs (i := 10) (v := ?_) (by simp only [List.getElem?_toArray, List.getElem?_cons_succ, List.getElem?_cons_zero]; rfl) (by kernel_rfl) (by kernel_rfl) (by kernel_rfl) rfl (by exact fun _ _ _ h => h) (by rfl) ?_ (by assumption) ?_
            rotate_left
            · intro w hSw; (try dsimp only at hSw); go_simp; try (with_reducible rfl)
            try simp only [Act.put, List.setIfInBounds_toArray, List.set_cons_zero, List.set_cons_succ]
            refine take_runs (i := 11) (v := ?_) (by simp only [List.getElem?_toArray, List.getElem?_cons_succ, List.getElem?_cons_zero]; rfl) (by kernel_rfl) (by kernel_rfl) (by kernel_rfl) rfl (by exact fun _ _ _ h => h) (by rfl) ?_ (by assumption) ?_
            rotate_left
            · intro w hSw; (try dsimp only at hSw); go_simp; try (with_reducible rfl)
            try simp only [Act.put, List.setIfInBounds_toArray, List.set_cons_zero, List.set_cons_succ]
            refine take_runs (i := 12) (v := ?_) (by simp only [List.getElem?_toArray, List.getElem?_cons_succ, List.getElem?_cons_zero]; rfl) (by kernel_rfl) (by kernel_rfl) (by kernel_rfl) rfl (by exact fun _ _ _ h => h) (by rfl) ?_ (by assumption) ?_
            rotate_left
            · intro w hSw; (try dsimp only at hSw); go_simp; try (with_reducible rfl)
            try simp only [Act.put, List.setIfInBounds_toArray, List.set_cons_zero, List.set_cons_succ]
            refine take_runs (i := 13) (v := ?_) (by simp only [List.getElem?_toArray, List.getElem?_cons_succ, List.getElem?_cons_zero]; rfl) (by kernel_rfl) (by kernel_rfl) (by kernel_rfl) rfl (by exact fun _ _ _ h => h) (by rfl) ?_ (by assumption) ?_
            rotate_left
            · intro w hSw; (try dsimp only at hSw); go_simp; try (with_reducible rfl)
            try simp only [Act.put, List.setIfInBounds_toArray, List.set_cons_zero, List.set_cons_succ]
            refine take_runs (i := 14) (v := ?_) (by simp only [List.getElem?_toArray, List.getElem?_cons_succ, List.getElem?_cons_zero]; rfl) (by kernel_rfl) (by kernel_rfl) (by kernel_rfl) rfl (by exact fun _ _ _ h => h) (by rfl) ?_ (by assumption) ?_
            rotate_left
            · intro w hSw; (try dsimp only at hSw); go_simp; try (with_reducible rfl)
            try simp only [Act.put, List.setIfInBounds_toArray, List.set_cons_zero, List.set_cons_succ]
            refine take_runs (i := 15) (v := ?_) (by simp only [List.getElem?_toArray, List.getElem?_cons_succ, List.getElem?_cons_zero]; rfl) (by kernel_rfl) (by kernel_rfl) (by kernel_rfl) rfl (by exact fun _ _ _ h => h) (by rfl) ?_ (by assumption) ?_
            rotate_left
            · intro w hSw; (try dsimp only at hSw); go_simp; try (with_reducible rfl)
            try simp only [Act.put, List.setIfInBounds_toArray, List.set_cons_zero, List.set_cons_succ]
            refine take_runs (i := 16) (v := ?_) (by simp only [List.getElem?_toArray, List.getElem?_cons_succ, List.getElem?_cons_zero]; rfl) (by kernel_rfl) (by kernel_rfl) (by kernel_rfl) rfl (by exact fun _ _ _ h => h) (by rfl) ?_ (by assumption) ?_
            rotate_left
            · intro w hSw; (try dsimp only at hSw); go_simp; try (with_reducible rfl)
            try simp only [Act.put, List.setIfInBounds_toArray, List.set_cons_zero, List.set_cons_succ]
            refine take_runs (i := 17) (v := ?_) (by simp only [List.getElem?_toArray, List.getElem?_cons_succ, List.getElem?_cons_zero]; rfl) (by kernel_rfl) (by kernel_rfl) (by kernel_rfl) rfl (by exact fun _ _ _ h => h) (by rfl) ?_ (by assumption) ?_
            rotate_left
            · intro w hSw; (try dsimp only at hSw); go_simp; try (with_reducible rfl)
            try simp only [Act.put, List.setIfInBounds_toArray, List.set_cons_zero, List.set_cons_succ]
            refine wpAnyH_done (by kernel_rfl) ?_ _
            have b11 := hbel.trans ((hW.trans (b10.mono hW.size)).mono hbel.size)
            clear s0 s1 s2 hHeld b9 b10
            try clear s3
            go_wp2
            go_ret
            exact ⟨ret_b HF.out.symm, b11⟩
          · have HA := Lib.hid (HSTEP.out hrb (fun _ => by omega))
            have hd := decide_eq_false hle
            clear hrb HBAD HSTEP H1 hz hle hkm
            generalize (cs.getD k c0D).1 = cf at *
            generalize (cs.getD k c0D).2.1 = cl at *
            generalize (cs.getD k c0D).2.2 = ch at *
            generalize (cs.getD m c0D).1 = fp at *
            go_wp2
            have hW : Below wr.heap.size wr (wr.alloc (.cells #[.int .i64 cf, .int .i64 cl, .int .i64 ch] 79)) := (Below.refl _ wr).alloc (Nat.le_refl _) _
            have g0 := heap_alloc_new wr (.cells #[.int .i64 cf, .int .i64 cl, .int .i64 ch] 79)
            have hlt2 : wr.heap.size < (wr.alloc (.cells #[.int .i64 cf, .int .i64 cl, .int .i64 ch] 79)).heap.size := by simp
            generalize wr.alloc (.cells #[.int .i64 cf, .int .i64 cl, .int .i64 ch] 79) = W at *
            have q0 := cell_of_row W _ 0 _ _ _ g0
            have q1 := cell_of_row W _ 1 _ _ _ g0
            have q2 := cell_of_row W _ 2 _ _ _ g0
            simp at q0 q1 q2
            have p0 := (hW.cell (p := ⟨b, off + m * 3, none⟩) hbl).trans hc0
            refine wp_region_held_drew (S := fun w' => w'.cell? ⟨wr.heap.size, 0, none⟩ = some (.int .i64 cf) ∧ w'.cell? ⟨wr.heap.size, 1, none⟩ = some (.int .i64 cl) ∧ w'.cell? ⟨wr.heap.size, 2, none⟩ = some (.int .i64 ch) ∧ w'.cell? ⟨b, off + m * 3, none⟩ = some (.int .i64 fp)) (by kernel_rfl) ⟨q0, q1, q2, p0⟩ (fun hHeld => ?_)
            refine take_runs (i := 0) (v := ?_) (by simp only [List.getElem?_toArray, List.getElem?_cons_succ, List.getElem?_cons_zero]; rfl) (by kernel_rfl) (by kernel_rfl) (by kernel_rfl) rfl (by exact fun _ _ _ h => h) (by rfl) ?_ (by assumption) ?_
            rotate_left
            · intro w hSw; (try dsimp only at hSw); go_simp; try (with_reducible rfl)
            try simp only [Act.put, List.setIfInBounds_toArray, List.set_cons_zero, List.set_cons_succ]
            refine wpAnyH_ready (rs := [1]) (by kernel_rfl) (by simp) ?_
            refine AllReadyH.cons (o := _) (by simp only [List.getElem?_toArray, List.getElem?_cons_succ, List.getElem?_cons_zero]; rfl) (fun K hK => ?_) AllReadyH.nil
            go_simp
            refine (HR.out _).mono ?_
            rintro e w8 ⟨rfl, b9⟩
            have b10 : Below W.heap.size W w8 := ⟨b9.os, b9.tape, b9.output, b9.size, b9.block⟩
            have s0 := (b10.cell (p := ⟨wr.heap.size, 0, none⟩) hlt2).trans q0
            have s1 := (b10.cell (p := ⟨wr.heap.size, 1, none⟩) hlt2).trans q1
            have s2 := (b10.cell (p := ⟨wr.heap.size, 2, none⟩) hlt2).trans q2
            have s3 := (b10.cell (p := ⟨b, off + m * 3, none⟩) (Nat.lt_of_lt_of_le hbl hW.size)).trans p0
            refine hK.out _ _ ⟨s0, s1, s2, s3⟩ (fun hHeld => ?_)
            clear hK K
            try simp only [Act.put, List.setIfInBounds_toArray, List.set_cons_zero, List.set_cons_succ]
            refine take_runs (i := 2) (v := ?_) (by simp only [List.getElem?_toArray, List.getElem?_cons_succ, List.getElem?_cons_zero]; rfl) (by kernel_rfl) (by kernel_rfl) (by kernel_rfl) rfl (by exact fun _ _ _ h => h) (by rfl) ?_ (by assumption) ?_
            rotate_left
            · intro w hSw; (try dsimp only at hSw); go_simp; try (with_reducible rfl)
            try simp only [Act.put, List.setIfInBounds_toArray, List.set_cons_zero, List.set_cons_succ]
            refine take_runs (i := 3) (v := ?_) (by simp only [List.getElem?_toArray, List.getElem?_cons_succ, List.getElem?_cons_zero]; rfl) (by kernel_rfl) (by kernel_rfl) (by kernel_rfl) rfl (by exact fun _ _ _ h => h) (by rfl) ?_ (by assumption) ?_
            rotate_left
            · intro w hSw; (try dsimp only at hSw); go_simp; try (with_reducible rfl)
            try simp only [Act.put, List.setIfInBounds_toArray, List.set_cons_zero, List.set_cons_succ]
            refine take_runs (i := 4) (v := ?_) (by simp only [List.getElem?_toArray, List.getElem?_cons_succ, List.getElem?_cons_zero]; rfl) (by kernel_rfl) (by kernel_rfl) (by kernel_rfl) rfl (by exact fun _ _ _ h => h) (by rfl) ?_ (by assumption) ?_
            rotate_left
            · intro w hSw; (try dsimp only at hSw); go_simp; try (with_reducible rfl)
            try simp only [Act.put, List.setIfInBounds_toArray, List.set_cons_zero, List.set_cons_succ]
            refine take_runs (i := 5) (v := ?_) (by simp only [List.getElem?_toArray, List.getElem?_cons_succ, List.getElem?_cons_zero]; rfl) (by kernel_rfl) (by kernel_rfl) (by kernel_rfl) rfl (by exact fun _ _ _ h => h) (by rfl) ?_ (by assumption) ?_
            rotate_left
            · intro w hSw; (try dsimp only at hSw); go_simp; try (with_reducible rfl)
            try simp only [Act.put, List.setIfInBounds_toArray, List.set_cons_zero, List.set_cons_succ]
            refine take_runs (i := 6) (v := ?_) (by simp only [List.getElem?_toArray, List.getElem?_cons_succ, List.getElem?_cons_zero]; rfl) (by kernel_rfl) (by kernel_rfl) (by kernel_rfl) rfl (by exact fun _ _ _ h => h) (by rfl) ?_ (by assumption) ?_
            rotate_left
            · intro w hSw; (try dsimp only at hSw); go_simp; try (with_reducible rfl)
            try simp only [Act.put, List.setIfInBounds_toArray, List.set_cons_zero, List.set_cons_succ]
            refine take_runs (i := 7) (v := ?_) (by simp only [List.getElem?_toArray, List.getElem?_cons_succ, List.getElem?_cons_zero]; rfl) (by kernel_rfl) (by kernel_rfl) (by kernel_rfl) rfl (by exact fun _ _ _ h => h) (by rfl) ?_ (by assumption) ?_
            rotate_left
            · intro w hSw; (try dsimp only at hSw); go_simp; try (with_reducible rfl)
            try simp only [Act.put, List.setIfInBounds_toArray, List.set_cons_zero, List.set_cons_succ]
            refine take_runs (i := 8) (v := ?_) (by simp only [List.getElem?_toArray, List.getElem?_cons_succ, List.getElem?_cons_zero]; rfl) (by kernel_rfl) (by kernel_rfl) (by kernel_rfl) rfl (by exact fun _ _ _ h => h) (by rfl) ?_ (by assumption) ?_
            rotate_left
            · intro w hSw; (try dsimp only at hSw); go_simp; try (with_reducible rfl)
            try simp only [Act.put, List.setIfInBounds_toArray, List.set_cons_zero, List.set_cons_succ]
            refine take_runs (i := 9) (v := ?_) (by simp only [List.getElem?_toArray, List.getElem?_cons_succ, List.getElem?_cons_zero]; rfl) (by kernel_rfl) (by kernel_rfl) (by kernel_rfl) rfl (by exact fun _ _ _ h => h) (by rfl) ?_ (by assumption) ?_
            rotate_left
            · intro w hSw; (try dsimp only at hSw); go_simp; try (with_reducible rfl)
            try simp only [Act.put, List.setIfInBounds_toArray, List.set_cons_zero, List.set_cons_succ]
            refine take_runs (i := 10) (v := ?_) (by simp only [List.getElem?_toArray, List.getElem?_cons_succ, List.getElem?_cons_zero]; rfl) (by kernel_rfl) (by kernel_rfl) (by kernel_rfl) rfl (by exact fun _ _ _ h => h) (by rfl) ?_ (by assumption) ?_
            rotate_left
            · intro w hSw; (try dsimp only at hSw); go_simp; try (with_reducible rfl)
            try simp only [Act.put, List.setIfInBounds_toArray, List.set_cons_zero, List.set_cons_succ]
            refine take_runs (i := 11) (v := ?_) (by simp only [List.getElem?_toArray, List.getElem?_cons_succ, List.getElem?_cons_zero]; rfl) (by kernel_rfl) (by kernel_rfl) (by kernel_rfl) rfl (by exact fun _ _ _ h => h) (by rfl) ?_ (by assumption) ?_
            rotate_left
            · intro w hSw; (try dsimp only at hSw); go_simp; try (with_reducible rfl)
            try simp only [Act.put, List.setIfInBounds_toArray, List.set_cons_zero, List.set_cons_succ]
            refine take_runs (i := 12) (v := ?_) (by simp only [List.getElem?_toArray, List.getElem?_cons_succ, List.getElem?_cons_zero]; rfl) (by kernel_rfl) (by kernel_rfl) (by kernel_rfl) rfl (by exact fun _ _ _ h => h) (by rfl) ?_ (by assumption) ?_
            rotate_left
            · intro w hSw; (try dsimp only at hSw); go_simp; try (with_reducible rfl)
            try simp only [Act.put, List.setIfInBounds_toArray, List.set_cons_zero, List.set_cons_succ]
            refine take_runs (i := 13) (v := ?_) (by simp only [List.getElem?_toArray, List.getElem?_cons_succ, List.getElem?_cons_zero]; rfl) (by kernel_rfl) (by kernel_rfl) (by kernel_rfl) rfl (by exact fun _ _ _ h => h) (by rfl) ?_ (by assumption) ?_
            rotate_left
            · intro w hSw; (try dsimp only at hSw); go_simp; try (with_reducible rfl)
            try simp only [Act.put, List.setIfInBounds_toArray, List.set_cons_zero, List.set_cons_succ]
            refine take_runs (i := 14) (v := ?_) (by simp only [List.getElem?_toArray, List.getElem?_cons_succ, List.getElem?_cons_zero]; rfl) (by kernel_rfl) (by kernel_rfl) (by kernel_rfl) rfl (by exact fun _ _ _ h => h) (by rfl) ?_ (by assumption) ?_
            rotate_left
            · intro w hSw; (try dsimp only at hSw); go_simp; try (with_reducible rfl)
            try simp only [Act.put, List.setIfInBounds_toArray, List.set_cons_zero, List.set_cons_succ]
            refine take_runs (i := 15) (v := ?_) (by simp only [List.getElem?_toArray, List.getElem?_cons_succ, List.getElem?_cons_zero]; rfl) (by kernel_rfl) (by kernel_rfl) (by kernel_rfl) rfl (by exact fun _ _ _ h => h) (by rfl) ?_ (by assumption) ?_
            rotate_left
            · intro w hSw; (try dsimp only at hSw); go_simp; try (with_reducible rfl)
            try simp only [Act.put, List.setIfInBounds_toArray, List.set_cons_zero, List.set_cons_succ]
            refine take_runs (i := 16) (v := ?_) (by simp only [List.getElem?_toArray, List.getElem?_cons_succ, List.getElem?_cons_zero]; rfl) (by kernel_rfl) (by kernel_rfl) (by kernel_rfl) rfl (by exact fun _ _ _ h => h) (by rfl) ?_ (by assumption) ?_
            rotate_left
            · intro w hSw; (try dsimp only at hSw); go_simp; try (with_reducible rfl)
            try simp only [Act.put, List.setIfInBounds_toArray, List.set_cons_zero, List.set_cons_succ]
            refine take_runs (i := 17) (v := ?_) (by simp only [List.getElem?_toArray, List.getElem?_cons_succ, List.getElem?_cons_zero]; rfl) (by kernel_rfl) (by kernel_rfl) (by kernel_rfl) rfl (by exact fun _ _ _ h => h) (by rfl) ?_ (by assumption) ?_
            rotate_left
            · intro w hSw; (try dsimp only at hSw); go_simp; try (with_reducible rfl)
            try simp only [Act.put, List.setIfInBounds_toArray, List.set_cons_zero, List.set_cons_succ]
            refine wpAnyH_done (by kernel_rfl) ?_ _
            have b11 := hbel.trans ((hW.trans (b10.mono hW.size)).mono hbel.size)
            clear s0 s1 s2 hHeld b9 b10
            try clear s3
            go_wp2
            go_roundw
            case rel => exact ⟨k + 1, by omega, by go_num, HA, b11⟩
            case measure => simp [intOf]; omega
    · obtain rfl : k = cs.length := by omega
      have HA := Lib.hid (HT.out hall.out)
      clear hall
      go_wp2
      go_ret
      exact ⟨ret_b HA.out.symm, hbel⟩
set_option maxHeartbeats 4000000 in
set_option maxRecDepth 100000 in
theorem isOut_any (v : Value) (os : List Int) (w : World) (h : Ints w v os) (hn : os.length ≤ 1048576) :
    Calls Tryd.prog 100 #[v] w fun e w' => e = .returned (.bool (fieldsB os)) ∧ Below w.heap.size w w' := by
  have H := Lib.hid h
  obtain ⟨a, cap, rfl⟩ := ints_len h
  clear h
  by_cases hl : os.length < 1
  · have HF : Hid (fieldsB os = false) := Lib.hid (by unfold fieldsB; rw [decide_eq_false (by omega : ¬ (1 ≤ os.length ∧ os.length ≤ 3)), Bool.and_false])
    have e0 : (os.length : Int) < 1 := by omega
    go_enter Tryd.func100, Tryd.ntmps100
    go_wp2
    go_ret
    exact ⟨ret_b HF.out.symm, Below.refl _ _⟩
  by_cases hg : 3 < os.length
  · have HF : Hid (fieldsB os = false) := Lib.hid (by unfold fieldsB; rw [decide_eq_false (by omega : ¬ (1 ≤ os.length ∧ os.length ≤ 3)), Bool.and_false])
    have e0 : ¬ (os.length : Int) < 1 := by omega
    have e1 : (3 : Int) < (os.length : Int) := by omega
    go_enter Tryd.func100, Tryd.ntmps100
    go_wp2
    go_ret
    exact ⟨ret_b HF.out.symm, Below.refl _ _⟩
  have HT : Hid ((∀ k, k < os.length → 0 ≤ os.getD k 0 ∧ os.getD k 0 ≤ 2) → fieldsB os = true) := Lib.hid (fun g => by rw [fieldsB_all g]; exact decide_eq_true (by omega))
  have e0 : ¬ (os.length : Int) < 1 := by omega
  have e1 : ¬ (3 : Int) < (os.length : Int) := by omega
  go_enter Tryd.func100, Tryd.ntmps100
  go_wp2
  clear e0 e1 hl hg
  go_loopw [15] (fun i wr => ∃ k : Nat, k ≤ os.length ∧ i = .int .i64 k ∧ Hid (∀ j, j < k → 0 ≤ os.getD j 0 ∧ os.getD j 0 ≤ 2) ∧ wr = w) (fun i _ => os.length - (intOf i).toNat)
  case atStart => exact ⟨0, Nat.zero_le _, rfl, Lib.hid (fun j hj => by omega), rfl⟩
  case round =>
    obtain ⟨k, hk, rfl, hall, rfl⟩ := hrel
    by_cases hlt : k < os.length
    · obtain ⟨b, off, cap', hv, hbl, hc⟩ := ints_cell H.out (by omega)
      simp only [Value.slice.injEq] at hv
      obtain ⟨rfl, _, rfl⟩ := hv
      have hcell := hc k hlt
      have i1 : (0 : Int) ≤ (k : Int) := by omega
      have i2 : (k : Int) < (os.length : Int) := by omega
      clear hc
      by_cases hi : 0 ≤ os.getD k 0 ∧ os.getD k 0 ≤ 2
      · have HA : Hid (∀ j, j < k + 1 → 0 ≤ os.getD j 0 ∧ os.getD j 0 ≤ 2) := Lib.hid (fun j hj => by
          by_cases e : j = k
          · subst e; exact hi
          · exact hall.out j (by omega))
        have HI := Lib.hid (fun w => isField_yes (os.getD k 0) w hi.1 (by omega))
        clear hi hall
        generalize os.getD k 0 = x at *
        go_wp2_with fail
        refine (HI.out _).mono ?_
        rintro e w1 ⟨rfl, rfl⟩
        go_wp2
        go_roundw
        case rel => exact ⟨k + 1, by omega, by go_num, HA, by simp⟩
        case measure => simp [intOf]; omega
      · have HF := Lib.hid (fieldsB_bad hlt hi)
        have HI := Lib.hid (fun w => isField_no (os.getD k 0) w (by omega))
        clear hi hall
        generalize os.getD k 0 = x at *
        go_wp2_with fail
        refine (HI.out _).mono ?_
        rintro e w1 ⟨rfl, rfl⟩
        go_wp2
        go_ret
        exact ⟨ret_b HF.out.symm, Below.refl _ _⟩
    · obtain rfl : k = os.length := by omega
      have HE := Lib.hid (HT.out hall.out)
      clear hall
      go_wp2
      go_ret
      exact ⟨ret_b HE.out.symm, Below.refl _ _⟩
set_option maxHeartbeats 4000000 in
set_option maxRecDepth 100000 in
theorem implIsQuery (id tn : Int) (cv ov : Value) (cs : List CondD) (os : List Int) (w : World) (h : CondsR w cv cs) (hn : cs.length ≤ 1048576) (g : Ints w ov os) (hm : os.length ≤ 1048576) :
    Calls Tryd.prog 67 #[qV id tn cv ov] w fun e w' => e = .returned (.bool (queryB id tn cs os)) ∧ Below w.heap.size w w' := by
  obtain ⟨va, vcap, rfl⟩ := condsR_len h
  obtain ⟨oa, ocap, rfl⟩ := ints_len g
  have hb0 : Below w.heap.size w (w.alloc (.cells #[.int .i64 id, .int .i64 tn, .slice va cs.length vcap, .slice oa os.length ocap] 46)) := (Below.refl _ w).alloc (Nat.le_refl _) _
  have HB0 := Lib.hid hb0
  have HG0 := Lib.hid (heap_alloc_new w (.cells #[.int .i64 id, .int .i64 tn, .slice va cs.length vcap, .slice oa os.length ocap] 46))
  have HH := Lib.hid (condsR_below h hb0)
  have HO := Lib.hid (ints_below g hb0)
  have HV := Lib.hid (fun w h => areValid_any (.slice va cs.length vcap) cs w h hn)
  have HU := Lib.hid (fun w h => isOut_any (.slice oa os.length ocap) os w h hm)
  clear h g hn hm hb0
  have HQ : Hid (queryB id tn cs os = (decide (0 ≤ id ∧ id < 24) && (decide (0 ≤ tn ∧ tn < 4) && (condsV cs && fieldsB os)))) := Lib.hid (by
    unfold queryB condsV
    rw [show decide (0 ≤ id ∧ id < 24) = decide (0 ≤ id ∧ id ≤ 23) by congr 1; apply propext; omega, show decide (0 ≤ tn ∧ tn < 4) = decide (0 ≤ tn ∧ tn ≤ 3) by congr 1; apply propext; omega]
    cases condsB cs <;> cases decide (0 ≤ id ∧ id ≤ 23) <;> cases decide (0 ≤ tn ∧ tn ≤ 3) <;> cases decide (cs.length ≤ 3) <;> cases fieldsB os <;> rfl)
  by_cases h1 : 0 ≤ id ∧ id < 24
  · have H1 := Lib.hid (fun w => isQNum_yes id w h1.1 h1.2)
    rw [decide_eq_true h1, Bool.true_and] at HQ
    clear h1
    by_cases h2 : 0 ≤ tn ∧ tn < 4
    · have H2 := Lib.hid (fun w => isTenant_yes tn w h2.1 h2.2)
      rw [decide_eq_true h2, Bool.true_and] at HQ
      clear h2
      cases h3 : condsV cs with
      | false =>
        have HT : Hid (queryB id tn cs os = false) := Lib.hid (by rw [HQ.out, h3, Bool.false_and])
        rw [h3] at HV
        clear h3 HQ
        go_enter Tryd.func67, Tryd.ntmps67
        go_wp2_with fail
        generalize w.alloc (.cells #[.int .i64 id, .int .i64 tn, .slice va cs.length vcap, .slice oa os.length ocap] 46) = W at *
        obtain ⟨p0, p1, p2, p3⟩ := box_cells4 HG0.out (Below.refl _ _)
        refine (H1.out _).mono ?_
        rintro e w1 ⟨rfl, rfl⟩
        go_wp2_with fail
        refine (H2.out _).mono ?_
        rintro e w2 ⟨rfl, rfl⟩
        go_wp2_with fail
        refine (HV.out _ HH.out).mono ?_
        rintro e w3 ⟨rfl, b3⟩
        have c3 := HB0.out.trans (b3.mono HB0.out.size)
        go_wp2
        go_ret
        exact ⟨ret_b HT.out.symm, c3⟩
      | true =>
        have HT : Hid (queryB id tn cs os = fieldsB os) := Lib.hid (by rw [HQ.out, h3, Bool.true_and])
        rw [h3] at HV
        clear h3 HQ
        generalize fieldsB os = r at *
        go_enter Tryd.func67, Tryd.ntmps67
        go_wp2_with fail
        generalize w.alloc (.cells #[.int .i64 id, .int .i64 tn, .slice va cs.length vcap, .slice oa os.length ocap] 46) = W at *
        obtain ⟨p0, p1, p2, p3⟩ := box_cells4 HG0.out (Below.refl _ _)
        refine (H1.out _).mono ?_
        rintro e w1 ⟨rfl, rfl⟩
        go_wp2_with fail
        refine (H2.out _).mono ?_
        rintro e w2 ⟨rfl, rfl⟩
        go_wp2_with fail
        refine (HV.out _ HH.out).mono ?_
        rintro e w3 ⟨rfl, b3⟩
        have c3 := HB0.out.trans (b3.mono HB0.out.size)
        clear p0 p1 p2 p3
        obtain ⟨p0, p1, p2, p3⟩ := box_cells4 HG0.out b3
        have I3 := Lib.hid (ints_below HO.out b3)
        clear b3
        go_wp2_with fail
        refine (HU.out _ I3.out).mono ?_
        rintro e w4 ⟨rfl, b4⟩
        have c4 := c3.trans (b4.mono c3.size)
        go_wp2
        go_ret
        exact ⟨ret_b HT.out.symm, c4⟩
    · have H2 := Lib.hid (fun w => isTenant_no tn w h2)
      have HT : Hid (queryB id tn cs os = false) := Lib.hid (by rw [HQ.out, decide_eq_false h2, Bool.false_and])
      clear h2 HQ
      go_enter Tryd.func67, Tryd.ntmps67
      go_wp2_with fail
      generalize w.alloc (.cells #[.int .i64 id, .int .i64 tn, .slice va cs.length vcap, .slice oa os.length ocap] 46) = W at *
      obtain ⟨p0, p1, p2, p3⟩ := box_cells4 HG0.out (Below.refl _ _)
      refine (H1.out _).mono ?_
      rintro e w1 ⟨rfl, rfl⟩
      go_wp2_with fail
      refine (H2.out _).mono ?_
      rintro e w2 ⟨rfl, rfl⟩
      go_wp2
      go_ret
      exact ⟨ret_b HT.out.symm, HB0.out⟩
  · have H1 := Lib.hid (fun w => isQNum_no id w h1)
    have HT : Hid (queryB id tn cs os = false) := Lib.hid (by rw [HQ.out, decide_eq_false h1, Bool.false_and])
    clear h1 HQ
    go_enter Tryd.func67, Tryd.ntmps67
    go_wp2_with fail
    generalize w.alloc (.cells #[.int .i64 id, .int .i64 tn, .slice va cs.length vcap, .slice oa os.length ocap] 46) = W at *
    obtain ⟨p0, p1, p2, p3⟩ := box_cells4 HG0.out (Below.refl _ _)
    refine (H1.out _).mono ?_
    rintro e w1 ⟨rfl, rfl⟩
    go_wp2
    go_ret
    exact ⟨ret_b HT.out.symm, HB0.out⟩
end Go.Proofs.YteelgogfpidcdaaDoor
namespace Go.Proofs.YteelgogfpidcdaaDoor.Comma
open Go.RowKit Go.Shelf
attribute [local go_sem] Oper.semAt_some
set_option linter.unusedVariables false
/-! ### The law of the loop -/
/-- The blocks from B up to B + 5 lie as they lay. -/
def Stays (B : Nat) (W W' : World) : Prop := W.heap.size ≤ W'.heap.size ∧ ∀ j, B ≤ j → j < B + 5 → j < W.heap.size → W'.heap[j]? = W.heap[j]?
theorem Stays.trans {B : Nat} {W W' W'' : World} (h : Stays B W W') (h' : Stays B W' W'') : Stays B W W'' :=
  ⟨Nat.le_trans h.1 h'.1, fun j hb h5 hj => (h'.2 j hb h5 (Nat.lt_of_lt_of_le hj h.1)).trans (h.2 j hb h5 hj)⟩
/-! ### The iterator -/
/-! ### The iterator's making -/
end Go.Proofs.YteelgogfpidcdaaDoor.Comma
namespace Go.Proofs.YteelgogfpidcdaaDoor
open Go.RowKit
set_option linter.unusedVariables false
end Go.Proofs.YteelgogfpidcdaaDoor
namespace Go.Proofs.YteelgogfpidcdaaDoor
open Go.RowKit
set_option linter.unusedVariables false
end Go.Proofs.YteelgogfpidcdaaDoor
namespace Go.Proofs.YteelgogfpidcdaaDoor.Comma
open Go.RowKit Go.Shelf
attribute [local go_sem] Oper.semAt_some
set_option linter.unusedVariables false
set_option linter.unusedSimpArgs false
end Go.Proofs.YteelgogfpidcdaaDoor.Comma
namespace Go.Proofs.YteelgogfpidcdaaDoor
open Go.RowKit
set_option linter.unusedVariables false
theorem ownsC_cap {w : World} {B : Nat} {v : Value} {cs : List CondD} (h : OwnsC w B v cs) : ∃ a cap, v = .slice a cs.length cap ∧ cs.length ≤ cap := by
  rcases h.2 with ⟨rfl, h0⟩ | ⟨g, cap, cur, rfl, hb, hg, hn, _⟩
  · exact ⟨none, 0, by rw [h0], by rw [h0]; exact Nat.le_refl _⟩
  · exact ⟨_, cap, rfl, hn⟩
theorem run_append_conds {w : World} {B : Nat} {v u : Value} {cs ds : List CondD} (ty : TypeId) (hown : OwnsC w B v cs) (hu : CondsR w u ds) (hB : B ≤ w.heap.size) (h63 : cs.length + ds.length ≤ 17592186044) :
    ∃ v' w', (Builtin.append_ #[44, 44] ty #[v, u]).run Tryd.prog w = .ok v' w' ∧ OwnsC w' B v' (cs ++ ds) ∧ Below B w w' := by
  obtain ⟨i0, hi, hz0, hz1, hz2⟩ := info_parts Tryd.infoCond
  rcases hu with ⟨rfl, a', cap', rfl⟩ | ⟨b, off, cap', rfl, hcap, hbl, hc⟩
  · obtain ⟨a, cap, rfl, hle⟩ := ownsC_cap hown
    have hs : Src Tryd.prog i0.size 44 (.slice a' 0 cap') 0 [] w := by
      cases a' with
      | none => exact Src.ofNil w Tryd.underlying44 cap'
      | some ad => exact Src.ofSlice w Tryd.underlying44 ad 0 cap' [] (by simp) (by simp) (by simp)
    exact ⟨_, _, run_append_nothing w 44 44 ty 79 i0 Tryd.underlying44 hi a cs.length cap hle _ hs, by simpa using hown, Below.refl B w⟩
  · obtain ⟨v', w', hr, h2, h3, h4⟩ := run_append_own (P := Tryd.prog) w B 44 ty 79 i0 (.agg #[.int .i64 0, .int .i64 0, .int .i64 0]) 3 24 Tryd.underlying44 hi hz0 hz1 hz2 rfl (by decide) v cs.length _ hown ⟨b, off, none⟩ ds.length cap' (flatC ds) (by rw [flatC_len]) (by
        intro j q hj
        rw [Go.WideShapes.add_plain]
        by_cases hlt : j < ds.length * 3
        · have hk : j / 3 < ds.length := by omega
          obtain ⟨g1, g2, g3⟩ := hc (j / 3) hk
          obtain ⟨f1, f2, f3⟩ := flatC_at ds (j / 3) hk
          have : j = j / 3 * 3 ∨ j = j / 3 * 3 + 1 ∨ j = j / 3 * 3 + 2 := by omega
          rcases this with e | e | e
          · rw [e] at hj ⊢; rw [f1] at hj; rw [← hj]; exact g1
          · rw [e] at hj ⊢; rw [f2] at hj; rw [← hj, ← Nat.add_assoc]; exact g2
          · rw [e] at hj ⊢; rw [f3] at hj; rw [← hj, ← Nat.add_assoc]; exact g3
        · rw [List.getElem?_eq_none (by rw [flatC_len]; omega)] at hj
          simp at hj) (flatC_one ds) (by unfold maxLen; omega) (by omega) hB
    refine ⟨v', w', hr, ?_, ?_⟩
    · unfold OwnsC
      rw [flatC_app, List.length_append]
      exact h2
    · exact (Below.refl B w).grown h3 hB (fun k hk => (hown.lt k hk).1)
end Go.Proofs.YteelgogfpidcdaaDoor
namespace Go.Proofs.YteelgogfpidcdaaDoor
open Go.RowKit
set_option linter.unusedVariables false
end Go.Proofs.YteelgogfpidcdaaDoor
namespace Go.Proofs.YteelgogfpidcdaaDoor
open Go.RowKit
set_option linter.unusedVariables false
set_option linter.unusedSimpArgs false
end Go.Proofs.YteelgogfpidcdaaDoor
namespace Go.Proofs.YteelgogfpidcdaaDoor
open Go.RowKit
set_option linter.unusedVariables false
set_option linter.unusedSimpArgs false
theorem conds_one {w : World} {h : Nat} {f lo hi : Int} (hc : w.cell? ⟨h, 0, none⟩ = some (.int .i64 f) ∧ w.cell? ⟨h, 1, none⟩ = some (.int .i64 lo) ∧ w.cell? ⟨h, 2, none⟩ = some (.int .i64 hi)) (hl : h < w.heap.size) : CondsR w (.slice (some ⟨h, 0, none⟩) 1 1) [(f, lo, hi)] :=
  Or.inr ⟨h, 0, 1, rfl, by simp, hl, fun j hj => by
    have : j = 0 := by simp at hj; omega
    subst this
    simpa using hc⟩
/-- What was there, but the block R, lies as it lay; blocks from C on may be written. -/
structure Rowed (R C : Nat) (W W' : World) : Prop where
  os : W'.os = W.os
  tape : W'.tape = W.tape
  output : W'.output = W.output
  size : W.heap.size ≤ W'.heap.size
  block : ∀ k, k < C → k ≠ R → W'.heap[k]? = W.heap[k]?
theorem Rowed.refl (R C : Nat) (W : World) : Rowed R C W W := ⟨rfl, rfl, rfl, Nat.le_refl _, fun _ _ _ => rfl⟩
theorem Rowed.below {R C D : Nat} {a b c : World} (h : Rowed R C a b) (k : Below D b c) (hD : C ≤ D) : Rowed R C a c := ⟨k.os.trans h.os, k.tape.trans h.tape, k.output.trans h.output, Nat.le_trans h.size k.size, fun i hi hn => (k.block i (by omega)).trans (h.block i hi hn)⟩
theorem Rowed.set {R C : Nat} {a b : World} (h : Rowed R C a b) (j : Nat) (v : Value) : Rowed R C a (b.setCell ⟨R, j, none⟩ v) := ⟨h.os, h.tape, h.output, by simpa [World.setCell] using h.size, fun i hi hn => (Below.heap_setCell b _ v i (by simpa using hn)).trans (h.block i hi hn)⟩
theorem Rowed.all {R C D : Nat} {a b c : World} (h : Rowed R C b c) (k : Below D a b) (hD : D ≤ R) (hC : D ≤ C) : Below D a c := ⟨h.os.trans k.os, h.tape.trans k.tape, h.output.trans k.output, Nat.le_trans k.size h.size, fun i hi => (h.block i (by omega) (by omega)).trans (k.block i hi)⟩
end Go.Proofs.YteelgogfpidcdaaDoor
namespace Go.Proofs.YteelgogfpidcdaaDoor
open Go.RowKit
set_option linter.unusedVariables false
end Go.Proofs.YteelgogfpidcdaaDoor
namespace Go.Proofs.YteelgogfpidcdaaDoor
open Go.RowKit
set_option linter.unusedVariables false
set_option linter.unusedSimpArgs false
/-- The library's bound on short texts is some number. -/
def TabM (w : World) : Prop := ∃ m, w.cell? ⟨1, 0, none⟩ = some (.int .i64 m)
theorem TabM.on {w w' : World} (h : TabM w) (hb : Below w.heap.size w w') : TabM w' := by
  obtain ⟨m, hm⟩ := h
  exact ⟨m, (hb.cell (p := ⟨_, 0, none⟩) (World.block_lt_of_cell? w _ hm)).trans hm⟩
theorem wpl_append_conds {w : World} {ops : Array Oper} {rest : List Oper} {o : Oper} {a : Act} {Q : Exit → Act → World → Prop} (hgd : o.guard = none) (s x : Operand)
    (ho : o.op = .call { callee := .builtin .append, args := #[s, x], argTypes := #[44, 44] })
    (B : Nat) (v u : Value) (cs ds : List CondD) (hs : a.eval s = v) (hx : a.eval x = u) (hown : OwnsC w B v cs) (hu : CondsR w u ds) (hB : B ≤ w.heap.size) (h63 : cs.length + ds.length ≤ 17592186044)
    (h : ∀ v' w', OwnsC w' B v' (cs ++ ds) → Below B w w' → wpList Tryd.prog ops Q rest (a.put o.dst v') w') : wpList Tryd.prog ops Q (o :: rest) a w := by
  refine wpList_plain hgd fun K hK => ?_
  obtain ⟨v', w', hr, h2, h3⟩ := run_append_conds o.type hown hu hB h63
  unfold Oper.wp
  simp [execOp, ho, resolve, invoke, builtin, hs, hx, hr, Result.andThen]
  exact hK _ _ (h v' w' h2 h3)
end Go.Proofs.YteelgogfpidcdaaDoor
namespace Go.Proofs.YteelgogfpidcdaaDoor
open Go.RowKit
set_option linter.unusedVariables false
set_option linter.unusedSimpArgs false
theorem Tryd.infoQuery : (Tryd.prog.info? 46).map (fun i => (i.zero, i.size, i.bytes)) = some (some (.agg #[.int .i64 0, .int .i64 0, .slice none 0 0, .slice none 0 0]), 4, 64) := by kernel_rfl
end Go.Proofs.YteelgogfpidcdaaDoor
namespace Go.Proofs.YteelgogfpidcdaaDoor
open Go.RowKit
set_option linter.unusedVariables false
set_option linter.unusedSimpArgs false
theorem info_query : ∃ i, Tryd.prog.info? 46 = some i ∧ i.zero = some (.agg #[.int .i64 0, .int .i64 0, .slice none 0 0, .slice none 0 0]) ∧ i.size = 4 ∧ i.bytes = 64 := by
  have h1 := Tryd.infoQuery
  cases e : Tryd.prog.info? 46 with
  | none => rw [e] at h1; simp at h1
  | some i => rw [e] at h1; simp at h1; exact ⟨i, rfl, h1.1, h1.2.1, h1.2.2⟩
/-- The cells of a slice of queries that the call made. -/
def QueriesC (w : World) (B : Nat) (v : Value) (n : Nat) (cs : List Value) : Prop := w.ownsRow B 46 4 v n cs
/-- 'append(x, ..)' of one query whose cells lie at ad. -/
theorem append_queries {w : World} {ops : Array Oper} {rest : List Oper} {o : Oper} {a : Act} {Q : Exit → Act → World → Prop} (hgd : o.guard = none) (s x : Operand)
    (ho : o.op = .call { callee := .builtin .append, args := #[s, x], argTypes := #[24, 24] })
    (B : Nat) (v : Value) (n : Nat) (cs : List Value) (hs : a.eval s = v) (hown : QueriesC w B v n cs) (hB : B ≤ w.heap.size)
    (ad : Addr) (m c : Nat) (news : List Value) (hx : a.eval x = .slice (some ad) m c) (hl : news.length = m * 4) (hnews : ∀ j u, news[j]? = some u → w.cell? (ad.add j) = some u) (h1 : ∀ u ∈ news, u.oneCell' = true) (h63 : n + m ≤ 2097152)
    (h : ∀ v' w', QueriesC w' B v' (n + m) (cs ++ news) → w.grownBy w' v.ownBlock → (v' = .slice none 0 0 ↔ v = .slice none 0 0 ∧ m = 0) → (v'.ownBlock = v.ownBlock ∨ v'.ownBlock = some w.heap.size) → wpList Tryd.prog ops Q rest (a.put o.dst v') w') : wpList Tryd.prog ops Q (o :: rest) a w := by
  obtain ⟨i0, hi, hz0, hz1, hz2⟩ := info_query
  exact wpList_append_own_at _ hgd s x 24 ho B 46 i0 (.agg #[.int .i64 0, .int .i64 0, .slice none 0 0, .slice none 0 0]) 4 64 Tryd.underlying24 hi hz0 hz1 hz2 rfl (by decide) v n cs hs hown ad m c news hx hl hnews h1 (by unfold maxLen; omega) (by omega) hB h
/-- The slice v owns the queries qs; what the queries hold lies beside it. -/
def HoldsQ (w : World) (B : Nat) (v : Value) (qs : List QD) : Prop :=
  ∃ (cs : List Value) (cv ov : Nat → Value), w.ownsRow B 46 4 v qs.length cs ∧
    ∀ j, j < qs.length → cs[j * 4]? = some (.int .i64 (qs.getD j q0D).1) ∧ cs[j * 4 + 1]? = some (.int .i64 (qs.getD j q0D).2.1) ∧ cs[j * 4 + 2]? = some (cv j) ∧ cs[j * 4 + 3]? = some (ov j) ∧
      OwnsC w B (cv j) (qs.getD j q0D).2.2.1 ∧ OwnsN w B (ov j) (qs.getD j q0D).2.2.2 ∧ (∀ b, (cv j).ownBlock = some b → v.ownBlock ≠ some b) ∧ (∀ b, (ov j).ownBlock = some b → v.ownBlock ≠ some b)
theorem holdsQ_empty (w : World) : HoldsQ (w.alloc (.cells #[] 46)) w.heap.size (.slice (some ⟨w.heap.size, 0, none⟩) 0 0) [] :=
  ⟨[], fun _ => .slice none 0 0, fun _ => .slice none 0 0, World.ownsRow_lit (e := 46) (size := 4) w #[] 0 (Nat.le_refl _) (by unfold maxLen; omega) rfl, fun j hj => by simp at hj⟩
theorem holdsQ_queries {w : World} {B : Nat} {v : Value} {qs : List QD} (h : HoldsQ w B v qs) : QueriesR w v qs := by
  obtain ⟨cs, cv, ov, h1, h2⟩ := h
  have h1' := h1
  rcases h1.2 with ⟨rfl, h0⟩ | ⟨g, cap, cur, rfl, hb, hg, hn, hm, hcs, htake⟩
  · exact Or.inl ⟨List.eq_nil_of_length_eq_zero h0, none, 0, rfl⟩
  · refine Or.inr ⟨g, 0, cap, cv, ov, rfl, hn, (Array.getElem?_eq_some_iff.1 hg).1, fun j hj => ?_⟩
    obtain ⟨g1, g2, g3, g4, g5, g6, _⟩ := h2 j hj
    refine ⟨?_, ?_, ?_, ?_, ownsC_conds g5, ownsN_ints g6⟩
    · rw [Nat.zero_add, World.ownsRow.cellAt h1' (j * 4) (by omega)]; exact g1
    · rw [Nat.zero_add, World.ownsRow.cellAt h1' (j * 4 + 1) (by omega)]; exact g2
    · rw [Nat.zero_add, World.ownsRow.cellAt h1' (j * 4 + 2) (by omega)]; exact g3
    · rw [Nat.zero_add, World.ownsRow.cellAt h1' (j * 4 + 3) (by omega)]; exact g4
theorem low_kept {w w' : World} {B c : Nat} {e : TypeId} {size : Nat} {v : Value} {n : Nat} {xs : List Value} (h : w.ownsRow B e size v n xs) (hg : w.grownBy w' (some c)) (hc : c < B) : w'.ownsRow B e size v n xs := by
  refine h.kept hg ?_
  cases hv : v.ownBlock with
  | none => exact Or.inl rfl
  | some k => exact Or.inr (by intro e; have := (h.lt k hv).1; simp at e; omega)
theorem holdsQ_grown {w w' : World} {B c : Nat} {v : Value} {qs : List QD} (h : HoldsQ w B v qs) (hg : w.grownBy w' (some c)) (hc : c < B) : HoldsQ w' B v qs := by
  obtain ⟨cs, cv, ov, h1, h2⟩ := h
  exact ⟨cs, cv, ov, low_kept h1 hg hc, fun j hj => by obtain ⟨g1, g2, g3, g4, g5, g6, g7, g8⟩ := h2 j hj; exact ⟨g1, g2, g3, g4, low_kept g5 hg hc, low_kept g6 hg hc, g7, g8⟩⟩
theorem apart_of {u v : Value} (h : ∀ b, u.ownBlock = some b → v.ownBlock ≠ some b) : u.ownBlock = none ∨ u.ownBlock ≠ v.ownBlock := by
  cases e : u.ownBlock with
  | none => exact Or.inl rfl
  | some b => exact Or.inr (fun q => h b e q.symm)
theorem up_row {w : World} {B C : Nat} {e : TypeId} {size : Nat} {v : Value} {n : Nat} {xs : List Value} (h : w.ownsRow C e size v n xs) (hb : B ≤ C) : w.ownsRow B e size v n xs := by
  refine ⟨h.1, ?_⟩
  rcases h.2 with hn | ⟨g, cap, cur, e, hb', rest⟩
  · exact .inl hn
  · exact .inr ⟨g, cap, cur, e, Nat.le_trans hb hb', rest⟩
theorem holdsQ_next {wa wb : World} {B c : Nat} {v cu ou : Value} {qs : List QD} {id tn : Int} {cs' : List CondD} {os' : List Int} (h : HoldsQ wa B v qs) (hg : wa.grownBy wb (some c)) (hc : c < B) (hB : B ≤ wa.heap.size)
    (hcu : OwnsC wb wa.heap.size cu cs') (hou : OwnsN wb wa.heap.size ou os') :
    ∃ cs, QueriesC wb B v qs.length cs ∧ ∀ wc wd v', Below wb.heap.size wb wc → wc.grownBy wd v.ownBlock → QueriesC wd B v' (qs.length + 1) (cs ++ [.int .i64 id, .int .i64 tn, cu, ou]) → (v'.ownBlock = v.ownBlock ∨ v'.ownBlock = some wc.heap.size) → HoldsQ wd B v' (qs ++ [(id, tn, cs', os')]) := by
  obtain ⟨cs, cv, ov, h1, h2⟩ := h
  have H1 : QueriesC wb B v qs.length cs := low_kept h1 hg hc
  refine ⟨cs, H1, fun wc wd v' hb hg' hx hat => ?_⟩
  have hcl : cs.length = qs.length * 4 := h1.1
  have hlen : (qs ++ [(id, tn, cs', os')]).length = qs.length + 1 := by simp
  have vlow : ∀ b, v.ownBlock = some b → b < wa.heap.size := fun b e => (h1.lt b e).2
  have clow : ∀ j, j < qs.length → ∀ b, (cv j).ownBlock = some b → b < wa.heap.size := fun j hj b e => ((h2 j hj).2.2.2.2.1.lt b e).2
  have olow : ∀ j, j < qs.length → ∀ b, (ov j).ownBlock = some b → b < wa.heap.size := fun j hj b e => ((h2 j hj).2.2.2.2.2.1.lt b e).2
  have hbc : wa.heap.size ≤ wc.heap.size := Nat.le_trans hg.size hb.size
  have newC : OwnsC wd wa.heap.size cu cs' := World.ownsRow.kept (ownsRow_below hcu hb) hg' (apart_of (fun b e q => by have := vlow b q; have := (hcu.lt b e).1; omega))
  have newN : OwnsN wd wa.heap.size ou os' := World.ownsRow.kept (ownsRow_below hou hb) hg' (apart_of (fun b e q => by have := vlow b q; have := (hou.lt b e).1; omega))
  refine ⟨cs ++ [.int .i64 id, .int .i64 tn, cu, ou], fun j => if j < qs.length then cv j else cu, fun j => if j < qs.length then ov j else ou, by rw [hlen]; exact hx, fun j hj => ?_⟩
  rw [hlen] at hj
  by_cases k : j < qs.length
  · obtain ⟨g1, g2, g3, g4, g5, g6, g7, g8⟩ := h2 j k
    have ge : (qs ++ [(id, tn, cs', os')]).getD j q0D = qs.getD j q0D := by simp [List.getD, List.getElem?_append_left k]
    rw [ge, List.getElem?_append_left (by omega), List.getElem?_append_left (by omega), List.getElem?_append_left (by omega), List.getElem?_append_left (by omega)]
    simp only [if_pos k]
    refine ⟨g1, g2, g3, g4, World.ownsRow.kept (ownsRow_below (low_kept g5 hg hc) hb) hg' (apart_of g7), World.ownsRow.kept (ownsRow_below (low_kept g6 hg hc) hb) hg' (apart_of g8), fun b e q => ?_, fun b e q => ?_⟩
    · rcases hat with h | h
      · rw [h] at q; exact g7 b e q
      · rw [h] at q; have := clow j k b e; have := Option.some.inj q; omega
    · rcases hat with h | h
      · rw [h] at q; exact g8 b e q
      · rw [h] at q; have := olow j k b e; have := Option.some.inj q; omega
  · obtain rfl : j = qs.length := by omega
    have ge : (qs ++ [(id, tn, cs', os')]).getD qs.length q0D = (id, tn, cs', os') := by simp [List.getD]
    rw [ge, List.getElem?_append_right (by omega), List.getElem?_append_right (by omega), List.getElem?_append_right (by omega), List.getElem?_append_right (by omega),
      show qs.length * 4 - cs.length = 0 by omega, show qs.length * 4 + 1 - cs.length = 1 by omega, show qs.length * 4 + 2 - cs.length = 2 by omega, show qs.length * 4 + 3 - cs.length = 3 by omega]
    simp only [if_neg k]
    refine ⟨rfl, rfl, rfl, rfl, up_row newC hB, up_row newN hB, fun b e q => ?_, fun b e q => ?_⟩
    · rcases hat with h | h
      · rw [h] at q; have := vlow b q; have := (newC.lt b e).1; omega
      · rw [h] at q; have := (hcu.lt b e).2; have := hb.size; have := Option.some.inj q; omega
    · rcases hat with h | h
      · rw [h] at q; have := vlow b q; have := (newN.lt b e).1; omega
      · rw [h] at q; have := (hou.lt b e).2; have := hb.size; have := Option.some.inj q; omega
theorem queriesC_kept {w w' : World} {B : Nat} {v : Value} {n : Nat} {cs : List Value} (h : QueriesC w B v n cs) (hb : Below w.heap.size w w') : QueriesC w' B v n cs := ownsRow_below h hb
theorem holdsQ_len {w : World} {B : Nat} {v : Value} {qs : List QD} (h : HoldsQ w B v qs) : ∃ a cap, v = .slice a qs.length cap := queriesR_len (holdsQ_queries h)
end Go.Proofs.YteelgogfpidcdaaDoor
