/-
  Texts of the proof, merged: FmtSet, Cut, ParMath, NumMath, ParWalks, ParSetMath, RowVal, RowSpec.
-/
import Derived.Test.YteelgogfpidcdaaDoorG1
import Derived.IntWalk
import Derived.Lib.Strings
import Derived.Laws.BitsLemmas
import Derived.WalkKit
import Derived.Maps.AppendAt
import Derived.Deep.RegionHeld3
namespace Go.Proofs.YteelgogfpidcdaaDoor
open Go.RowKit
set_option linter.unusedVariables false
/-- A text as a string. -/
def strB (l : List UInt8) : ByteArray := ⟨l.toArray⟩
theorem strB_size (l : List UInt8) : (strB l).size = l.length := by simp [strB, ByteArray.size]
theorem strB_add (a b : List UInt8) (h : a.length + b.length ≤ 1073741824) (w : World) : (Op.stringOp .add (strB a) (strB b)).run Tryd.prog w = .ok (.string (strB (a ++ b))) w := by
  rw [run_string_add_sum w _ _ (by rw [strB_size, strB_size]; omega)]
  congr 2
theorem strB_toList (l : List UInt8) : (strB l).toList = l := by rw [ByteArray.toList_eq]; rfl
theorem strB_none {l : List UInt8} (h : l = []) : (strB l).toList = [] ∧ (strB l).toList.isEmpty = true := by rw [strB_toList, h]; exact ⟨rfl, rfl⟩
theorem strB_some {l : List UInt8} (h : l ≠ []) : ¬ (strB l).toList = [] ∧ (strB l).toList.isEmpty = false := by
  rw [strB_toList]
  cases l with
  | nil => exact absurd rfl h
  | cons a r => exact ⟨by simp, rfl⟩
theorem fmtB (n : Int) (w : World) (h0 : 0 ≤ n) (h1 : n ≤ 23) : Calls Tryd.prog 44 #[.int .i64 n] w fun e w' => e = .returned (.string (strB (Lib.itoa n))) ∧ Below w.heap.size w w' := specFmt n w (by omega) (by omega)
theorem set_ge {l : List Int} (h : SetL l) : ∀ i, i < l.length → (i : Int) ≤ l.getD i 0 := by
  intro i
  induction i with
  | zero => intro hi; have := h.1 0 hi; omega
  | succ i ih => intro hi; have h1 := ih (by omega); have h2 := h.2 i hi; omega
theorem set_len {l : List Int} (h : SetL l) : l.length ≤ 24 := by
  by_cases h0 : l.length = 0
  · omega
  · have h1 := set_ge h (l.length - 1) (by omega)
    have h2 := h.1 (l.length - 1) (by omega)
    omega
/-- FormatSet. -/
def fmtSet (l : List Int) : List UInt8 := if setB l then fmtRuns l else []
theorem fmtSet_no {l : List Int} (h : setB l = false) : fmtSet l = [] := by unfold fmtSet; rw [h]; rfl
theorem fmtSet_nil : fmtSet [] = [110, 111, 110, 101] := rfl
theorem fmtSet_yes {l : List Int} (h : setB l = true) (h0 : l ≠ []) : fmtSet l = glue [] (runs l) := by unfold fmtSet fmtRuns; rw [h, if_neg h0]; rfl
theorem glue_one (s : List UInt8) (r : Int × Int) (t : List (Int × Int)) : glue s (r :: t) = glue ((if s = [] then s else s ++ [32]) ++ runText r) t := rfl
theorem text_one {x y : Int} (h : x = y) : runText (x, y) = Lib.itoa x := by unfold runText; rw [if_pos h]
theorem text_two {x y : Int} (h : x ≠ y) : runText (x, y) = Lib.itoa x ++ 45 :: Lib.itoa y := by unfold runText; rw [if_neg h]
theorem ret_s {a b : List UInt8} (h : a = b) : Ending.returned (.string (strB a)) = .returned (.string (strB b)) := by rw [h]
theorem run_up (l : List Int) (i n : Nat) (h : ∀ j, j < n → l.getD (i + j + 1) 0 = l.getD (i + j) 0 + 1) : l.getD (i + n) 0 = l.getD i 0 + n := by
  induction n with
  | zero => simp
  | succ n ih => have h1 := ih (fun j hj => h j (by omega)); have h2 := h n (by omega); rw [show i + (n + 1) = i + n + 1 by omega, h2, h1]; omega
theorem below_step {q : Nat} {w wr w5 : World} (h : Below w.heap.size w wr) (h5 : Below (wr.drewN q).heap.size (wr.drewN q) w5) : Below w.heap.size w w5 := by
  have h2 : Below w.heap.size w (wr.drewN q) := below_same h rfl rfl rfl rfl
  exact h2.trans (h5.mono h2.size)
theorem specFmtSet_no (v : Value) (xs : List Int) (w : World) (h : Ints w v xs) (hn : xs.length ≤ 1073741824) (hs : setB xs = false) :
    Calls Tryd.prog 43 #[v] w fun e w' => e = .returned (.string (strB (fmtSet xs))) ∧ Below w.heap.size w w' := by
  have H := Lib.hid h
  have HS := Lib.hid hs
  have HE := Lib.hid (fmtSet_no hs)
  clear h hs
  go_enter Tryd.func43, Tryd.ntmps43
  go_wp2_with fail
  refine (specIsSetBig v xs _ H.out hn).mono ?_
  rintro e w1 ⟨rfl, b1⟩
  rw [HS.out]
  go_wp2
  go_ret
  exact ⟨ret_s HE.out.symm, b1⟩
set_option maxHeartbeats 16000000 in
set_option maxRecDepth 100000 in
theorem specFmtSet_yes (v : Value) (xs : List Int) (w : World) (h : Ints w v xs) (hn : xs.length ≤ 1073741824) (hs : setB xs = true) :
    Calls Tryd.prog 43 #[v] w fun e w' => e = .returned (.string (strB (fmtSet xs))) ∧ Below w.heap.size w w' := by
  have hset := (setB_iff xs).1 hs
  have hl24 := set_len hset
  have H := Lib.hid h
  have HS := Lib.hid hs
  have HR := Lib.hid hset.1
  obtain ⟨a, cap, rfl⟩ := ints_len h
  clear h hs hset
  go_enter Tryd.func43, Tryd.ntmps43
  go_wp2_with fail
  refine (specIsSetBig _ xs _ H.out hn).mono ?_
  rintro e w1 ⟨rfl, b1⟩
  rw [HS.out]
  go_wp2
  go_loopw [3, 4] (fun s i wr => ∃ (k : Nat) (t : List UInt8), k ≤ xs.length ∧ i = .int .i64 k ∧ s = .string (strB t) ∧ t.length ≤ 45 * k ∧ Below w.heap.size w wr ∧ Hid (glue t (runs (xs.drop k)) = glue [] (runs xs)) ∧ Hid (t = [] ↔ k = 0)) (fun _ i _ => xs.length - (intOf i).toNat)
  case atStart => exact ⟨0, [], Nat.zero_le _, rfl, rfl, by simp, b1, Lib.hid rfl, Lib.hid ⟨fun _ => rfl, fun _ => rfl⟩⟩
  case round =>
    obtain ⟨k, t, hk, rfl, rfl, htl, hbel, hgl, hte⟩ := hrel
    clear b1
    by_cases hlt : k < xs.length
    · obtain ⟨b, off, cap', hv, hbl, hc⟩ := ints_cell H.out (by omega)
      simp only [Value.slice.injEq] at hv
      obtain ⟨rfl, _, rfl⟩ := hv
      have HC := Lib.hid hc
      clear hc
      obtain ⟨wo, hwo⟩ : ∃ wo : World, wo = wr := ⟨_, rfl⟩
      subst hwo
      have i1 : (0 : Int) ≤ (k : Int) := by omega
      have i2 : (k : Int) < (xs.length : Int) := by omega
      go_wp2
      go_loopw [5] (fun j wr => ∃ n : Nat, k + n < xs.length ∧ j = .int .i64 ((k + n : Nat) : Int) ∧ Below w.heap.size w wr ∧ Hid (∀ j, j < n → xs.getD (k + j + 1) 0 = xs.getD (k + j) 0 + 1)) (fun j _ => xs.length - (intOf j).toNat)
      case atStart => exact ⟨0, by omega, rfl, hbel, Lib.hid (fun j hj => by omega)⟩
      case round =>
        obtain ⟨n, hkn, rfl, hbel2, hcon⟩ := hrel
        clear hbel
        have hcell := (hbel2.cell (p := ⟨b, off + (k + n), none⟩) hbl).trans (HC.out (k + n) hkn)
        have hcellk := (hbel2.cell (p := ⟨b, off + k, none⟩) hbl).trans (HC.out k hlt)
        have hrk := HR.out k hlt
        have hrm := HR.out (k + n) hkn
        have HUP := Lib.hid (run_up xs k n hcon.out)
        generalize hm : k + n = m at *
        by_cases hn1 : m + 1 < xs.length
        · have hcell1 := (hbel2.cell (p := ⟨b, off + (m + 1), none⟩) hbl).trans (HC.out (m + 1) hn1)
          have i3 : (0 : Int) ≤ (m : Int) + 1 := by omega
          have i4 : (m : Int) + 1 < (xs.length : Int) := by omega
          have i5 : (0 : Int) ≤ (m : Int) := by omega
          have i6 : (m : Int) < (xs.length : Int) := by omega
          have e1 : IntKind.i64.wrap ((m : Int) + 1) = (m : Int) + 1 := IntWalk.i64_in _ (by omega)
          have e2 : IntKind.i64.wrap (xs.getD m 0 + 1) = xs.getD m 0 + 1 := IntWalk.i64_in _ (by omega)
          have i7 : ((m : Int) + 1).toNat = m + 1 := by omega
          by_cases hne : xs.getD (m + 1) 0 = xs.getD m 0 + 1
          · have HN : Hid (∀ j, j < n + 1 → xs.getD (k + j + 1) 0 = xs.getD (k + j) 0 + 1) := Lib.hid (fun j hj => by
              by_cases e : j = n
              · rw [e, hm]; exact hne
              · exact hcon.out j (by omega))
            have heq : (xs.getD (m + 1) 0 == xs.getD m 0 + 1) = true := by rw [beq_iff_eq]; exact hne
            have HMK := Lib.hid hm
            clear hne hm hcellk HUP
            generalize xs.getD (m + 1) 0 = z at *
            generalize xs.getD m 0 = y at *
            clear hcon
            go_wp2_with fail
            go_quiet (fail)
            go_wp2
            go_roundw
            case rel => exact ⟨n + 1, by have := HMK.out; omega, by have := HMK.out; go_num, below_same hbel2 rfl rfl rfl rfl, HN⟩
            case measure => simp [intOf]; omega
          · have heq : (xs.getD (m + 1) 0 == xs.getD m 0 + 1) = false := by rw [beq_eq_false_iff_ne]; exact hne
            have HNE := Lib.hid hne
            clear hne
            generalize hz : xs.getD (m + 1) 0 = z at hcell1 heq
            clear hz
            have HM : Hid (runs (xs.drop k) = (xs.getD k 0, xs.getD m 0) :: runs (xs.drop (m + 1))) := Lib.hid (by rw [← hm]; exact run_max xs n k (by omega) hcon.out (by rw [hm]; exact fun _ => HNE.out))
            have HG : Hid (glue ((if t = [] then t else t ++ [32]) ++ runText (xs.getD k 0, xs.getD m 0)) (runs (xs.drop (m + 1))) = glue [] (runs xs)) := Lib.hid (by rw [← glue_one, ← HM.out]; exact hgl.out)
            clear HM hgl hcon
            generalize hx : xs.getD k 0 = x at *
            obtain ⟨x0, x1⟩ := hrk
            generalize hy : xs.getD m 0 = y at *
            obtain ⟨y0, y1⟩ := hrm
            have hlx := Lib.hid (Lib.itoa_length_le x (by omega) (by omega))
            have hly := Lib.hid (Lib.itoa_length_le y (by omega) (by omega))
            have HXY : Hid (y = x + (n : Int)) := Lib.hid HUP.out
            clear HUP hx hy
            have HKM : Hid (m = k + n) := Lib.hid hm.symm
            have hkm : k ≤ m := by omega
            clear hm
            by_cases ht : t = []
            · have f := strB_none ht
              obtain ⟨f1, f2⟩ := f
              have HG2 : Hid (glue (t ++ runText (x, y)) (runs (xs.drop (m + 1))) = glue [] (runs xs)) := Lib.hid (by have := HG.out; rwa [if_pos ht] at this)
              have d2 := strB_add t (Lib.itoa x) (by have := hlx.out; omega)
              clear HG ht
              by_cases hn0 : n = 0
              · have hxy : x = y := by have := HXY.out; omega
                have hmk : m = k := by have := HKM.out; omega
                have HF : Hid (glue (t ++ Lib.itoa x) (runs (xs.drop (m + 1))) = glue [] (runs xs)) := Lib.hid (by have := HG2.out; rwa [text_one hxy] at this)
                have HT : Hid (t ++ Lib.itoa x = [] ↔ m + 1 = 0) := Lib.hid ⟨fun g => absurd (List.append_eq_nil_iff.1 g).2 (itoa_ne _), fun g => by omega⟩
                have HLEN : Hid ((t ++ Lib.itoa x).length ≤ 45 * (m + 1)) := Lib.hid (by have := hlx.out; simp; omega)
                have hgt : decide (k < m) = false := by rw [decide_eq_false_iff_not]; omega
                have HMK := Lib.hid hmk
                clear hxy hn0 hmk HG2
                go_wp2_with fail
                go_quiet (fail)
                go_wp2_with (go_at_call 44; refine (fmtB x _ x0 x1).mono ?_; rintro e w5 ⟨rfl, hb5⟩)
                go_roundw
                case rel => exact ⟨m + 1, t ++ Lib.itoa x, by omega, by go_num, by simp, HLEN.out, below_step hbel2 hb5, HF, HT⟩
                case measure => simp [intOf]; omega
              · have hxy : x ≠ y := by have := HXY.out; omega
                have HF : Hid (glue (t ++ Lib.itoa x ++ [45] ++ Lib.itoa y) (runs (xs.drop (m + 1))) = glue [] (runs xs)) := Lib.hid (by have := HG2.out; rw [text_two hxy] at this; simpa using this)
                have HT : Hid (t ++ Lib.itoa x ++ [45] ++ Lib.itoa y = [] ↔ m + 1 = 0) := Lib.hid ⟨fun g => absurd (List.append_eq_nil_iff.1 g).2 (itoa_ne _), fun g => by omega⟩
                have HLEN : Hid ((t ++ Lib.itoa x ++ [45] ++ Lib.itoa y).length ≤ 45 * (m + 1)) := Lib.hid (by have := hlx.out; have := hly.out; have := HKM.out; simp; omega)
                have hgt : k < m := by have := HKM.out; omega
                have d3 : ∀ w, (Op.stringOp .add (strB (t ++ Lib.itoa x)) ⟨#[45]⟩).run Tryd.prog w = .ok (.string (strB (t ++ Lib.itoa x ++ [45]))) w := strB_add (t ++ Lib.itoa x) [45] (by have := hlx.out; simp; omega)
                have d4 := strB_add (t ++ Lib.itoa x ++ [45]) (Lib.itoa y) (by have := hlx.out; have := hly.out; simp; omega)
                simp only [List.append_assoc, List.cons_append, List.nil_append] at d4
                clear hxy hn0 HG2
                go_wp2_with fail
                go_quiet (fail)
                go_wp2_with fail
                refine (fmtB x _ x0 x1).mono ?_
                rintro e w5 ⟨rfl, hb5⟩
                have hb6 := below_step hbel2 hb5
                have hcell6 := (hb6.cell (p := ⟨b, off + m, none⟩) hbl).trans ((hbel2.cell (p := ⟨b, off + m, none⟩) hbl).symm.trans hcell)
                clear hb5 hcellk hcell
                go_wp2_with fail
                refine (fmtB y _ y0 y1).mono ?_
                rintro e w6 ⟨rfl, hb7⟩
                go_wp2
                go_roundw
                case rel => exact ⟨m + 1, t ++ Lib.itoa x ++ [45] ++ Lib.itoa y, by omega, by go_num, by simp, HLEN.out, hb6.trans (hb7.mono hb6.size), HF, HT⟩
                case measure => simp [intOf]; omega
            · have f := strB_some ht
              obtain ⟨f1, f2⟩ := f
              have HG2 : Hid (glue ((t ++ [32]) ++ runText (x, y)) (runs (xs.drop (m + 1))) = glue [] (runs xs)) := Lib.hid (by have := HG.out; rwa [if_neg ht] at this)
              have d1 : ∀ w, (Op.stringOp .add (strB t) ⟨#[32]⟩).run Tryd.prog w = .ok (.string (strB (t ++ [32]))) w := strB_add t [32] (by simp; omega)
              have d2 := strB_add (t ++ [32]) (Lib.itoa x) (by have := hlx.out; simp; omega)
              clear HG ht
              by_cases hn0 : n = 0
              · have hxy : x = y := by have := HXY.out; omega
                have hmk : m = k := by have := HKM.out; omega
                have HF : Hid (glue ((t ++ [32]) ++ Lib.itoa x) (runs (xs.drop (m + 1))) = glue [] (runs xs)) := Lib.hid (by have := HG2.out; rwa [text_one hxy] at this)
                have HT : Hid ((t ++ [32]) ++ Lib.itoa x = [] ↔ m + 1 = 0) := Lib.hid ⟨fun g => absurd (List.append_eq_nil_iff.1 g).2 (itoa_ne _), fun g => by omega⟩
                have HLEN : Hid (((t ++ [32]) ++ Lib.itoa x).length ≤ 45 * (m + 1)) := Lib.hid (by have := hlx.out; simp; omega)
                have hgt : decide (k < m) = false := by rw [decide_eq_false_iff_not]; omega
                have HMK := Lib.hid hmk
                clear hxy hn0 hmk HG2
                go_wp2_with fail
                go_quiet (fail)
                go_wp2_with (go_at_call 44; refine (fmtB x _ x0 x1).mono ?_; rintro e w5 ⟨rfl, hb5⟩)
                go_roundw
                case rel => exact ⟨m + 1, (t ++ [32]) ++ Lib.itoa x, by omega, by go_num, by simp, HLEN.out, below_step hbel2 hb5, HF, HT⟩
                case measure => simp [intOf]; omega
              · have hxy : x ≠ y := by have := HXY.out; omega
                have HF : Hid (glue ((t ++ [32]) ++ Lib.itoa x ++ [45] ++ Lib.itoa y) (runs (xs.drop (m + 1))) = glue [] (runs xs)) := Lib.hid (by have := HG2.out; rw [text_two hxy] at this; simpa using this)
                have HT : Hid ((t ++ [32]) ++ Lib.itoa x ++ [45] ++ Lib.itoa y = [] ↔ m + 1 = 0) := Lib.hid ⟨fun g => absurd (List.append_eq_nil_iff.1 g).2 (itoa_ne _), fun g => by omega⟩
                have HLEN : Hid (((t ++ [32]) ++ Lib.itoa x ++ [45] ++ Lib.itoa y).length ≤ 45 * (m + 1)) := Lib.hid (by have := hlx.out; have := hly.out; have := HKM.out; simp; omega)
                have hgt : k < m := by have := HKM.out; omega
                have d3 : ∀ w, (Op.stringOp .add (strB ((t ++ [32]) ++ Lib.itoa x)) ⟨#[45]⟩).run Tryd.prog w = .ok (.string (strB ((t ++ [32]) ++ Lib.itoa x ++ [45]))) w := strB_add ((t ++ [32]) ++ Lib.itoa x) [45] (by have := hlx.out; simp; omega)
                have d4 := strB_add ((t ++ [32]) ++ Lib.itoa x ++ [45]) (Lib.itoa y) (by have := hlx.out; have := hly.out; simp; omega)
                simp only [List.append_assoc, List.cons_append, List.nil_append] at d4
                simp only [List.append_assoc, List.cons_append, List.nil_append] at d3
                clear hxy hn0 HG2
                go_wp2_with fail
                go_quiet (fail)
                go_wp2_with fail
                refine (fmtB x _ x0 x1).mono ?_
                rintro e w5 ⟨rfl, hb5⟩
                have hb6 := below_step hbel2 hb5
                have hcell6 := (hb6.cell (p := ⟨b, off + m, none⟩) hbl).trans ((hbel2.cell (p := ⟨b, off + m, none⟩) hbl).symm.trans hcell)
                clear hb5 hcellk hcell
                go_wp2_with fail
                refine (fmtB y _ y0 y1).mono ?_
                rintro e w6 ⟨rfl, hb7⟩
                go_wp2
                go_roundw
                case rel => exact ⟨m + 1, (t ++ [32]) ++ Lib.itoa x ++ [45] ++ Lib.itoa y, by omega, by go_num, by simp, HLEN.out, hb6.trans (hb7.mono hb6.size), HF, HT⟩
                case measure => simp [intOf]; omega
        · have i3 : ¬ ((m : Int) + 1 < (xs.length : Int)) := by omega
          have i4 : decide ((m : Int) + 1 < (xs.length : Int)) = false := decide_eq_false i3
          have i5 : (0 : Int) ≤ (m : Int) := by omega
          have i6 : (m : Int) < (xs.length : Int) := by omega
          have e1 : IntKind.i64.wrap ((m : Int) + 1) = (m : Int) + 1 := IntWalk.i64_in _ (by omega)
          have HM : Hid (runs (xs.drop k) = (xs.getD k 0, xs.getD m 0) :: runs (xs.drop (m + 1))) := Lib.hid (by rw [← hm]; exact run_max xs n k (by omega) hcon.out (by rw [hm]; exact fun g => absurd g hn1))
          have HG : Hid (glue ((if t = [] then t else t ++ [32]) ++ runText (xs.getD k 0, xs.getD m 0)) (runs (xs.drop (m + 1))) = glue [] (runs xs)) := Lib.hid (by rw [← glue_one, ← HM.out]; exact hgl.out)
          clear HM hgl hcon
          generalize hx : xs.getD k 0 = x at *
          obtain ⟨x0, x1⟩ := hrk
          generalize hy : xs.getD m 0 = y at *
          obtain ⟨y0, y1⟩ := hrm
          have hlx := Lib.hid (Lib.itoa_length_le x (by omega) (by omega))
          have hly := Lib.hid (Lib.itoa_length_le y (by omega) (by omega))
          have HXY : Hid (y = x + (n : Int)) := Lib.hid HUP.out
          clear HUP hx hy
          have HKM : Hid (m = k + n) := Lib.hid hm.symm
          have hkm : k ≤ m := by omega
          clear hm
          by_cases ht : t = []
          · have f := strB_none ht
            obtain ⟨f1, f2⟩ := f
            have HG2 : Hid (glue (t ++ runText (x, y)) (runs (xs.drop (m + 1))) = glue [] (runs xs)) := Lib.hid (by have := HG.out; rwa [if_pos ht] at this)
            have d2 := strB_add t (Lib.itoa x) (by have := hlx.out; omega)
            clear HG ht
            by_cases hn0 : n = 0
            · have hxy : x = y := by have := HXY.out; omega
              have hmk : m = k := by have := HKM.out; omega
              have HF : Hid (glue (t ++ Lib.itoa x) (runs (xs.drop (m + 1))) = glue [] (runs xs)) := Lib.hid (by have := HG2.out; rwa [text_one hxy] at this)
              have HT : Hid (t ++ Lib.itoa x = [] ↔ m + 1 = 0) := Lib.hid ⟨fun g => absurd (List.append_eq_nil_iff.1 g).2 (itoa_ne _), fun g => by omega⟩
              have HLEN : Hid ((t ++ Lib.itoa x).length ≤ 45 * (m + 1)) := Lib.hid (by have := hlx.out; simp; omega)
              have hgt : decide (k < m) = false := by rw [decide_eq_false_iff_not]; omega
              have HMK := Lib.hid hmk
              clear hxy hn0 hmk HG2
              go_wp2_with fail
              go_quiet (fail)
              go_wp2_with (go_at_call 44; refine (fmtB x _ x0 x1).mono ?_; rintro e w5 ⟨rfl, hb5⟩)
              go_roundw
              case rel => exact ⟨m + 1, t ++ Lib.itoa x, by omega, by go_num, by simp, HLEN.out, below_step hbel2 hb5, HF, HT⟩
              case measure => simp [intOf]; omega
            · have hxy : x ≠ y := by have := HXY.out; omega
              have HF : Hid (glue (t ++ Lib.itoa x ++ [45] ++ Lib.itoa y) (runs (xs.drop (m + 1))) = glue [] (runs xs)) := Lib.hid (by have := HG2.out; rw [text_two hxy] at this; simpa using this)
              have HT : Hid (t ++ Lib.itoa x ++ [45] ++ Lib.itoa y = [] ↔ m + 1 = 0) := Lib.hid ⟨fun g => absurd (List.append_eq_nil_iff.1 g).2 (itoa_ne _), fun g => by omega⟩
              have HLEN : Hid ((t ++ Lib.itoa x ++ [45] ++ Lib.itoa y).length ≤ 45 * (m + 1)) := Lib.hid (by have := hlx.out; have := hly.out; have := HKM.out; simp; omega)
              have hgt : k < m := by have := HKM.out; omega
              have d3 : ∀ w, (Op.stringOp .add (strB (t ++ Lib.itoa x)) ⟨#[45]⟩).run Tryd.prog w = .ok (.string (strB (t ++ Lib.itoa x ++ [45]))) w := strB_add (t ++ Lib.itoa x) [45] (by have := hlx.out; simp; omega)
              have d4 := strB_add (t ++ Lib.itoa x ++ [45]) (Lib.itoa y) (by have := hlx.out; have := hly.out; simp; omega)
              simp only [List.append_assoc, List.cons_append, List.nil_append] at d4
              clear hxy hn0 HG2
              go_wp2_with fail
              go_quiet (fail)
              go_wp2_with fail
              refine (fmtB x _ x0 x1).mono ?_
              rintro e w5 ⟨rfl, hb5⟩
              have hb6 := below_step hbel2 hb5
              have hcell6 := (hb6.cell (p := ⟨b, off + m, none⟩) hbl).trans ((hbel2.cell (p := ⟨b, off + m, none⟩) hbl).symm.trans hcell)
              clear hb5 hcellk hcell
              go_wp2_with fail
              refine (fmtB y _ y0 y1).mono ?_
              rintro e w6 ⟨rfl, hb7⟩
              go_wp2
              go_roundw
              case rel => exact ⟨m + 1, t ++ Lib.itoa x ++ [45] ++ Lib.itoa y, by omega, by go_num, by simp, HLEN.out, hb6.trans (hb7.mono hb6.size), HF, HT⟩
              case measure => simp [intOf]; omega
          · have f := strB_some ht
            obtain ⟨f1, f2⟩ := f
            have HG2 : Hid (glue ((t ++ [32]) ++ runText (x, y)) (runs (xs.drop (m + 1))) = glue [] (runs xs)) := Lib.hid (by have := HG.out; rwa [if_neg ht] at this)
            have d1 : ∀ w, (Op.stringOp .add (strB t) ⟨#[32]⟩).run Tryd.prog w = .ok (.string (strB (t ++ [32]))) w := strB_add t [32] (by simp; omega)
            have d2 := strB_add (t ++ [32]) (Lib.itoa x) (by have := hlx.out; simp; omega)
            clear HG ht
            by_cases hn0 : n = 0
            · have hxy : x = y := by have := HXY.out; omega
              have hmk : m = k := by have := HKM.out; omega
              have HF : Hid (glue ((t ++ [32]) ++ Lib.itoa x) (runs (xs.drop (m + 1))) = glue [] (runs xs)) := Lib.hid (by have := HG2.out; rwa [text_one hxy] at this)
              have HT : Hid ((t ++ [32]) ++ Lib.itoa x = [] ↔ m + 1 = 0) := Lib.hid ⟨fun g => absurd (List.append_eq_nil_iff.1 g).2 (itoa_ne _), fun g => by omega⟩
              have HLEN : Hid (((t ++ [32]) ++ Lib.itoa x).length ≤ 45 * (m + 1)) := Lib.hid (by have := hlx.out; simp; omega)
              have hgt : decide (k < m) = false := by rw [decide_eq_false_iff_not]; omega
              have HMK := Lib.hid hmk
              clear hxy hn0 hmk HG2
              go_wp2_with fail
              go_quiet (fail)
              go_wp2_with (go_at_call 44; refine (fmtB x _ x0 x1).mono ?_; rintro e w5 ⟨rfl, hb5⟩)
              go_roundw
              case rel => exact ⟨m + 1, (t ++ [32]) ++ Lib.itoa x, by omega, by go_num, by simp, HLEN.out, below_step hbel2 hb5, HF, HT⟩
              case measure => simp [intOf]; omega
            · have hxy : x ≠ y := by have := HXY.out; omega
              have HF : Hid (glue ((t ++ [32]) ++ Lib.itoa x ++ [45] ++ Lib.itoa y) (runs (xs.drop (m + 1))) = glue [] (runs xs)) := Lib.hid (by have := HG2.out; rw [text_two hxy] at this; simpa using this)
              have HT : Hid ((t ++ [32]) ++ Lib.itoa x ++ [45] ++ Lib.itoa y = [] ↔ m + 1 = 0) := Lib.hid ⟨fun g => absurd (List.append_eq_nil_iff.1 g).2 (itoa_ne _), fun g => by omega⟩
              have HLEN : Hid (((t ++ [32]) ++ Lib.itoa x ++ [45] ++ Lib.itoa y).length ≤ 45 * (m + 1)) := Lib.hid (by have := hlx.out; have := hly.out; have := HKM.out; simp; omega)
              have hgt : k < m := by have := HKM.out; omega
              have d3 : ∀ w, (Op.stringOp .add (strB ((t ++ [32]) ++ Lib.itoa x)) ⟨#[45]⟩).run Tryd.prog w = .ok (.string (strB ((t ++ [32]) ++ Lib.itoa x ++ [45]))) w := strB_add ((t ++ [32]) ++ Lib.itoa x) [45] (by have := hlx.out; simp; omega)
              have d4 := strB_add ((t ++ [32]) ++ Lib.itoa x ++ [45]) (Lib.itoa y) (by have := hlx.out; have := hly.out; simp; omega)
              simp only [List.append_assoc, List.cons_append, List.nil_append] at d4
              simp only [List.append_assoc, List.cons_append, List.nil_append] at d3
              clear hxy hn0 HG2
              go_wp2_with fail
              go_quiet (fail)
              go_wp2_with fail
              refine (fmtB x _ x0 x1).mono ?_
              rintro e w5 ⟨rfl, hb5⟩
              have hb6 := below_step hbel2 hb5
              have hcell6 := (hb6.cell (p := ⟨b, off + m, none⟩) hbl).trans ((hbel2.cell (p := ⟨b, off + m, none⟩) hbl).symm.trans hcell)
              clear hb5 hcellk hcell
              go_wp2_with fail
              refine (fmtB y _ y0 y1).mono ?_
              rintro e w6 ⟨rfl, hb7⟩
              go_wp2
              go_roundw
              case rel => exact ⟨m + 1, (t ++ [32]) ++ Lib.itoa x ++ [45] ++ Lib.itoa y, by omega, by go_num, by simp, HLEN.out, hb6.trans (hb7.mono hb6.size), HF, HT⟩
              case measure => simp [intOf]; omega
    · obtain rfl : k = xs.length := by omega
      have hg := hgl.out
      rw [List.drop_eq_nil_of_le (Nat.le_refl _)] at hg
      have hg2 : t = glue [] (runs xs) := hg
      by_cases h0 : xs = []
      · have ht : t = [] := hte.out.2 (by rw [h0]; rfl)
        obtain ⟨f1, f2⟩ := strB_none ht
        have HE : Hid (fmtSet xs = [110, 111, 110, 101]) := Lib.hid (by rw [h0]; exact fmtSet_nil)
        clear hg hg2 h0 ht
        go_wp2_with fail
        go_ret
        exact ⟨ret_s HE.out.symm, hbel⟩
      · have ht : t ≠ [] := fun g => h0 (List.eq_nil_of_length_eq_zero (hte.out.1 g))
        obtain ⟨f1, f2⟩ := strB_some ht
        have HE : Hid (fmtSet xs = t) := Lib.hid (by rw [fmtSet_yes HS.out h0]; exact hg2.symm)
        clear hg hg2 h0 ht
        go_wp2_with fail
        go_ret
        exact ⟨ret_s HE.out.symm, hbel⟩
/-- FormatSet returns the text 'fmtSet'. -/
theorem specFmtSetBig (v : Value) (xs : List Int) (w : World) (h : Ints w v xs) (hn : xs.length ≤ 1073741824) :
    Calls Tryd.prog 43 #[v] w fun e w' => e = .returned (.string (strB (fmtSet xs))) ∧ Below w.heap.size w w' := by
  cases hs : setB xs
  · exact specFmtSet_no v xs w h hn hs
  · exact specFmtSet_yes v xs w h hn hs
theorem specFmtSet (v : Value) (xs : List Int) (w : World) (h : Ints w v xs) (hn : xs.length ≤ 1048576) :
    Calls Tryd.prog 43 #[v] w fun e w' => e = .returned (.string (strB (fmtSet xs))) ∧ Below w.heap.size w w' := specFmtSetBig v xs w h (by omega)
end Go.Proofs.YteelgogfpidcdaaDoor
namespace Go.Proofs.YteelgogfpidcdaaDoor
open Go.RowKit
set_option linter.unusedVariables false
/-- The pieces of a text, cut at each b; p is the piece under way. -/
def cutGo (b : UInt8) : List UInt8 → List UInt8 → List (List UInt8)
  | p, [] => [p]
  | p, c :: r => if c = b then p :: cutGo b [] r else cutGo b (p ++ [c]) r
def cutL (b : UInt8) (l : List UInt8) : List (List UInt8) := cutGo b [] l
theorem drop_at (s : ByteArray) (m : Nat) (h : m < s.size) : s.data.toList.drop m = s[m] :: s.data.toList.drop (m + 1) := by
  rw [List.drop_eq_getElem_cons (by simpa using h)]
  rfl
theorem cut_hit {b : UInt8} {p : List UInt8} {s : ByteArray} {m : Nat} (h : m < s.size) (hb : s[m] = b) : cutGo b p (s.data.toList.drop m) = p :: cutGo b [] (s.data.toList.drop (m + 1)) := by
  rw [drop_at s m h]
  show (if s[m] = b then _ else _) = _
  rw [if_pos hb]
theorem cut_miss {b : UInt8} {p : List UInt8} {s : ByteArray} {m : Nat} (h : m < s.size) (hb : ¬ s[m] = b) : cutGo b p (s.data.toList.drop m) = cutGo b (p ++ [s[m]]) (s.data.toList.drop (m + 1)) := by
  rw [drop_at s m h]
  show (if s[m] = b then _ else _) = _
  rw [if_neg hb]
theorem ext_one (s : ByteArray) (m : Nat) (h : m < s.size) : s.extract m (m + 1) = strB [s[m]] := by
  apply ByteArray.ext
  apply Array.ext'
  simp only [ByteArray.data_extract, Array.toList_extract, strB]
  rw [List.extract_eq_take_drop, show m + 1 - m = 1 by omega, drop_at s m h]
  rfl
theorem strB_app (a b : List UInt8) : strB a ++ strB b = strB (a ++ b) := by
  apply ByteArray.ext
  simp [strB, ByteArray.data_append]
theorem cutGo_len (b : UInt8) : ∀ (l p : List UInt8), (cutGo b p l).length ≤ l.length + 1 := by
  intro l
  induction l with
  | nil => intro p; simp [cutGo]
  | cons c r ih =>
    intro p
    unfold cutGo
    split
    · have := ih []; simp; omega
    · have := ih (p ++ [c]); simp; omega
set_option maxHeartbeats 4000000 in
set_option maxRecDepth 100000 in
theorem specCut (s : ByteArray) (b : UInt8) (c : Int) (w : World) (hc : (b.toNat : Int) = c) (hs : s.size ≤ 1048576) :
    Calls Tryd.prog 61 #[.string s, .int .u8 c] w fun e w' => ∃ v, e = .returned v ∧ OwnsS w' w.heap.size v ((cutL b s.data.toList).map strB) ∧ Below w.heap.size w w' := by
  subst hc
  go_enter Tryd.func61, Tryd.ntmps61
  go_wp2
  go_loopw [5, 6, 7] (fun v t i wr => ∃ (m : Nat) (os : List (List UInt8)) (p : List UInt8), m ≤ s.size ∧ i = .int .i64 m ∧ t = .string (strB p) ∧ p.length ≤ m ∧ os.length ≤ m ∧ OwnsS wr w.heap.size v (os.map strB) ∧ Below w.heap.size w wr ∧ Hid (os ++ cutGo b p (s.data.toList.drop m) = cutL b s.data.toList)) (fun _ _ i _ => s.size - (intOf i).toNat)
  case atStart => exact ⟨0, [], [], Nat.zero_le _, rfl, rfl, Nat.le_refl _, Nat.le_refl _, ownsS_lit w _ (Nat.le_refl _) #[] 0 [] rfl rfl (by decide), (Below.refl _ _).alloc (Nat.le_refl _) _, Lib.hid rfl⟩
  case round =>
    obtain ⟨m, os, p, hm, rfl, rfl, hpl, hol, hown, hbel, hcut⟩ := hrel
    have hB := hbel.size
    by_cases hlt : m < s.size
    · have i1 : (0 : Int) ≤ (m : Int) := by omega
      have i2 : (m : Int) < (s.size : Int) := by omega
      by_cases hb : s[m] = b
      · have HC : Hid ((os ++ [p]) ++ cutGo b [] (s.data.toList.drop (m + 1)) = cutL b s.data.toList) := Lib.hid (by rw [← hcut.out, cut_hit hlt hb]; simp)
        have hbn : s[m].toNat = b.toNat := by rw [hb]
        have hlen : Hid ((os.map strB).length + 1 ≤ 8796093022208) := Lib.hid (by simp; omega)
        clear hcut hb
        go_wp2_with (at_builtin; refine append_strs rfl (.tmp 20) (.tmp 22) rfl w.heap.size _ _ rfl hown hB _ [strB p] 1 _ rfl (by first | rfl | (simp; done)) rfl (by have := hlen.out; simp at this ⊢; omega) ?_)
        intro v' w4 hown3 hb3
        have hb4 := hbel.trans hb3
        clear hown hbel hb3
        go_wp2
        go_roundw
        case rel => exact ⟨m + 1, os ++ [p], [], by omega, by go_num, rfl, Nat.zero_le _, by simp; omega, by simpa using hown3, hb4, HC⟩
        case measure => simp [intOf]; omega
      · have HC : Hid (os ++ cutGo b (p ++ [s[m]]) (s.data.toList.drop (m + 1)) = cutL b s.data.toList) := Lib.hid (by rw [← hcut.out, cut_miss hlt hb])
        have hbn : ¬ s[m].toNat = b.toNat := fun g => hb (UInt8.toNat_inj.1 g)
        have e1 : IntKind.i64.wrap ((m : Int) + 1) = (m : Int) + 1 := IntWalk.i64_in _ (by omega)
        have d : ∀ w, (Op.stringOp .add (strB p) (s.extract m (m + 1))).run Tryd.prog w = .ok (.string (strB (p ++ [s[m]]))) w := by rw [ext_one s m hlt]; exact strB_add p [s[m]] (by simp; omega)
        clear hcut hb
        go_wp2
        go_roundw
        case rel => exact ⟨m + 1, os, p ++ [s[m]], by omega, by go_num, rfl, by simp; omega, by omega, hown, hbel, HC⟩
        case measure => simp [intOf]; omega
    · obtain rfl : m = s.size := by omega
      have HC : Hid (os ++ [p] = cutL b s.data.toList) := Lib.hid (by rw [← hcut.out, List.drop_eq_nil_of_le (by simp)]; rfl)
      have hlen : Hid ((os.map strB).length + 1 ≤ 8796093022208) := Lib.hid (by simp; omega)
      clear hcut
      go_wp2_with (at_builtin; refine append_strs rfl (.tmp 31) (.tmp 33) rfl w.heap.size _ _ rfl hown hB _ [strB p] 1 _ rfl (by first | rfl | (simp; done)) rfl (by have := hlen.out; simp at this ⊢; omega) ?_)
      intro v' w4 hown3 hb3
      have hb4 := hbel.trans hb3
      clear hown hbel hb3
      go_wp2
      go_ret
      exact ⟨_, rfl, by rw [← HC.out]; simpa using hown3, hb4⟩
end Go.Proofs.YteelgogfpidcdaaDoor
namespace Go.Proofs.YteelgogfpidcdaaDoor
/-- Is the byte a decimal digit? -/
def dig (b : UInt8) : Bool := decide (48 ≤ b.toNat) && decide (b.toNat ≤ 57)
/-- The number that the digits among the bytes spell. -/
def dval (l : List UInt8) : Nat := l.foldl (fun n b => if dig b then n * 10 + (b.toNat - 48) else n) 0
/-- How many digits are among the bytes. -/
def dcnt (l : List UInt8) : Nat := (l.filter dig).length
theorem dval_snoc (l : List UInt8) (b : UInt8) : dval (l ++ [b]) = if dig b then dval l * 10 + (b.toNat - 48) else dval l := by simp [dval]
theorem dcnt_snoc (l : List UInt8) (b : UInt8) : dcnt (l ++ [b]) = if dig b then dcnt l + 1 else dcnt l := by
  simp only [dcnt, List.filter_append, List.length_append]
  cases h : dig b <;> simp [h]
theorem dig_iff (b : UInt8) : dig b = true ↔ 48 ≤ b.toNat ∧ b.toNat ≤ 57 := by simp [dig]
theorem dval_lt (l : List UInt8) : dval l < 10 ^ dcnt l := by
  have h : ∀ r : List UInt8, dval r.reverse < 10 ^ dcnt r.reverse := by
    intro r
    induction r with
    | nil => simp [dval, dcnt]
    | cons b r ih =>
      rw [List.reverse_cons, dval_snoc, dcnt_snoc]
      by_cases hb : dig b = true
      · rw [if_pos hb, if_pos hb, Nat.pow_succ]; have := (dig_iff b).1 hb; omega
      · rw [if_neg hb, if_neg hb]; exact ih
  have := h l.reverse
  simpa using this
theorem dcnt_le (l : List UInt8) : dcnt l ≤ l.length := List.length_filter_le _ _
theorem dval_lt9 (l : List UInt8) (h : dcnt l ≤ 9) : dval l ≤ 999999999 := by
  have h1 := dval_lt l
  have h2 : 10 ^ dcnt l ≤ 10 ^ 9 := Nat.pow_le_pow_right (by omega) h
  omega
theorem dval_lt11 (l : List UInt8) (h : l.length ≤ 11) : dval l ≤ 99999999999 := by
  have h1 := dval_lt l
  have h2 : 10 ^ dcnt l ≤ 10 ^ 11 := Nat.pow_le_pow_right (by omega) (by have := dcnt_le l; omega)
  omega
theorem digits_dec (u : Nat) : dval (Lib.decDigits u) = u ∧ (∀ b ∈ Lib.decDigits u, dig b = true) := by
  induction u using Nat.strongRecOn with
  | _ u ih =>
    by_cases h : u < 10
    · rw [Lib.decDigits_one h]
      have hb : dig (UInt8.ofNat (48 + u)) = true := by rw [dig_iff, UInt8.toNat_ofNat']; omega
      refine ⟨?_, by intro b hb'; rw [List.mem_singleton] at hb'; rw [hb']; exact hb⟩
      have := dval_snoc [] (UInt8.ofNat (48 + u))
      rw [if_pos hb] at this
      rw [List.nil_append] at this
      rw [this, UInt8.toNat_ofNat']
      simp [dval]; omega
    · obtain ⟨h1, h2⟩ := ih (u / 10) (by omega)
      have hb : dig (UInt8.ofNat (48 + u % 10)) = true := by rw [dig_iff, UInt8.toNat_ofNat']; omega
      rw [Lib.decDigits, dif_neg h]
      refine ⟨?_, ?_⟩
      · rw [dval_snoc, if_pos hb, h1, UInt8.toNat_ofNat']; omega
      · intro b hb'
        rcases List.mem_append.1 hb' with h3 | h3
        · exact h2 b h3
        · rw [List.mem_singleton] at h3; rw [h3]; exact hb
theorem dcnt_all (l : List UInt8) (h : ∀ b ∈ l, dig b = true) : dcnt l = l.length := by
  unfold dcnt; rw [List.filter_eq_self.2 h]
theorem dec_ne (u : Nat) : Lib.decDigits u ≠ [] := by
  rw [← decI_digits]
  intro h
  have h1 := congrArg List.length h
  by_cases h2 : u < 10
  · rw [decI_small u h2] at h1; simp at h1
  · rw [decI_big u (by omega)] at h1; simp at h1
/-- Does the text begin with a minus? -/
def neg (l : List UInt8) : Bool := l.head? == some 45
/-- The text behind a leading minus. -/
def trim (l : List UInt8) : List UInt8 := if neg l then l.tail else l
/-- The number that the text spells, if it spells one. -/
def sval (l : List UInt8) : Int := if neg l then -(dval l : Int) else dval l
theorem neg_cons {l : List UInt8} (h : neg l = true) : ∃ r, l = 45 :: r := by
  cases l with
  | nil => simp [neg] at h
  | cons a r => simp [neg] at h; exact ⟨r, by rw [h]⟩
theorem dval_minus (r : List UInt8) : dval (45 :: r) = dval r := rfl
theorem dcnt_minus (r : List UInt8) : dcnt (45 :: r) = dcnt r := rfl
theorem dval_trim (l : List UInt8) : dval (trim l) = dval l := by
  unfold trim; split
  · obtain ⟨r, rfl⟩ := neg_cons (by assumption); rfl
  · rfl
theorem dcnt_trim (l : List UInt8) : dcnt (trim l) = dcnt l := by
  unfold trim; split
  · obtain ⟨r, rfl⟩ := neg_cons (by assumption); rfl
  · rfl
/-- ParseInt. -/
def parI (l : List UInt8) : Int × Bool := if Lib.itoa (sval l) = l ∧ dcnt l ≤ 9 then (sval l, true) else (0, false)
theorem par_facts {l : List UInt8} (h : Lib.itoa (sval l) = l) (hc : dcnt l ≤ 9) : l.length ≤ 10 ∧ (trim l).length ≤ 9 ∧ ∀ b ∈ trim l, dig b = true := by
  have key : ∃ u, (trim l = Lib.decDigits u) ∧ l.length ≤ (trim l).length + 1 := by
    unfold Lib.itoa at h
    split at h
    · refine ⟨(sval l).natAbs, ?_, ?_⟩
      · generalize (sval l).natAbs = q at h ⊢; rw [← h]; rfl
      · generalize (sval l).natAbs = q at h ⊢; rw [← h]; simp [trim, neg]
    · refine ⟨(sval l).toNat, ?_, ?_⟩
      · have hn : neg l = false := by
          rw [← h]
          cases hd : Lib.decDigits (sval l).toNat with
          | nil => exact absurd hd (dec_ne _)
          | cons a r =>
            have := (digits_dec (sval l).toNat).2 a (by rw [hd]; simp)
            have h2 := (dig_iff a).1 this
            simp only [neg, List.head?_cons]
            have : a ≠ 45 := by intro e; rw [e] at h2; simp at h2
            simp [this]
        unfold trim; rw [hn]; simp [h]
      · unfold trim; split <;> simp; omega
  obtain ⟨u, hu, hl⟩ := key
  have hall : ∀ b ∈ trim l, dig b = true := by rw [hu]; exact (digits_dec u).2
  have h9 : (trim l).length ≤ 9 := by rw [← dcnt_all _ hall, dcnt_trim]; exact hc
  exact ⟨by omega, h9, hall⟩
theorem parI_ok {l : List UInt8} (h : Lib.itoa (sval l) = l) (hc : dcnt l ≤ 9) : parI l = (sval l, true) := by unfold parI; rw [if_pos ⟨h, hc⟩]
theorem parI_text {l : List UInt8} (h : Lib.itoa (sval l) ≠ l) : parI l = (0, false) := by unfold parI; rw [if_neg (fun g => h g.1)]
theorem parI_many {l : List UInt8} (h : 9 < dcnt l) : parI l = (0, false) := by unfold parI; rw [if_neg (fun g => by omega)]
theorem parI_long {l : List UInt8} (h : 10 < l.length) : parI l = (0, false) := by unfold parI; rw [if_neg (fun g => by have := (par_facts g.1 g.2).1; omega)]
theorem parI_long' {l : List UInt8} (h : 9 < (trim l).length) : parI l = (0, false) := by unfold parI; rw [if_neg (fun g => by have := (par_facts g.1 g.2).2.1; omega)]
theorem parI_digit {l : List UInt8} {b : UInt8} (hb : b ∈ trim l) (h : dig b = false) : parI l = (0, false) := by
  unfold parI; rw [if_neg (fun g => by have := (par_facts g.1 g.2).2.2 b hb; rw [h] at this; cases this)]
theorem trim_cut (l : List UInt8) : Lib.trimPrefix l [45] = trim l ∧ Lib.hasPrefix l [45] = neg l := by
  unfold Lib.trimPrefix trim Lib.hasPrefix neg
  cases l with
  | nil => simp
  | cons a r =>
    simp only [List.head?_cons, List.isPrefixOf]
    by_cases h : a = 45
    · subst h; simp
    · have h1 : (45 == a) = false := by rw [beq_eq_false_iff_ne]; exact Ne.symm h
      have h2 : (a == 45) = false := by rw [beq_eq_false_iff_ne]; exact h
      simp [h1, h2]
end Go.Proofs.YteelgogfpidcdaaDoor
namespace Go.Proofs.YteelgogfpidcdaaDoor
/-- The number that a list of bytes encodes, most significant byte first. -/
def be (l : List UInt8) : Nat := l.foldl (fun n b => n * 256 + b.toNat) 0
theorem be_snoc (l : List UInt8) (b : UInt8) : be (l ++ [b]) = be l * 256 + b.toNat := by simp [be]
theorem be_lt (l : List UInt8) : be l < 256 ^ l.length := by
  have h : ∀ (r : List UInt8), be r.reverse < 256 ^ r.length := by
    intro r
    induction r with
    | nil => simp [be]
    | cons b r ih => rw [List.reverse_cons, be_snoc]; have := b.toNat_lt; simp only [List.length_cons, Nat.pow_succ]; omega
  have := h l.reverse
  simpa using this
theorem be_lt6 (l : List UInt8) (h : l.length ≤ 6) : be l < 281474976710656 := by
  have := be_lt l
  have : 256 ^ l.length ≤ 256 ^ 6 := Nat.pow_le_pow_right (by omega) h
  omega
theorem be_lt7 (l : List UInt8) (h : l.length ≤ 7) : be l < 72057594037927936 := by
  have := be_lt l
  have : 256 ^ l.length ≤ 256 ^ 7 := Nat.pow_le_pow_right (by omega) h
  omega
theorem take_snoc (s : ByteArray) (k : Nat) (h : k < s.size) : s.data.toList.take (k + 1) = s.data.toList.take k ++ [s[k]] := by
  rw [List.take_succ_eq_append_getElem (by simpa using h)]; rfl
theorem ret_int {k : IntKind} {a b : Int} (h : a = b) : Ending.returned (.int k a) = .returned (.int k b) := by rw [h]
theorem wraps_i64 (n : Int) (h₀ : 0 ≤ n) (h₁ : n < 2 ^ 62) : IntKind.i64.wrap n = n := by rw [IntKind.wrap_i64]; omega
theorem i64_or8 (x y : Int) (h0 : 0 ≤ x) (h1 : x < 281474976710656) (h2 : 0 ≤ y) (h3 : y < 256) : bits .or .i64 (x * 256) y = x * 256 + y :=
  bits_join .i64 62 (by decide) wraps_i64 8 _ _ (by omega) (by omega) (by omega) h2 (by omega) (by omega)
/-- DecodeFixed. -/
def decF (l : List UInt8) (a : Int) : Nat × Bool := if 1 ≤ a ∧ a ≤ 7 ∧ a ≤ (l.length : Int) then (be (l.take a.toNat), true) else (0, false)
/-- The bytes of a varint. -/
def evI (n : Nat) : List Int := if n < 128 then [(n : Int)] else ((n % 128 + 128 : Nat) : Int) :: evI (n / 128)
  termination_by n
  decreasing_by omega
theorem evI_small (n : Nat) (h : n < 128) : evI n = [(n : Int)] := by rw [evI, if_pos h]
theorem evI_big (n : Nat) (h : 128 ≤ n) : evI n = ((n % 128 + 128 : Nat) : Int) :: evI (n / 128) := by rw [evI, if_neg (by omega)]
theorem evI_length (n : Nat) : (evI n).length ≤ n / 128 + 1 := by
  induction n using Nat.strongRecOn with
  | _ n ih =>
    by_cases h : n < 128
    · rw [evI_small n h]; simp
    · rw [evI_big n (by omega)]; have := ih (n / 128) (by omega); simp only [List.length_cons]; omega
theorem evI_step {xs : List Int} {k m : Nat} (h : xs ++ evI k = evI m) (hk : 128 ≤ k) : (xs ++ [((k % 128 + 128 : Nat) : Int)]) ++ evI (k / 128) = evI m := by
  rw [← h, evI_big k hk]; simp
theorem evI_end {xs : List Int} {k m : Nat} (h : xs ++ evI k = evI m) (hk : k < 128) : xs ++ [(k : Int)] = evI m := by
  rw [← h, evI_small k hk]
theorem evI_len {xs : List Int} {k m : Nat} (h : xs ++ evI k = evI m) (hm : m ≤ 562949953421311) : xs.length + 1 ≤ 140737488355328 := by
  have h1 := congrArg List.length h
  have h2 := evI_length m
  simp only [List.length_append] at h1
  omega
/-- The last a bytes of n, most significant byte first. -/
def beI : Nat → Nat → List Int
  | 0, _ => []
  | a + 1, n => beI a (n / 256) ++ [((n % 256 : Nat) : Int)]
theorem beI_length (a n : Nat) : (beI a n).length = a := by
  induction a generalizing n with
  | zero => rfl
  | succ a ih => simp [beI, ih]
theorem beI_cons (a n : Nat) : beI (a + 1) n = ((n / 256 ^ a % 256 : Nat) : Int) :: beI a n := by
  induction a generalizing n with
  | zero => simp [beI]
  | succ a ih =>
    rw [beI, ih (n / 256), Nat.div_div_eq_div_mul, show 256 * 256 ^ a = 256 ^ (a + 1) by rw [Nat.pow_succ]; omega]
    rfl
theorem div_step {n k m : Nat} (h : m = n / 256 ^ k) : m / 256 = n / 256 ^ (k + 1) := by
  rw [h, Nat.div_div_eq_div_mul, Nat.pow_succ]
theorem beI_step {n k m : Nat} (h : m = n / 256 ^ k) : beI (k + 1) n = ((m % 256 : Nat) : Int) :: beI k n := by
  rw [beI_cons, h]
/-- EncodeFixed. -/
def encF (n a : Int) : List Int := if 0 ≤ n ∧ 1 ≤ a ∧ a ≤ 7 ∧ n.toNat < 256 ^ a.toNat then beI a.toNat n.toNat else []
theorem encF_ok (n a : Nat) (h1 : 1 ≤ a) (h2 : a ≤ 7) (h : n < 256 ^ a) : encF n a = beI a n := by
  unfold encF; rw [if_pos ⟨by omega, by omega, by omega, by simpa using h⟩]; simp
theorem encF_bad (n a : Int) (h : ¬ (0 ≤ n ∧ 1 ≤ a ∧ a ≤ 7)) : encF n a = [] := by
  unfold encF; rw [if_neg (by omega)]
theorem encF_big (n a : Nat) (h : ¬ n < 256 ^ a) : encF n a = [] := by
  unfold encF; rw [if_neg (fun g => h (by simpa using g.2.2.2))]
theorem pow_256 (a : Nat) : (2 : Int) ^ (8 * a) = ((256 ^ a : Nat) : Int) := by
  rw [Int.pow_mul]; simp
theorem shr_zero (n a : Nat) (h : n < 256 ^ a) : ((n : Int) / 2 ^ (8 * a) != 0) = false := by
  rw [pow_256, ← Int.natCast_ediv, Nat.div_eq_of_lt h]; rfl
theorem shr_pos (n a : Nat) (h : ¬ n < 256 ^ a) : ((n : Int) / 2 ^ (8 * a) != 0) = true := by
  rw [pow_256, ← Int.natCast_ediv]
  have : 0 < n / 256 ^ a := Nat.div_pos (by omega) (Nat.pow_pos (by decide))
  rw [bne_iff_ne]; omega
theorem rep_set (j a n m : Nat) (h : m = n / 256 ^ (a - (j + 1))) (hj : j < a) :
    (List.replicate (j + 1) (0 : Int) ++ beI (a - (j + 1)) n).set j ((m % 256 : Nat) : Int) = List.replicate j 0 ++ beI (a - j) n := by
  rw [show a - j = a - (j + 1) + 1 by omega, beI_step h, List.replicate_succ', List.append_assoc, List.set_append_right _ _ (by simp)]
  simp
end Go.Proofs.YteelgogfpidcdaaDoor
namespace Go.Proofs.YteelgogfpidcdaaDoor
open Go.RowKit
set_option linter.unusedVariables false
theorem ret_par {l : List UInt8} {n : Int} {b : Bool} (h : parI l = (n, b)) {a : Int} (ha : a = n) : Ending.returned (.tuple #[.int .i64 a, .bool b]) = .returned (.tuple #[.int .i64 (parI l).1, .bool (parI l).2]) := by rw [h, ha]
theorem neg_at (s : ByteArray) (h : 0 < s.size) : neg s.data.toList = decide (s[0].toNat = 45) := by
  obtain ⟨⟨l⟩⟩ := s
  cases l with
  | nil => simp [ByteArray.size] at h
  | cons a r =>
    show (some a == some 45) = decide (a.toNat = 45)
    have e : (a = 45) ↔ a.toNat = 45 := ⟨fun e => by rw [e]; rfl, fun e => UInt8.toNat_inj.1 (by rw [e]; rfl)⟩
    by_cases h1 : a = 45
    · rw [decide_eq_true (e.1 h1), h1]; rfl
    · rw [decide_eq_false (fun g => h1 (e.2 g))]; simp [h1]
theorem neg_nil (s : ByteArray) (h : s.size = 0) : neg s.data.toList = false := by
  obtain ⟨⟨l⟩⟩ := s
  cases l with
  | nil => rfl
  | cons a r => simp [ByteArray.size] at h
theorem text_eq (x : List UInt8) (s : ByteArray) : (⟨x.toArray⟩ : ByteArray).toList = s.toList ↔ x = s.data.toList := by
  rw [ByteArray.toList_eq, ByteArray.toList_eq]
theorem sval_pos {l : List UInt8} (h : neg l = false) : sval l = (dval l : Int) := by unfold sval; rw [h]; rfl
theorem sval_neg {l : List UInt8} (h : neg l = true) : sval l = -(dval l : Int) := by unfold sval; rw [h]; rfl
theorem dval_step (s : ByteArray) (m : Nat) (h : m < s.size) : dval (s.data.toList.take (m + 1)) = if dig s[m] then dval (s.data.toList.take m) * 10 + (s[m].toNat - 48) else dval (s.data.toList.take m) := by
  rw [take_snoc s m h, dval_snoc]
theorem dcnt_step (s : ByteArray) (m : Nat) (h : m < s.size) : dcnt (s.data.toList.take (m + 1)) = if dig s[m] then dcnt (s.data.toList.take m) + 1 else dcnt (s.data.toList.take m) := by
  rw [take_snoc s m h, dcnt_snoc]
theorem cast_dig (v b : Nat) (h : 48 ≤ b) : ((v * 10 + (b - 48) : Nat) : Int) = (v : Int) * 10 + ((b : Int) - 48) := by omega
set_option maxHeartbeats 2000000 in
set_option maxRecDepth 100000 in
theorem specPar (s : ByteArray) (w : World) (hs : s.size ≤ 1048576) :
    Calls Tryd.prog 92 #[.string s] w fun e w' => e = .returned (.tuple #[.int .i64 (parI s.data.toList).1, .bool (parI s.data.toList).2]) ∧ Below w.heap.size w w' := by
  go_enter Tryd.func92, Tryd.ntmps92
  go_wp2
  go_loop [4, 5, 6] (fun n k i => ∃ m v c : Nat, m ≤ 11 ∧ m ≤ s.size ∧ i = .int .i64 m ∧ n = .int .i64 v ∧ k = .int .i64 c ∧ v ≤ 99999999999 ∧ c ≤ 11 ∧ Hid (v = dval (s.data.toList.take m)) ∧ Hid (c = dcnt (s.data.toList.take m))) (fun _ _ i => 11 - (intOf i).toNat)
  case atStart => exact ⟨0, 0, 0, by omega, by omega, rfl, rfl, rfl, by omega, by omega, Lib.hid rfl, Lib.hid rfl⟩
  case round =>
    obtain ⟨m, v, c, hm11, hms, rfl, rfl, rfl, hv, hc, hvd, hcd⟩ := hrel
    by_cases hlt : m < s.size
    · by_cases h11 : m < 11
      · have hb := (s[m]).toNat_lt
        have i1 : (0 : Int) ≤ (m : Int) := by omega
        have i2 : (m : Int) < (s.size : Int) := by omega
        have hv2 : dval (s.data.toList.take (m + 1)) ≤ 99999999999 := dval_lt11 _ (by rw [List.length_take]; omega)
        have hc2 : dcnt (s.data.toList.take (m + 1)) ≤ 11 := by have := dcnt_le (s.data.toList.take (m + 1)); rw [List.length_take] at this; omega
        by_cases hd : dig s[m] = true
        · have hr := (dig_iff s[m]).1 hd
          obtain ⟨r1, r2⟩ := hr
          have HV : Hid (v * 10 + (s[m].toNat - 48) = dval (s.data.toList.take (m + 1))) := Lib.hid (by rw [dval_step s m hlt, if_pos hd, hvd.out])
          have HC : Hid (c + 1 = dcnt (s.data.toList.take (m + 1))) := Lib.hid (by rw [dcnt_step s m hlt, if_pos hd, hcd.out])
          have HX := Lib.hid (cast_dig v s[m].toNat r1)
          have hv3 : v * 10 + (s[m].toNat - 48) ≤ 99999999999 := by rw [HV.out]; exact hv2
          have hc3 : c + 1 ≤ 11 := by rw [HC.out]; exact hc2
          clear hv2 hc2 hd hvd hcd
          go_wp2
          go_round
          case rel => exact ⟨m + 1, v * 10 + (s[m].toNat - 48), c + 1, by omega, by omega, by go_num, by rw [HX.out], by go_num, hv3, hc3, HV, HC⟩
          case measure => simp [intOf]; omega
        · have HV : Hid (v = dval (s.data.toList.take (m + 1))) := Lib.hid (by rw [dval_step s m hlt, if_neg hd, hvd.out])
          have HC : Hid (c = dcnt (s.data.toList.take (m + 1))) := Lib.hid (by rw [dcnt_step s m hlt, if_neg hd, hcd.out])
          have hr : ¬ (48 ≤ s[m].toNat ∧ s[m].toNat ≤ 57) := fun g => hd ((dig_iff s[m]).2 g)
          clear hv2 hc2 hd hvd hcd
          by_cases h1 : 48 ≤ s[m].toNat
          · have h2 : ¬ s[m].toNat ≤ 57 := by omega
            clear hr
            go_wp2
            go_round
            case rel => exact ⟨m + 1, v, c, by omega, by omega, by go_num, rfl, rfl, hv, hc, HV, HC⟩
            case measure => simp [intOf]; omega
          · clear hr
            go_wp2
            go_round
            case rel => exact ⟨m + 1, v, c, by omega, by omega, by go_num, rfl, rfl, hv, hc, HV, HC⟩
            case measure => simp [intOf]; omega
      · have hpos : 0 < s.size := by omega
        have H := Lib.hid (parI_long (l := s.data.toList) (by simp; omega))
        have g10 : (10 : Int) < (s.size : Int) := by omega
        by_cases hc9 : 9 < c
        · go_wp2
          all_goals
            go_ret2
            exact ⟨ret_par H.out rfl, Below.refl _ _⟩
        · go_wp2
          all_goals
            go_ret2
            exact ⟨ret_par H.out rfl, Below.refl _ _⟩
    · have hge : ¬ ((m : Int) < (s.size : Int)) := by omega
      obtain rfl : m = s.size := by omega
      have HT : s.data.toList.take s.size = s.data.toList := List.take_of_length_le (by simp)
      rw [HT] at hvd hcd
      clear HT
      by_cases hc9 : 9 < c
      · have H := Lib.hid (parI_many (l := s.data.toList) (by rw [← hcd.out]; exact hc9))
        go_wp2
        all_goals
          go_ret2
          exact ⟨ret_par H.out rfl, Below.refl _ _⟩
      · by_cases h10 : 10 < s.size
        · have H := Lib.hid (parI_long (l := s.data.toList) (by simpa using h10))
          go_wp2
          all_goals
            go_ret2
            exact ⟨ret_par H.out rfl, Below.refl _ _⟩
        · have h9 := Lib.hid (show dcnt s.data.toList ≤ 9 by rw [← hcd.out]; omega)
          by_cases hpos : 0 < s.size
          · have hng := neg_at s hpos
            by_cases h45 : s[0].toNat = 45
            · have hn : neg s.data.toList = true := by rw [hng]; exact decide_eq_true h45
              have hq : ((s[0].toNat : Int) == 45) = true := by rw [beq_iff_eq]; omega
              clear hng h45
              have HA := Lib.hid (fun w => specFmt (-(v : Int)) w (by omega) (by omega))
              have HN := Lib.hid (show sval s.data.toList = (-(v : Int)) by rw [sval_neg hn, ← hvd.out])
              by_cases hx : (⟨(Lib.itoa (-(v : Int))).toArray⟩ : ByteArray).toList = s.toList
              · have H := Lib.hid (parI_ok (l := s.data.toList) (by rw [HN.out]; exact (text_eq _ s).1 hx) h9.out)
                have heq : (!(⟨(Lib.itoa (-(v : Int))).toArray⟩ : ByteArray).toList == s.toList) = false := by simp [hx]
                generalize (⟨(Lib.itoa (-(v : Int))).toArray⟩ : ByteArray) = X at HA heq hx
                clear hx hvd hcd
                go_wp2_with (go_at_call 44; refine (HA.out _).mono ?_; rintro e w1 ⟨rfl, hb1⟩)
                go_ret2
                exact ⟨ret_par (a := (-(v : Int))) H.out HN.out.symm, hb1⟩
              · have H := Lib.hid (parI_text (l := s.data.toList) (fun g => hx ((text_eq _ s).2 (by rw [HN.out] at g; exact g))))
                have heq : (!(⟨(Lib.itoa (-(v : Int))).toArray⟩ : ByteArray).toList == s.toList) = true := by rw [Bool.not_eq_true', beq_eq_false_iff_ne]; exact hx
                generalize (⟨(Lib.itoa (-(v : Int))).toArray⟩ : ByteArray) = X at HA heq hx
                clear hx hvd hcd
                go_wp2_with (go_at_call 44; refine (HA.out _).mono ?_; rintro e w1 ⟨rfl, hb1⟩)
                go_ret2
                exact ⟨ret_par H.out rfl, hb1⟩
            · have hn : neg s.data.toList = false := by rw [hng]; exact decide_eq_false h45
              have hq : ((s[0].toNat : Int) == 45) = false := by rw [beq_eq_false_iff_ne]; omega
              clear hng h45
              have HA := Lib.hid (fun w => specFmt (v : Int) w (by omega) (by omega))
              have HN := Lib.hid (show sval s.data.toList = (v : Int) by rw [sval_pos hn, ← hvd.out])
              by_cases hx : (⟨(Lib.itoa (v : Int)).toArray⟩ : ByteArray).toList = s.toList
              · have H := Lib.hid (parI_ok (l := s.data.toList) (by rw [HN.out]; exact (text_eq _ s).1 hx) h9.out)
                have heq : (!(⟨(Lib.itoa (v : Int)).toArray⟩ : ByteArray).toList == s.toList) = false := by simp [hx]
                generalize (⟨(Lib.itoa (v : Int)).toArray⟩ : ByteArray) = X at HA heq hx
                clear hx hvd hcd
                go_wp2_with (go_at_call 44; refine (HA.out _).mono ?_; rintro e w1 ⟨rfl, hb1⟩)
                go_ret2
                exact ⟨ret_par (a := (v : Int)) H.out HN.out.symm, hb1⟩
              · have H := Lib.hid (parI_text (l := s.data.toList) (fun g => hx ((text_eq _ s).2 (by rw [HN.out] at g; exact g))))
                have heq : (!(⟨(Lib.itoa (v : Int)).toArray⟩ : ByteArray).toList == s.toList) = true := by rw [Bool.not_eq_true', beq_eq_false_iff_ne]; exact hx
                generalize (⟨(Lib.itoa (v : Int)).toArray⟩ : ByteArray) = X at HA heq hx
                clear hx hvd hcd
                go_wp2_with (go_at_call 44; refine (HA.out _).mono ?_; rintro e w1 ⟨rfl, hb1⟩)
                go_ret2
                exact ⟨ret_par H.out rfl, hb1⟩
          · have hn : neg s.data.toList = false := neg_nil s (by omega)
            have HA := Lib.hid (fun w => specFmt (v : Int) w (by omega) (by omega))
            have HN := Lib.hid (show sval s.data.toList = (v : Int) by rw [sval_pos hn, ← hvd.out])
            by_cases hx : (⟨(Lib.itoa (v : Int)).toArray⟩ : ByteArray).toList = s.toList
            · have H := Lib.hid (parI_ok (l := s.data.toList) (by rw [HN.out]; exact (text_eq _ s).1 hx) h9.out)
              have heq : (!(⟨(Lib.itoa (v : Int)).toArray⟩ : ByteArray).toList == s.toList) = false := by simp [hx]
              generalize (⟨(Lib.itoa (v : Int)).toArray⟩ : ByteArray) = X at HA heq hx
              clear hx hvd hcd
              go_wp2_with (go_at_call 44; refine (HA.out _).mono ?_; rintro e w1 ⟨rfl, hb1⟩)
              go_ret2
              exact ⟨ret_par (a := (v : Int)) H.out HN.out.symm, hb1⟩
            · have H := Lib.hid (parI_text (l := s.data.toList) (fun g => hx ((text_eq _ s).2 (by rw [HN.out] at g; exact g))))
              have heq : (!(⟨(Lib.itoa (v : Int)).toArray⟩ : ByteArray).toList == s.toList) = true := by rw [Bool.not_eq_true', beq_eq_false_iff_ne]; exact hx
              generalize (⟨(Lib.itoa (v : Int)).toArray⟩ : ByteArray) = X at HA heq hx
              clear hx hvd hcd
              go_wp2_with (go_at_call 44; refine (HA.out _).mono ?_; rintro e w1 ⟨rfl, hb1⟩)
              go_ret2
              exact ⟨ret_par H.out rfl, hb1⟩
end Go.Proofs.YteelgogfpidcdaaDoor
namespace Go.Proofs.YteelgogfpidcdaaDoor
open Go.RowKit
set_option linter.unusedVariables false
/-- 'append(out, x..)', with what else stays: all blocks but out's own; and where the result lies. -/
theorem append_ints_at {w : World} {ops : Array Oper} {rest : List Oper} {o : Oper} {a : Act} {Q : Exit → Act → World → Prop} (hgd : o.guard = none) (s x : Operand)
    (ho : o.op = .call { callee := .builtin .append, args := #[s, x], argTypes := #[32, 32] })
    (B : Nat) (v : Value) (xs : List Int) (hs : a.eval s = v) (hown : OwnsN w B v xs) (hB : B ≤ w.heap.size)
    (C : Array Value) (ys : List Int) (m c : Nat) (hx : a.eval x = .slice (some ⟨w.heap.size, 0, none⟩) m c) (hC : C.toList = ys.map (Value.int .i64)) (hm : m = ys.length)
    (h63 : xs.length + ys.length ≤ 17592186044416)
    (h : ∀ v' w', OwnsN w' B v' (xs ++ ys) → Below B w w' → w.grownBy w' v.ownBlock → (v'.ownBlock = v.ownBlock ∨ ∃ k, v'.ownBlock = some k ∧ w.heap.size ≤ k) → wpList Tryd.prog ops Q rest (a.put o.dst v') w') : wpList Tryd.prog ops Q (o :: rest) a (w.alloc (.cells C 3)) := by
  obtain ⟨i0, hi, hz0, hz1, hz2⟩ := info_parts Tryd.infoI64
  subst hm
  refine wpList_append_own_at _ hgd s x 32 ho B 3 i0 (.int .i64 0) 1 8 Tryd.underlying32 hi hz0 hz1 hz2 rfl (by decide) v xs.length _ hs (hown.alloc _) ⟨w.heap.size, 0, none⟩ ys.length c (ys.map (Value.int .i64)) hx (by simp) ?_ (by intro u hu; simp at hu; obtain ⟨y, _, rfl⟩ := hu; rfl) (by unfold maxLen; omega) (by omega) (by simp; omega) ?_
  · intro j u hj
    have e : (⟨w.heap.size, 0, none⟩ : Addr).add j = ⟨w.heap.size, j, none⟩ := by unfold Addr.add; split <;> simp_all
    rw [e, cell_lit]
    rw [← hC] at hj
    simpa using hj
  · intro v' w' h1 h2 _ h4
    refine h v' w' ?_ ?_ ?_ ?_
    · unfold OwnsN
      simpa using h1
    · exact ((Below.refl B w).alloc hB _).grown h2 (by simp; omega) (fun k hk => (hown.lt k hk).1)
    · have hg := World.grownBy_alloc w (.cells C 3) v.ownBlock
      exact ⟨h2.os.trans hg.os, h2.tape.trans hg.tape, h2.output.trans hg.output, Nat.le_trans hg.size h2.size, fun k hk hne => (h2.block k (Nat.lt_of_lt_of_le hk hg.size) hne).trans (hg.block k hk hne)⟩
    · rcases h4 with h4 | h4
      · exact Or.inl h4
      · exact Or.inr ⟨_, h4, by simp⟩
/-- Two slices of the call's own lie in blocks of their own. -/
def Apart (v u : Value) : Prop := u.ownBlock = none ∨ v.ownBlock ≠ u.ownBlock
theorem ownsS_kept {w w' : World} {B : Nat} {v u : Value} {ts : List ByteArray} (h : OwnsS w B u ts) (hg : w.grownBy w' v.ownBlock) (hp : Apart v u) : OwnsS w' B u ts := by
  refine h.kept hg ?_
  rcases hp with e | e
  · exact Or.inl e
  · exact Or.inr (fun g => e g.symm)
theorem apart_step {w : World} {B : Nat} {v v' u : Value} {ts : List ByteArray} (h : OwnsS w B u ts) (hp : Apart v u) (hat : v'.ownBlock = v.ownBlock ∨ ∃ k, v'.ownBlock = some k ∧ w.heap.size ≤ k) : Apart v' u := by
  rcases hp with e | e
  · exact Or.inl e
  · rcases hat with g | ⟨k, g, hk⟩
    · exact Or.inr (by rw [g]; exact e)
    · cases hu : u.ownBlock with
      | none => exact Or.inl hu
      | some j =>
        refine Or.inr ?_
        rw [g, hu]
        have := (h.lt j hu).2
        intro e2
        simp at e2
        omega
def numL (q : List UInt8) : Int := if (parI q).2 then (parI q).1 else -100000
def partTo (ps : List (List UInt8)) : Int := if ps.length = 2 then numL (ps.getD 1 []) else numL (ps.getD 0 [])
def partOk (ps : List (List UInt8)) : Bool := decide (ps.length ≤ 2 ∧ (0 ≤ numL (ps.getD 0 []) ∧ numL (ps.getD 0 []) ≤ 23) ∧ (numL (ps.getD 0 []) ≤ partTo ps ∧ partTo ps ≤ 23))
def partNums (ps : List (List UInt8)) : List Int := upN (numL (ps.getD 0 [])) (partTo ps - numL (ps.getD 0 []) + 1).toNat
def parGo : List Int → List (List UInt8) → Option (List Int)
  | out, [] => some out
  | out, q :: r => if partOk (cutL 45 q) then parGo (out ++ partNums (cutL 45 q)) r else none
def parSet (l : List UInt8) : List Int × Bool :=
  if l = [110, 111, 110, 101] then ([], true)
  else match parGo [] (cutL 32 l) with
    | none => ([], false)
    | some out => if fmtSet out = l then (out, true) else ([], false)
theorem parSet_none {l : List UInt8} (h : l = [110, 111, 110, 101]) : parSet l = ([], true) := by unfold parSet; rw [if_pos h]
theorem parSet_bad {l : List UInt8} (h : ¬ l = [110, 111, 110, 101]) (hg : parGo [] (cutL 32 l) = none) : parSet l = ([], false) := by unfold parSet; rw [if_neg h, hg]
theorem parSet_yes {l : List UInt8} {out : List Int} (h : ¬ l = [110, 111, 110, 101]) (hg : parGo [] (cutL 32 l) = some out) (hf : fmtSet out = l) : parSet l = (out, true) := by unfold parSet; rw [if_neg h, hg]; exact if_pos hf
theorem parSet_no {l : List UInt8} {out : List Int} (h : ¬ l = [110, 111, 110, 101]) (hg : parGo [] (cutL 32 l) = some out) (hf : ¬ fmtSet out = l) : parSet l = ([], false) := by unfold parSet; rw [if_neg h, hg]; exact if_neg hf
theorem parGo_hit {out : List Int} {P : List (List UInt8)} {k : Nat} (hk : k < P.length) (h : partOk (cutL 45 (P.getD k [])) = true) : parGo out (P.drop k) = parGo (out ++ partNums (cutL 45 (P.getD k []))) (P.drop (k + 1)) := by
  rw [List.drop_eq_getElem_cons hk]
  have e : P.getD k [] = P[k] := by simp [List.getD, hk]
  rw [e] at h ⊢
  show (if partOk (cutL 45 P[k]) then _ else _) = _
  rw [if_pos h]
theorem parGo_miss {out : List Int} {P : List (List UInt8)} {k : Nat} (hk : k < P.length) (h : partOk (cutL 45 (P.getD k [])) = false) : parGo out (P.drop k) = none := by
  rw [List.drop_eq_getElem_cons hk]
  have e : P.getD k [] = P[k] := by simp [List.getD, hk]
  rw [e] at h
  show (if partOk (cutL 45 P[k]) then _ else _) = _
  rw [h]; rfl
theorem cutGo_piece (b : UInt8) : ∀ (l p : List UInt8), ∀ q ∈ cutGo b p l, q.length ≤ p.length + l.length := by
  intro l
  induction l with
  | nil => intro p q hq; simp [cutGo] at hq; subst hq; simp
  | cons c r ih =>
    intro p q hq
    unfold cutGo at hq
    split at hq
    · rcases List.mem_cons.1 hq with e | e
      · subst e; simp
      · have := ih [] q e; simp at this ⊢; omega
    · have := ih (p ++ [c]) q hq; simp at this ⊢; omega
theorem cut_piece (b : UInt8) (l : List UInt8) (k : Nat) : ((cutL b l).getD k []).length ≤ l.length := by
  by_cases hk : k < (cutL b l).length
  · have e : (cutL b l).getD k [] = (cutL b l)[k] := by simp [List.getD, hk]
    have := cutGo_piece b l [] _ (List.getElem_mem hk)
    rw [e]
    simpa using this
  · have e : (cutL b l).getD k [] = [] := by rw [List.getD, List.getElem?_eq_none (Nat.le_of_not_lt hk)]; rfl
    rw [e]; simp
theorem cut_len (b : UInt8) (l : List UInt8) : (cutL b l).length ≤ l.length + 1 := cutGo_len b l []
theorem cutGo_pos (b : UInt8) : ∀ (l p : List UInt8), 0 < (cutGo b p l).length := by
  intro l
  induction l with
  | nil => intro p; simp [cutGo]
  | cons c r ih => intro p; unfold cutGo; split; · simp
                   · exact ih _
theorem cut_pos (b : UInt8) (l : List UInt8) : 0 < (cutL b l).length := cutGo_pos b l []
theorem ret_n {a b : Int} (h : a = b) : Ending.returned (.int .i64 a) = .returned (.int .i64 b) := by rw [h]
set_option maxHeartbeats 1000000 in
theorem specNum (q : List UInt8) (w : World) (hs : q.length ≤ 1048576) : Calls Tryd.prog 64 #[.string (strB q)] w fun e w' => e = .returned (.int .i64 (numL q)) ∧ Below w.heap.size w w' := by
  have HP := Lib.hid (fun w => specPar (strB q) w (by rw [strB_size]; exact hs))
  go_enter Tryd.func64, Tryd.ntmps64
  go_wp2_with fail
  refine (HP.out _).mono ?_
  rintro e w1 ⟨rfl, b1⟩
  have e1 : (strB q).data.toList = q := rfl
  rw [e1]
  cases h2 : (parI q).2 with
  | true =>
    have HN : Hid (numL q = (parI q).1) := Lib.hid (by unfold numL; rw [h2]; rfl)
    clear h2
    generalize (parI q).1 = n at HN ⊢
    go_wp2
    go_ret
    exact ⟨ret_n HN.out.symm, b1⟩
  | false =>
    have HN : Hid (numL q = -100000) := Lib.hid (by unfold numL; rw [h2]; rfl)
    clear h2
    generalize (parI q).1 = n
    go_wp2
    go_ret
    exact ⟨ret_n HN.out.symm, b1⟩
end Go.Proofs.YteelgogfpidcdaaDoor
namespace Go.Proofs.YteelgogfpidcdaaDoor
open Go.RowKit
set_option linter.unusedVariables false
/-- A row: its number and its values. -/
abbrev RowD := Int × List Int
/-- The value of a row whose values lie in vv. -/
def rowVal (r : RowD) (vv : Value) : Value := .agg #[.int .i64 r.1, vv]
/-- The value v reads as the row r. -/
def RowV (w : World) (v : Value) (r : RowD) : Prop := ∃ vv, v = .agg #[.int .i64 r.1, vv] ∧ Ints w vv r.2
theorem rowV_below {W w : World} {v : Value} {r : RowD} (h : RowV W v r) (hb : Below W.heap.size W w) : RowV w v r := by
  obtain ⟨vv, e, hi⟩ := h
  exact ⟨vv, e, ints_below hi hb⟩
/-- A row in new memory is answered. -/
def FreshRow (w : World) (r : RowD) (e : Ending) (w' : World) : Prop := ∃ vv, e = .returned (.agg #[.int .i64 r.1, vv]) ∧ OwnsN w' w.heap.size vv r.2 ∧ Below w.heap.size w w'
theorem szInt_yes (a : Option Addr) (cap n : Nat) (k : Int) (w : World) (h : (n : Int) ≤ k) (hk : k ≤ 1048576) :
    Calls Tryd.prog 51 #[.slice a n cap, .int .i64 k] w fun e w' => e = .returned (.int .i64 (k - (n : Int))) ∧ w' = w := by
  have h0 : ¬ k - (n : Int) < 0 := by omega
  go_enter Tryd.func51, Tryd.ntmps51
  go_wp2
  go_ret
  exact ⟨rfl, rfl⟩
theorem szInt_no (a : Option Addr) (cap n : Nat) (k : Int) (w : World) (h : k < (n : Int)) (hk : 0 ≤ k) (hn : (n : Int) ≤ 9223372036854775807) :
    Calls Tryd.prog 51 #[.slice a n cap, .int .i64 k] w fun e w' => e = .returned (.int .i64 (-1)) ∧ w' = w := by
  have h0 : k - (n : Int) < 0 := by omega
  go_enter Tryd.func51, Tryd.ntmps51
  go_wp2
  go_ret
  exact ⟨rfl, rfl⟩
theorem grow_set (w : World) (c j : Nat) (u : Value) : w.grownBy (w.setCell ⟨c, j, none⟩ u) (some c) :=
  ⟨rfl, rfl, rfl, by simp [World.setCell], fun k _ hk => heap_setCell_other w ⟨c, j, none⟩ k u (fun e => hk (by simp [e]))⟩
/-- A store into a block below what is owned. -/
theorem ownsN_low {w : World} {C : Nat} {v : Value} {xs : List Int} (h : OwnsN w C v xs) {b : Nat} (hb : b < C) (j : Nat) (u : Value) : OwnsN (w.setCell ⟨b, j, none⟩ u) C v xs := by
  refine h.kept (grow_set w b j u) ?_
  cases hv : v.ownBlock with
  | none => exact Or.inl rfl
  | some k => exact Or.inr (by intro e; have := (h.lt k hv).1; simp at e; omega)
theorem ownsN_up {w : World} {B C : Nat} {v : Value} {xs : List Int} (h : OwnsN w C v xs) (hb : B ≤ C) : OwnsN w B v xs := by
  refine ⟨h.1, ?_⟩
  rcases h.2 with hn | ⟨g, cap, cur, e, hb', rest⟩
  · exact .inl hn
  · exact .inr ⟨g, cap, cur, e, Nat.le_trans hb hb', rest⟩
end Go.Proofs.YteelgogfpidcdaaDoor
namespace Go.Proofs.YteelgogfpidcdaaDoor
open Go.RowKit
set_option linter.unusedVariables false
/-- Is it a row? -/
def rowB (r : RowD) : Bool := decide (0 ≤ r.1 ∧ r.1 ≤ 999) && (r.2.all (fun x => decide (0 ≤ x ∧ x ≤ 99)) && decide (r.2.length = 3))
theorem rowB_bad {id : Int} {xs : List Int} {k : Nat} (hk : k < xs.length) (h : ¬ (0 ≤ xs.getD k 0 ∧ xs.getD k 0 ≤ 99)) : rowB (id, xs) = false := by
  have e : xs.getD k 0 = xs[k] := by simp [List.getD, hk]
  rw [e] at h
  have : (xs.all fun x => decide (0 ≤ x ∧ x ≤ 99)) = false := by
    rw [Bool.eq_false_iff]
    intro g
    rw [List.all_eq_true] at g
    exact h (of_decide_eq_true (g _ (List.getElem_mem hk)))
  unfold rowB
  simp only [this]
  simp
theorem rowB_all {id : Int} {xs : List Int} (h : ∀ k, k < xs.length → 0 ≤ xs.getD k 0 ∧ xs.getD k 0 ≤ 99) : rowB (id, xs) = (decide (0 ≤ id ∧ id ≤ 999) && decide (xs.length = 3)) := by
  have : (xs.all fun x => decide (0 ≤ x ∧ x ≤ 99)) = true := by
    rw [List.all_eq_true]
    intro x hx
    obtain ⟨k, hk, rfl⟩ := List.getElem_of_mem hx
    have := h k hk
    have e : xs.getD k 0 = xs[k] := by simp [List.getD, hk]
    rw [e] at this
    exact decide_eq_true this
  unfold rowB
  simp only [this, Bool.true_and]
end Go.Proofs.YteelgogfpidcdaaDoor
