/-
  The walk of the specification's FormatSet: it returns the text 'fmtSet'.
-/
import Derived.Test.YteelgogfpidcdabDoorSetSpec
import Derived.Test.YteelgogfpidcdabDoorFmtWalks
import Derived.Test.YteelgogfpidcdabDoorRunMath
import Derived.IntWalk
namespace Go.Proofs.YteelgogfpidcdabDoor
open Go.RowKit
set_option linter.unusedVariables false
/-- A text as a string. -/
def strB (l : List UInt8) : ByteArray := ⟨l.toArray⟩
theorem strB_size (l : List UInt8) : (strB l).size = l.length := by simp [strB, ByteArray.size]
theorem strB_add (a b : List UInt8) (h : a.length + b.length ≤ 1073741824) (w : World) : (Op.stringOp .add (strB a) (strB b)).run Tryd.prog w = .ok (.string (strB (a ++ b))) w := by
  rw [run_string_add_sum w _ _ (by rw [strB_size, strB_size]; omega)]
  congr 2
theorem strB_toList (l : List UInt8) : (strB l).toList = l := by rw [ByteArray.toList_eq]; rfl
theorem strB_none {l : List UInt8} (h : l = []) : (strB l).toList = [] ∧ (strB l).toList.isEmpty = true := by rw [strB_toList, h]; exact ⟨rfl, rfl⟩
theorem strB_some {l : List UInt8} (h : l ≠ []) : ¬ (strB l).toList = [] ∧ (strB l).toList.isEmpty = false := by
  rw [strB_toList]
  cases l with
  | nil => exact absurd rfl h
  | cons a r => exact ⟨by simp, rfl⟩
theorem fmtB (n : Int) (w : World) (h0 : 0 ≤ n) (h1 : n ≤ 23) : Calls Tryd.prog 12 #[.int .i64 n] w fun e w' => e = .returned (.string (strB (Lib.itoa n))) ∧ Below w.heap.size w w' := specFmt n w (by omega) (by omega)
theorem set_ge {l : List Int} (h : SetL l) : ∀ i, i < l.length → (i : Int) ≤ l.getD i 0 := by
  intro i
  induction i with
  | zero => intro hi; have := h.1 0 hi; omega
  | succ i ih => intro hi; have h1 := ih (by omega); have h2 := h.2 i hi; omega
theorem set_len {l : List Int} (h : SetL l) : l.length ≤ 24 := by
  by_cases h0 : l.length = 0
  · omega
  · have h1 := set_ge h (l.length - 1) (by omega)
    have h2 := h.1 (l.length - 1) (by omega)
    omega
/-- FormatSet. -/
def fmtSet (l : List Int) : List UInt8 := if setB l then fmtRuns l else []
theorem fmtSet_no {l : List Int} (h : setB l = false) : fmtSet l = [] := by unfold fmtSet; rw [h]; rfl
theorem fmtSet_nil : fmtSet [] = [110, 111, 110, 101] := rfl
theorem fmtSet_yes {l : List Int} (h : setB l = true) (h0 : l ≠ []) : fmtSet l = glue [] (runs l) := by unfold fmtSet fmtRuns; rw [h, if_neg h0]; rfl
theorem glue_one (s : List UInt8) (r : Int × Int) (t : List (Int × Int)) : glue s (r :: t) = glue ((if s = [] then s else s ++ [32]) ++ runText r) t := rfl
theorem text_one {x y : Int} (h : x = y) : runText (x, y) = Lib.itoa x := by unfold runText; rw [if_pos h]
theorem text_two {x y : Int} (h : x ≠ y) : runText (x, y) = Lib.itoa x ++ 45 :: Lib.itoa y := by unfold runText; rw [if_neg h]
theorem ret_s {a b : List UInt8} (h : a = b) : Ending.returned (.string (strB a)) = .returned (.string (strB b)) := by rw [h]
theorem run_up (l : List Int) (i n : Nat) (h : ∀ j, j < n → l.getD (i + j + 1) 0 = l.getD (i + j) 0 + 1) : l.getD (i + n) 0 = l.getD i 0 + n := by
  induction n with
  | zero => simp
  | succ n ih => have h1 := ih (fun j hj => h j (by omega)); have h2 := h n (by omega); rw [show i + (n + 1) = i + n + 1 by omega, h2, h1]; omega
theorem below_step {q : Nat} {w wr w5 : World} (h : Below w.heap.size w wr) (h5 : Below (wr.drewN q).heap.size (wr.drewN q) w5) : Below w.heap.size w w5 := by
  have h2 : Below w.heap.size w (wr.drewN q) := below_same h rfl rfl rfl rfl
  exact h2.trans (h5.mono h2.size)
theorem specFmtSet_no (v : Value) (xs : List Int) (w : World) (h : Ints w v xs) (hn : xs.length ≤ 1073741824) (hs : setB xs = false) :
    Calls Tryd.prog 10 #[v] w fun e w' => e = .returned (.string (strB (fmtSet xs))) ∧ Below w.heap.size w w' := by
  have H := Lib.hid h
  have HS := Lib.hid hs
  have HE := Lib.hid (fmtSet_no hs)
  clear h hs
  go_enter Tryd.func10, Tryd.ntmps10
  go_wp2_with fail
  refine (specIsSetBig v xs _ H.out hn).mono ?_
  rintro e w1 ⟨rfl, b1⟩
  rw [HS.out]
  go_wp2
  go_ret
  exact ⟨ret_s HE.out.symm, b1⟩
set_option maxHeartbeats 16000000 in
set_option maxRecDepth 100000 in
theorem specFmtSet_yes (v : Value) (xs : List Int) (w : World) (h : Ints w v xs) (hn : xs.length ≤ 1073741824) (hs : setB xs = true) :
    Calls Tryd.prog 10 #[v] w fun e w' => e = .returned (.string (strB (fmtSet xs))) ∧ Below w.heap.size w w' := by
  have hset := (setB_iff xs).1 hs
  have hl24 := set_len hset
  have H := Lib.hid h
  have HS := Lib.hid hs
  have HR := Lib.hid hset.1
  obtain ⟨a, cap, rfl⟩ := ints_len h
  clear h hs hset
  go_enter Tryd.func10, Tryd.ntmps10
  go_wp2_with fail
  refine (specIsSetBig _ xs _ H.out hn).mono ?_
  rintro e w1 ⟨rfl, b1⟩
  rw [HS.out]
  go_wp2
  go_loopw [3, 4] (fun s i wr => ∃ (k : Nat) (t : List UInt8), k ≤ xs.length ∧ i = .int .i64 k ∧ s = .string (strB t) ∧ t.length ≤ 45 * k ∧ Below w.heap.size w wr ∧ Hid (glue t (runs (xs.drop k)) = glue [] (runs xs)) ∧ Hid (t = [] ↔ k = 0)) (fun _ i _ => xs.length - (intOf i).toNat)
  case atStart => exact ⟨0, [], Nat.zero_le _, rfl, rfl, by simp, b1, Lib.hid rfl, Lib.hid ⟨fun _ => rfl, fun _ => rfl⟩⟩
  case round =>
    obtain ⟨k, t, hk, rfl, rfl, htl, hbel, hgl, hte⟩ := hrel
    clear b1
    by_cases hlt : k < xs.length
    · obtain ⟨b, off, cap', hv, hbl, hc⟩ := ints_cell H.out (by omega)
      simp only [Value.slice.injEq] at hv
      obtain ⟨rfl, _, rfl⟩ := hv
      have HC := Lib.hid hc
      clear hc
      obtain ⟨wo, hwo⟩ : ∃ wo : World, wo = wr := ⟨_, rfl⟩
      subst hwo
      have i1 : (0 : Int) ≤ (k : Int) := by omega
      have i2 : (k : Int) < (xs.length : Int) := by omega
      go_wp2
      go_loopw [5] (fun j wr => ∃ n : Nat, k + n < xs.length ∧ j = .int .i64 ((k + n : Nat) : Int) ∧ Below w.heap.size w wr ∧ Hid (∀ j, j < n → xs.getD (k + j + 1) 0 = xs.getD (k + j) 0 + 1)) (fun j _ => xs.length - (intOf j).toNat)
      case atStart => exact ⟨0, by omega, rfl, hbel, Lib.hid (fun j hj => by omega)⟩
      case round =>
        obtain ⟨n, hkn, rfl, hbel2, hcon⟩ := hrel
        clear hbel
        have hcell := (hbel2.cell (p := ⟨b, off + (k + n), none⟩) hbl).trans (HC.out (k + n) hkn)
        have hcellk := (hbel2.cell (p := ⟨b, off + k, none⟩) hbl).trans (HC.out k hlt)
        have hrk := HR.out k hlt
        have hrm := HR.out (k + n) hkn
        have HUP := Lib.hid (run_up xs k n hcon.out)
        generalize hm : k + n = m at *
        by_cases hn1 : m + 1 < xs.length
        · have hcell1 := (hbel2.cell (p := ⟨b, off + (m + 1), none⟩) hbl).trans (HC.out (m + 1) hn1)
          have i3 : (0 : Int) ≤ (m : Int) + 1 := by omega
          have i4 : (m : Int) + 1 < (xs.length : Int) := by omega
          have i5 : (0 : Int) ≤ (m : Int) := by omega
          have i6 : (m : Int) < (xs.length : Int) := by omega
          have e1 : IntKind.i64.wrap ((m : Int) + 1) = (m : Int) + 1 := IntWalk.i64_in _ (by omega)
          have e2 : IntKind.i64.wrap (xs.getD m 0 + 1) = xs.getD m 0 + 1 := IntWalk.i64_in _ (by omega)
          have i7 : ((m : Int) + 1).toNat = m + 1 := by omega
          by_cases hne : xs.getD (m + 1) 0 = xs.getD m 0 + 1
          · have HN : Hid (∀ j, j < n + 1 → xs.getD (k + j + 1) 0 = xs.getD (k + j) 0 + 1) := Lib.hid (fun j hj => by
              by_cases e : j = n
              · rw [e, hm]; exact hne
              · exact hcon.out j (by omega))
            have heq : (xs.getD (m + 1) 0 == xs.getD m 0 + 1) = true := by rw [beq_iff_eq]; exact hne
            have HMK := Lib.hid hm
            clear hne hm hcellk HUP
            generalize xs.getD (m + 1) 0 = z at *
            generalize xs.getD m 0 = y at *
            clear hcon
            go_wp2_with fail
            go_quiet (fail)
            go_wp2
            go_roundw
            case rel => exact ⟨n + 1, by have := HMK.out; omega, by have := HMK.out; go_num, below_same hbel2 rfl rfl rfl rfl, HN⟩
            case measure => simp [intOf]; omega
          · have heq : (xs.getD (m + 1) 0 == xs.getD m 0 + 1) = false := by rw [beq_eq_false_iff_ne]; exact hne
            have HNE := Lib.hid hne
            clear hne
            generalize hz : xs.getD (m + 1) 0 = z at hcell1 heq
            clear hz
            have HM : Hid (runs (xs.drop k) = (xs.getD k 0, xs.getD m 0) :: runs (xs.drop (m + 1))) := Lib.hid (by rw [← hm]; exact run_max xs n k (by omega) hcon.out (by rw [hm]; exact fun _ => HNE.out))
            have HG : Hid (glue ((if t = [] then t else t ++ [32]) ++ runText (xs.getD k 0, xs.getD m 0)) (runs (xs.drop (m + 1))) = glue [] (runs xs)) := Lib.hid (by rw [← glue_one, ← HM.out]; exact hgl.out)
            clear HM hgl hcon
            generalize hx : xs.getD k 0 = x at *
            obtain ⟨x0, x1⟩ := hrk
            generalize hy : xs.getD m 0 = y at *
            obtain ⟨y0, y1⟩ := hrm
            have hlx := Lib.hid (Lib.itoa_length_le x (by omega) (by omega))
            have hly := Lib.hid (Lib.itoa_length_le y (by omega) (by omega))
            have HXY : Hid (y = x + (n : Int)) := Lib.hid HUP.out
            clear HUP hx hy
            have HKM : Hid (m = k + n) := Lib.hid hm.symm
            have hkm : k ≤ m := by omega
            clear hm
            by_cases ht : t = []
            · have f := strB_none ht
              obtain ⟨f1, f2⟩ := f
              have HG2 : Hid (glue (t ++ runText (x, y)) (runs (xs.drop (m + 1))) = glue [] (runs xs)) := Lib.hid (by have := HG.out; rwa [if_pos ht] at this)
              have d2 := strB_add t (Lib.itoa x) (by have := hlx.out; omega)
              clear HG ht
              by_cases hn0 : n = 0
              · have hxy : x = y := by have := HXY.out; omega
                have hmk : m = k := by have := HKM.out; omega
                have HF : Hid (glue (t ++ Lib.itoa x) (runs (xs.drop (m + 1))) = glue [] (runs xs)) := Lib.hid (by have := HG2.out; rwa [text_one hxy] at this)
                have HT : Hid (t ++ Lib.itoa x = [] ↔ m + 1 = 0) := Lib.hid ⟨fun g => absurd (List.append_eq_nil_iff.1 g).2 (itoa_ne _), fun g => by omega⟩
                have HLEN : Hid ((t ++ Lib.itoa x).length ≤ 45 * (m + 1)) := Lib.hid (by have := hlx.out; simp; omega)
                have hgt : decide (k < m) = false := by rw [decide_eq_false_iff_not]; omega
                have HMK := Lib.hid hmk
                clear hxy hn0 hmk HG2
                go_wp2_with fail
                go_quiet (fail)
                go_wp2_with (go_at_call 12; refine (fmtB x _ x0 x1).mono ?_; rintro e w5 ⟨rfl, hb5⟩)
                go_roundw
                case rel => exact ⟨m + 1, t ++ Lib.itoa x, by omega, by go_num, by simp, HLEN.out, below_step hbel2 hb5, HF, HT⟩
                case measure => simp [intOf]; omega
              · have hxy : x ≠ y := by have := HXY.out; omega
                have HF : Hid (glue (t ++ Lib.itoa x ++ [45] ++ Lib.itoa y) (runs (xs.drop (m + 1))) = glue [] (runs xs)) := Lib.hid (by have := HG2.out; rw [text_two hxy] at this; simpa using this)
                have HT : Hid (t ++ Lib.itoa x ++ [45] ++ Lib.itoa y = [] ↔ m + 1 = 0) := Lib.hid ⟨fun g => absurd (List.append_eq_nil_iff.1 g).2 (itoa_ne _), fun g => by omega⟩
                have HLEN : Hid ((t ++ Lib.itoa x ++ [45] ++ Lib.itoa y).length ≤ 45 * (m + 1)) := Lib.hid (by have := hlx.out; have := hly.out; have := HKM.out; simp; omega)
                have hgt : k < m := by have := HKM.out; omega
                have d3 : ∀ w, (Op.stringOp .add (strB (t ++ Lib.itoa x)) ⟨#[45]⟩).run Tryd.prog w = .ok (.string (strB (t ++ Lib.itoa x ++ [45]))) w := strB_add (t ++ Lib.itoa x) [45] (by have := hlx.out; simp; omega)
                have d4 := strB_add (t ++ Lib.itoa x ++ [45]) (Lib.itoa y) (by have := hlx.out; have := hly.out; simp; omega)
                simp only [List.append_assoc, List.cons_append, List.nil_append] at d4
                clear hxy hn0 HG2
                go_wp2_with fail
                go_quiet (fail)
                go_wp2_with fail
                refine (fmtB x _ x0 x1).mono ?_
                rintro e w5 ⟨rfl, hb5⟩
                have hb6 := below_step hbel2 hb5
                have hcell6 := (hb6.cell (p := ⟨b, off + m, none⟩) hbl).trans ((hbel2.cell (p := ⟨b, off + m, none⟩) hbl).symm.trans hcell)
                clear hb5 hcellk hcell
                go_wp2_with fail
                refine (fmtB y _ y0 y1).mono ?_
                rintro e w6 ⟨rfl, hb7⟩
                go_wp2
                go_roundw
                case rel => exact ⟨m + 1, t ++ Lib.itoa x ++ [45] ++ Lib.itoa y, by omega, by go_num, by simp, HLEN.out, hb6.trans (hb7.mono hb6.size), HF, HT⟩
                case measure => simp [intOf]; omega
            · have f := strB_some ht
              obtain ⟨f1, f2⟩ := f
              have HG2 : Hid (glue ((t ++ [32]) ++ runText (x, y)) (runs (xs.drop (m + 1))) = glue [] (runs xs)) := Lib.hid (by have := HG.out; rwa [if_neg ht] at this)
              have d1 : ∀ w, (Op.stringOp .add (strB t) ⟨#[32]⟩).run Tryd.prog w = .ok (.string (strB (t ++ [32]))) w := strB_add t [32] (by simp; omega)
              have d2 := strB_add (t ++ [32]) (Lib.itoa x) (by have := hlx.out; simp; omega)
              clear HG ht
              by_cases hn0 : n = 0
              · have hxy : x = y := by have := HXY.out; omega
                have hmk : m = k := by have := HKM.out; omega
                have HF : Hid (glue ((t ++ [32]) ++ Lib.itoa x) (runs (xs.drop (m + 1))) = glue [] (runs xs)) := Lib.hid (by have := HG2.out; rwa [text_one hxy] at this)
                have HT : Hid ((t ++ [32]) ++ Lib.itoa x = [] ↔ m + 1 = 0) := Lib.hid ⟨fun g => absurd (List.append_eq_nil_iff.1 g).2 (itoa_ne _), fun g => by omega⟩
                have HLEN : Hid (((t ++ [32]) ++ Lib.itoa x).length ≤ 45 * (m + 1)) := Lib.hid (by have := hlx.out; simp; omega)
                have hgt : decide (k < m) = false := by rw [decide_eq_false_iff_not]; omega
                have HMK := Lib.hid hmk
                clear hxy hn0 hmk HG2
                go_wp2_with fail
                go_quiet (fail)
                go_wp2_with (go_at_call 12; refine (fmtB x _ x0 x1).mono ?_; rintro e w5 ⟨rfl, hb5⟩)
                go_roundw
                case rel => exact ⟨m + 1, (t ++ [32]) ++ Lib.itoa x, by omega, by go_num, by simp, HLEN.out, below_step hbel2 hb5, HF, HT⟩
                case measure => simp [intOf]; omega
              · have hxy : x ≠ y := by have := HXY.out; omega
                have HF : Hid (glue ((t ++ [32]) ++ Lib.itoa x ++ [45] ++ Lib.itoa y) (runs (xs.drop (m + 1))) = glue [] (runs xs)) := Lib.hid (by have := HG2.out; rw [text_two hxy] at this; simpa using this)
                have HT : Hid ((t ++ [32]) ++ Lib.itoa x ++ [45] ++ Lib.itoa y = [] ↔ m + 1 = 0) := Lib.hid ⟨fun g => absurd (List.append_eq_nil_iff.1 g).2 (itoa_ne _), fun g => by omega⟩
                have HLEN : Hid (((t ++ [32]) ++ Lib.itoa x ++ [45] ++ Lib.itoa y).length ≤ 45 * (m + 1)) := Lib.hid (by have := hlx.out; have := hly.out; have := HKM.out; simp; omega)
                have hgt : k < m := by have := HKM.out; omega
                have d3 : ∀ w, (Op.stringOp .add (strB ((t ++ [32]) ++ Lib.itoa x)) ⟨#[45]⟩).run Tryd.prog w = .ok (.string (strB ((t ++ [32]) ++ Lib.itoa x ++ [45]))) w := strB_add ((t ++ [32]) ++ Lib.itoa x) [45] (by have := hlx.out; simp; omega)
                have d4 := strB_add ((t ++ [32]) ++ Lib.itoa x ++ [45]) (Lib.itoa y) (by have := hlx.out; have := hly.out; simp; omega)
                simp only [List.append_assoc, List.cons_append, List.nil_append] at d4
                simp only [List.append_assoc, List.cons_append, List.nil_append] at d3
                clear hxy hn0 HG2
                go_wp2_with fail
                go_quiet (fail)
                go_wp2_with fail
                refine (fmtB x _ x0 x1).mono ?_
                rintro e w5 ⟨rfl, hb5⟩
                have hb6 := below_step hbel2 hb5
                have hcell6 := (hb6.cell (p := ⟨b, off + m, none⟩) hbl).trans ((hbel2.cell (p := ⟨b, off + m, none⟩) hbl).symm.trans hcell)
                clear hb5 hcellk hcell
                go_wp2_with fail
                refine (fmtB y _ y0 y1).mono ?_
                rintro e w6 ⟨rfl, hb7⟩
                go_wp2
                go_roundw
                case rel => exact ⟨m + 1, (t ++ [32]) ++ Lib.itoa x ++ [45] ++ Lib.itoa y, by omega, by go_num, by simp, HLEN.out, hb6.trans (hb7.mono hb6.size), HF, HT⟩
                case measure => simp [intOf]; omega
        · have i3 : ¬ ((m : Int) + 1 < (xs.length : Int)) := by omega
          have i4 : decide ((m : Int) + 1 < (xs.length : Int)) = false := decide_eq_false i3
          have i5 : (0 : Int) ≤ (m : Int) := by omega
          have i6 : (m : Int) < (xs.length : Int) := by omega
          have e1 : IntKind.i64.wrap ((m : Int) + 1) = (m : Int) + 1 := IntWalk.i64_in _ (by omega)
          have HM : Hid (runs (xs.drop k) = (xs.getD k 0, xs.getD m 0) :: runs (xs.drop (m + 1))) := Lib.hid (by rw [← hm]; exact run_max xs n k (by omega) hcon.out (by rw [hm]; exact fun g => absurd g hn1))
          have HG : Hid (glue ((if t = [] then t else t ++ [32]) ++ runText (xs.getD k 0, xs.getD m 0)) (runs (xs.drop (m + 1))) = glue [] (runs xs)) := Lib.hid (by rw [← glue_one, ← HM.out]; exact hgl.out)
          clear HM hgl hcon
          generalize hx : xs.getD k 0 = x at *
          obtain ⟨x0, x1⟩ := hrk
          generalize hy : xs.getD m 0 = y at *
          obtain ⟨y0, y1⟩ := hrm
          have hlx := Lib.hid (Lib.itoa_length_le x (by omega) (by omega))
          have hly := Lib.hid (Lib.itoa_length_le y (by omega) (by omega))
          have HXY : Hid (y = x + (n : Int)) := Lib.hid HUP.out
          clear HUP hx hy
          have HKM : Hid (m = k + n) := Lib.hid hm.symm
          have hkm : k ≤ m := by omega
          clear hm
          by_cases ht : t = []
          · have f := strB_none ht
            obtain ⟨f1, f2⟩ := f
            have HG2 : Hid (glue (t ++ runText (x, y)) (runs (xs.drop (m + 1))) = glue [] (runs xs)) := Lib.hid (by have := HG.out; rwa [if_pos ht] at this)
            have d2 := strB_add t (Lib.itoa x) (by have := hlx.out; omega)
            clear HG ht
            by_cases hn0 : n = 0
            · have hxy : x = y := by have := HXY.out; omega
              have hmk : m = k := by have := HKM.out; omega
              have HF : Hid (glue (t ++ Lib.itoa x) (runs (xs.drop (m + 1))) = glue [] (runs xs)) := Lib.hid (by have := HG2.out; rwa [text_one hxy] at this)
              have HT : Hid (t ++ Lib.itoa x = [] ↔ m + 1 = 0) := Lib.hid ⟨fun g => absurd (List.append_eq_nil_iff.1 g).2 (itoa_ne _), fun g => by omega⟩
              have HLEN : Hid ((t ++ Lib.itoa x).length ≤ 45 * (m + 1)) := Lib.hid (by have := hlx.out; simp; omega)
              have hgt : decide (k < m) = false := by rw [decide_eq_false_iff_not]; omega
              have HMK := Lib.hid hmk
              clear hxy hn0 hmk HG2
              go_wp2_with fail
              go_quiet (fail)
              go_wp2_with (go_at_call 12; refine (fmtB x _ x0 x1).mono ?_; rintro e w5 ⟨rfl, hb5⟩)
              go_roundw
              case rel => exact ⟨m + 1, t ++ Lib.itoa x, by omega, by go_num, by simp, HLEN.out, below_step hbel2 hb5, HF, HT⟩
              case measure => simp [intOf]; omega
            · have hxy : x ≠ y := by have := HXY.out; omega
              have HF : Hid (glue (t ++ Lib.itoa x ++ [45] ++ Lib.itoa y) (runs (xs.drop (m + 1))) = glue [] (runs xs)) := Lib.hid (by have := HG2.out; rw [text_two hxy] at this; simpa using this)
              have HT : Hid (t ++ Lib.itoa x ++ [45] ++ Lib.itoa y = [] ↔ m + 1 = 0) := Lib.hid ⟨fun g => absurd (List.append_eq_nil_iff.1 g).2 (itoa_ne _), fun g => by omega⟩
              have HLEN : Hid ((t ++ Lib.itoa x ++ [45] ++ Lib.itoa y).length ≤ 45 * (m + 1)) := Lib.hid (by have := hlx.out; have := hly.out; have := HKM.out; simp; omega)
              have hgt : k < m := by have := HKM.out; omega
              have d3 : ∀ w, (Op.stringOp .add (strB (t ++ Lib.itoa x)) ⟨#[45]⟩).run Tryd.prog w = .ok (.string (strB (t ++ Lib.itoa x ++ [45]))) w := strB_add (t ++ Lib.itoa x) [45] (by have := hlx.out; simp; omega)
              have d4 := strB_add (t ++ Lib.itoa x ++ [45]) (Lib.itoa y) (by have := hlx.out; have := hly.out; simp; omega)
              simp only [List.append_assoc, List.cons_append, List.nil_append] at d4
              clear hxy hn0 HG2
              go_wp2_with fail
              go_quiet (fail)
              go_wp2_with fail
              refine (fmtB x _ x0 x1).mono ?_
              rintro e w5 ⟨rfl, hb5⟩
              have hb6 := below_step hbel2 hb5
              have hcell6 := (hb6.cell (p := ⟨b, off + m, none⟩) hbl).trans ((hbel2.cell (p := ⟨b, off + m, none⟩) hbl).symm.trans hcell)
              clear hb5 hcellk hcell
              go_wp2_with fail
              refine (fmtB y _ y0 y1).mono ?_
              rintro e w6 ⟨rfl, hb7⟩
              go_wp2
              go_roundw
              case rel => exact ⟨m + 1, t ++ Lib.itoa x ++ [45] ++ Lib.itoa y, by omega, by go_num, by simp, HLEN.out, hb6.trans (hb7.mono hb6.size), HF, HT⟩
              case measure => simp [intOf]; omega
          · have f := strB_some ht
            obtain ⟨f1, f2⟩ := f
            have HG2 : Hid (glue ((t ++ [32]) ++ runText (x, y)) (runs (xs.drop (m + 1))) = glue [] (runs xs)) := Lib.hid (by have := HG.out; rwa [if_neg ht] at this)
            have d1 : ∀ w, (Op.stringOp .add (strB t) ⟨#[32]⟩).run Tryd.prog w = .ok (.string (strB (t ++ [32]))) w := strB_add t [32] (by simp; omega)
            have d2 := strB_add (t ++ [32]) (Lib.itoa x) (by have := hlx.out; simp; omega)
            clear HG ht
            by_cases hn0 : n = 0
            · have hxy : x = y := by have := HXY.out; omega
              have hmk : m = k := by have := HKM.out; omega
              have HF : Hid (glue ((t ++ [32]) ++ Lib.itoa x) (runs (xs.drop (m + 1))) = glue [] (runs xs)) := Lib.hid (by have := HG2.out; rwa [text_one hxy] at this)
              have HT : Hid ((t ++ [32]) ++ Lib.itoa x = [] ↔ m + 1 = 0) := Lib.hid ⟨fun g => absurd (List.append_eq_nil_iff.1 g).2 (itoa_ne _), fun g => by omega⟩
              have HLEN : Hid (((t ++ [32]) ++ Lib.itoa x).length ≤ 45 * (m + 1)) := Lib.hid (by have := hlx.out; simp; omega)
              have hgt : decide (k < m) = false := by rw [decide_eq_false_iff_not]; omega
              have HMK := Lib.hid hmk
              clear hxy hn0 hmk HG2
              go_wp2_with fail
              go_quiet (fail)
              go_wp2_with (go_at_call 12; refine (fmtB x _ x0 x1).mono ?_; rintro e w5 ⟨rfl, hb5⟩)
              go_roundw
              case rel => exact ⟨m + 1, (t ++ [32]) ++ Lib.itoa x, by omega, by go_num, by simp, HLEN.out, below_step hbel2 hb5, HF, HT⟩
              case measure => simp [intOf]; omega
            · have hxy : x ≠ y := by have := HXY.out; omega
              have HF : Hid (glue ((t ++ [32]) ++ Lib.itoa x ++ [45] ++ Lib.itoa y) (runs (xs.drop (m + 1))) = glue [] (runs xs)) := Lib.hid (by have := HG2.out; rw [text_two hxy] at this; simpa using this)
              have HT : Hid ((t ++ [32]) ++ Lib.itoa x ++ [45] ++ Lib.itoa y = [] ↔ m + 1 = 0) := Lib.hid ⟨fun g => absurd (List.append_eq_nil_iff.1 g).2 (itoa_ne _), fun g => by omega⟩
              have HLEN : Hid (((t ++ [32]) ++ Lib.itoa x ++ [45] ++ Lib.itoa y).length ≤ 45 * (m + 1)) := Lib.hid (by have := hlx.out; have := hly.out; have := HKM.out; simp; omega)
              have hgt : k < m := by have := HKM.out; omega
              have d3 : ∀ w, (Op.stringOp .add (strB ((t ++ [32]) ++ Lib.itoa x)) ⟨#[45]⟩).run Tryd.prog w = .ok (.string (strB ((t ++ [32]) ++ Lib.itoa x ++ [45]))) w := strB_add ((t ++ [32]) ++ Lib.itoa x) [45] (by have := hlx.out; simp; omega)
              have d4 := strB_add ((t ++ [32]) ++ Lib.itoa x ++ [45]) (Lib.itoa y) (by have := hlx.out; have := hly.out; simp; omega)
              simp only [List.append_assoc, List.cons_append, List.nil_append] at d4
              simp only [List.append_assoc, List.cons_append, List.nil_append] at d3
              clear hxy hn0 HG2
              go_wp2_with fail
              go_quiet (fail)
              go_wp2_with fail
              refine (fmtB x _ x0 x1).mono ?_
              rintro e w5 ⟨rfl, hb5⟩
              have hb6 := below_step hbel2 hb5
              have hcell6 := (hb6.cell (p := ⟨b, off + m, none⟩) hbl).trans ((hbel2.cell (p := ⟨b, off + m, none⟩) hbl).symm.trans hcell)
              clear hb5 hcellk hcell
              go_wp2_with fail
              refine (fmtB y _ y0 y1).mono ?_
              rintro e w6 ⟨rfl, hb7⟩
              go_wp2
              go_roundw
              case rel => exact ⟨m + 1, (t ++ [32]) ++ Lib.itoa x ++ [45] ++ Lib.itoa y, by omega, by go_num, by simp, HLEN.out, hb6.trans (hb7.mono hb6.size), HF, HT⟩
              case measure => simp [intOf]; omega
    · obtain rfl : k = xs.length := by omega
      have hg := hgl.out
      rw [List.drop_eq_nil_of_le (Nat.le_refl _)] at hg
      have hg2 : t = glue [] (runs xs) := hg
      by_cases h0 : xs = []
      · have ht : t = [] := hte.out.2 (by rw [h0]; rfl)
        obtain ⟨f1, f2⟩ := strB_none ht
        have HE : Hid (fmtSet xs = [110, 111, 110, 101]) := Lib.hid (by rw [h0]; exact fmtSet_nil)
        clear hg hg2 h0 ht
        go_wp2_with fail
        go_ret
        exact ⟨ret_s HE.out.symm, hbel⟩
      · have ht : t ≠ [] := fun g => h0 (List.eq_nil_of_length_eq_zero (hte.out.1 g))
        obtain ⟨f1, f2⟩ := strB_some ht
        have HE : Hid (fmtSet xs = t) := Lib.hid (by rw [fmtSet_yes HS.out h0]; exact hg2.symm)
        clear hg hg2 h0 ht
        go_wp2_with fail
        go_ret
        exact ⟨ret_s HE.out.symm, hbel⟩
/-- FormatSet returns the text 'fmtSet'. -/
theorem specFmtSetBig (v : Value) (xs : List Int) (w : World) (h : Ints w v xs) (hn : xs.length ≤ 1073741824) :
    Calls Tryd.prog 10 #[v] w fun e w' => e = .returned (.string (strB (fmtSet xs))) ∧ Below w.heap.size w w' := by
  cases hs : setB xs
  · exact specFmtSet_no v xs w h hn hs
  · exact specFmtSet_yes v xs w h hn hs
theorem specFmtSet (v : Value) (xs : List Int) (w : World) (h : Ints w v xs) (hn : xs.length ≤ 1048576) :
    Calls Tryd.prog 10 #[v] w fun e w' => e = .returned (.string (strB (fmtSet xs))) ∧ Below w.heap.size w w' := specFmtSetBig v xs w h (by omega)
end Go.Proofs.YteelgogfpidcdabDoor
