/-
  Texts of the proof, merged: Ints, LawInts, RowVal, SetMath, SetSpec, RowSpec, RowSl, RowOwn, RowLaw1, RowLaws, RowEq, Take, RowAre, RowLess, AppInts, RowCopy, RowMark, RowMarkW, RowIns, VerMath, UpdMath, CondVal, CondSpec, QueryVal, QuerySpec, QuerySl, AdmitSpec, QueryOwn, QueryAre, SpanVal, SpanSl, StabMath, FreshInts, FindSpec, IndexMath, EngMath, ChgMath, AdmMath, Ty, TyInt, TVersion, TVersionS, TVersionSS, TStore, TyIntE, TCond, TCondS, TQuery, TRow, TRowS, TActive, TActiveS, TFinished, TFinishedS, TCharge, TChargeS, TEngine, EngBr, BrRow, EngSpec1, TQueryS, BrQuery, EngSpec2, SetLaws1, ChgSpec, TyApp, Raw, VerBr, Rec, RecLim, RecEq, RowIsP, VerP1, VerP2, HasSeg, QueryIsP, MaskMath, MaskWalks, EngP2, EngP3, ChgP.
-/
import Derived.Test.YtjeaimdnddelpaaRows
import Derived.WalkKit
import Derived.Below
import Derived.Lib.Hide
import Derived.OwnWalk
import Derived.BigQuiet
import Derived.Deep.QuietTactic
import Derived.WalkSpells
import Derived.Deep.RegionHeld3
import Derived.IntWalk
import Derived.Deep.Upon
import Derived.Maps.AppendAt
import Derived.Laws.OwnMore
import Derived.Laws.MakeOwn
import Derived.Deep.Slices
import Derived.Laws.CopyOwn
import Derived.Lib.MinMax
import Derived.Laws.StructEq
import Derived.Laws.BitsLemmas
namespace Go.Proofs.Ytjeaimdnddelpaa
open Go.RowKit
set_option linter.unusedVariables false
theorem Try.infoI64 : (Try.prog.info? 3).map (fun i => (i.zero, i.size, i.bytes)) = some (some (.int .i64 0), 1, 8) := by kernel_rfl
/-- The slice v reads as the numbers xs. -/
def Ints (w : World) (v : Value) (xs : List Int) : Prop :=
  (xs = [] ∧ ∃ a cap, v = .slice a 0 cap) ∨ ∃ b off cap, v = .slice (some ⟨b, off, none⟩) xs.length cap ∧ xs.length ≤ cap ∧ b < w.heap.size ∧ ∀ j, j < xs.length → w.cell? ⟨b, off + j, none⟩ = some (.int .i64 (xs.getD j 0))
/-- The slice v owns the numbers xs, in a block from B on. -/
def OwnsN (w : World) (B : Nat) (v : Value) (xs : List Int) : Prop := w.ownsRow B 3 1 v xs.length (xs.map (Value.int .i64))
theorem below_same {B : Nat} {a w w' : World} (h : Below B a w) (h1 : w'.heap = w.heap) (h2 : w'.os = w.os) (h3 : w'.tape = w.tape) (h4 : w'.output = w.output) : Below B a w' :=
  ⟨h2.trans h.os, h3.trans h.tape, h4.trans h.output, by rw [h1]; exact h.size, fun k hk => by rw [h1]; exact h.block k hk⟩
theorem ints_len {w : World} {v : Value} {xs : List Int} (h : Ints w v xs) : ∃ a cap, v = .slice a xs.length cap := by
  rcases h with ⟨rfl, a, cap, rfl⟩ | ⟨b, off, cap, rfl, _⟩
  · exact ⟨a, cap, rfl⟩
  · exact ⟨_, cap, rfl⟩
/-- What 'make([]int, n)' owns. -/
theorem ownsN_made {w : World} {B g n : Nat} (h : w.ownsRow B 3 1 (.slice (some ⟨g, 0, none⟩) n n) n (madeCells #[Value.int .i64 0] n).toList) : OwnsN w B (.slice (some ⟨g, 0, none⟩) n n) (List.replicate n 0) := by
  have e : (madeCells #[Value.int .i64 0] n).toList = List.replicate n (.int .i64 0) := toList_madeCells_one (.int .i64 0) n
  rw [e] at h
  unfold OwnsN
  simpa using h
theorem ownsN_len {w : World} {B : Nat} {a : Option Addr} {n cap : Nat} {xs : List Int} (h : OwnsN w B (.slice a n cap) xs) : n = xs.length := by
  rcases h.2 with ⟨h', h0⟩ | ⟨_, _, _, h', _⟩
  · simp only [Value.slice.injEq] at h'; omega
  · simp only [Value.slice.injEq] at h'; exact h'.2.1
theorem ownsN_cell {w : World} {B g n cap j : Nat} {xs : List Int} {x : Int} (h : OwnsN w B (.slice (some ⟨g, 0, none⟩) n cap) xs) (hx : xs[j]? = some x) : w.cell? ⟨g, j, none⟩ = some (.int .i64 x) := by
  have := World.ownsRow.cells h (g := g) rfl j (.int .i64 x) (by simp [hx])
  have e : (⟨g, 0, none⟩ : Addr).add j = ⟨g, j, none⟩ := by unfold Addr.add; split <;> simp_all
  rwa [e] at this
theorem ownsN_frozen {w : World} {B g n cap : Nat} {xs : List Int} (h : OwnsN w B (.slice (some ⟨g, 0, none⟩) n cap) xs) (j : Nat) : w.frozen? ⟨g, j, none⟩ = false := by
  obtain rfl := ownsN_len h
  exact World.ownsRow.frozenAt h j
theorem ownsN_store {w : World} {B g n cap : Nat} {xs : List Int} (h : OwnsN w B (.slice (some ⟨g, 0, none⟩) n cap) xs) (j : Nat) (x : Int) : OwnsN (w.setCell ⟨g, j, none⟩ (.int .i64 x)) B (.slice (some ⟨g, 0, none⟩) n cap) (xs.set j x) := by
  obtain rfl := ownsN_len h
  have := (World.ownsRow.stored h j (.int .i64 x)).1
  unfold OwnsN
  rw [List.length_set, List.map_set]
  exact this
end Go.Proofs.Ytjeaimdnddelpaa
namespace Go.Proofs.Ytjeaimdnddelpaa
open Go.RowKit
set_option linter.unusedVariables false
/-- A slice in new memory that holds the numbers xs. -/
def Fresh (w : World) (xs : List Int) (e : Ending) (w' : World) : Prop := ∃ v', e = .returned v' ∧ OwnsN w' w.heap.size v' xs ∧ Below w.heap.size w w'
theorem ints_cell {w : World} {v : Value} {xs : List Int} (h : Ints w v xs) (hp : 0 < xs.length) : ∃ b off cap, v = .slice (some ⟨b, off, none⟩) xs.length cap ∧ b < w.heap.size ∧ ∀ j, j < xs.length → w.cell? ⟨b, off + j, none⟩ = some (.int .i64 (xs.getD j 0)) := by
  rcases h with ⟨rfl, _⟩ | ⟨b, off, cap, h1, h2, h3, h4⟩
  · simp at hp
  · exact ⟨b, off, cap, h1, h3, h4⟩
theorem copy_step (xs : List Int) (k : Nat) (h : k < xs.length) : (xs.take k ++ List.replicate (xs.length - k) 0).set k (xs.getD k 0) = xs.take (k + 1) ++ List.replicate (xs.length - (k + 1)) 0 := by
  have hk : (xs.take k).length = k := by rw [List.length_take]; omega
  rw [List.set_append_right _ _ (by omega), hk, Nat.sub_self, show xs.length - k = (xs.length - (k + 1)) + 1 by omega, List.replicate_succ, List.set_cons_zero, List.take_succ_eq_append_getElem h, List.append_assoc]
  simp [List.getD, h]
theorem copy_at (xs : List Int) (k : Nat) (h : k < xs.length) : (xs.take k ++ List.replicate (xs.length - k) 0)[k]? = some 0 := by
  have hk : (xs.take k).length = k := by rw [List.length_take]; omega
  rw [List.getElem?_append_right (by omega), hk, Nat.sub_self, List.getElem?_replicate, if_pos (by omega)]
set_option maxRecDepth 100000 in
theorem toIntS_any (v : Value) (xs : List Int) (w : World) (h : Ints w v xs) (hn : xs.length ≤ 1048576) :
    Calls Try.prog 20 #[v] w (Fresh w xs) := by
  obtain ⟨i0, hi, hz0, hz1, hz2⟩ := info_parts Try.infoI64
  have HI := Lib.hid hi; have HZ0 := Lib.hid hz0; have HZ1 := Lib.hid hz1; have HZ2 := Lib.hid hz2
  clear hi hz0 hz1 hz2
  have H := Lib.hid h
  obtain ⟨a, cap, rfl⟩ := ints_len h
  clear h
  go_enter Try.func20, Try.ntmps20
  go_wp2_with (at_make; refine wpList_make_full _ rfl (.tmp 6) (.tmp 6) 33 rfl w.heap.size 3 i0 (.int .i64 0) 1 Try.underlying33 HI.out HZ0.out HZ1.out _ _ _ _ xs.length rfl rfl rfl rfl (by rw [HZ2.out]; omega) (by unfold maxLen; omega) (Nat.le_refl _) ?_)
  intro w1 hown0 hg0
  have hown1 := ownsN_made hown0
  have hbel1 := (Below.refl w.heap.size w).grown hg0 (Nat.le_refl _) (fun k hk => by cases hk)
  clear hown0 hg0
  go_wp2
  go_loopw [4] (fun i wr => ∃ k : Nat, k ≤ xs.length ∧ i = .int .i64 k ∧ OwnsN wr w.heap.size (.slice (some ⟨w.heap.size, 0, none⟩) xs.length xs.length) (xs.take k ++ List.replicate (xs.length - k) 0) ∧ Below w.heap.size w wr) (fun i _ => xs.length - (intOf i).toNat)
  case atStart => exact ⟨0, Nat.zero_le _, rfl, by simpa using hown1, hbel1⟩
  case round =>
    obtain ⟨k, hk, rfl, hown, hbel⟩ := hrel
    by_cases hlt : k < xs.length
    · obtain ⟨b, off, cap', hv, hbl, hc⟩ := ints_cell H.out (by omega)
      simp only [Value.slice.injEq] at hv
      obtain ⟨rfl, _, rfl⟩ := hv
      have hcell := (hbel.cell (p := ⟨b, off + k, none⟩) hbl).trans (hc k hlt)
      have hset := copy_step xs k hlt
      have i1 : (0 : Int) ≤ (k : Int) := by omega
      have i2 : (k : Int) < (xs.length : Int) := by omega
      have c1 := ownsN_cell hown (copy_at xs k hlt)
      have f1 := ownsN_frozen hown k
      have hst := ownsN_store hown k (xs.getD k 0)
      rw [hset] at hst
      have hb2 := hbel.setCell (p := ⟨w.heap.size, k, none⟩) (Nat.le_refl _) (.int .i64 (xs.getD k 0))
      have HST := Lib.hid hst
      clear hst hset hc hown hbel hown1 hbel1
      generalize xs.getD k 0 = y at *
      go_wp2
      go_roundw
      case rel => exact ⟨k + 1, by omega, by go_num, HST.out, hb2⟩
      case measure => simp [intOf]; omega
    · obtain rfl : k = xs.length := by omega
      rw [List.take_of_length_le (Nat.le_refl _), Nat.sub_self, List.replicate_zero, List.append_nil] at hown
      go_wp2
      go_ret
      exact ⟨_, rfl, hown, hbel⟩
set_option maxRecDepth 100000 in
theorem eqIntS_same (v u : Value) (xs : List Int) (w : World) (h : Ints w v xs) (g : Ints w u xs) (hn : xs.length ≤ 1048576) :
    Calls Try.prog 22 #[v, u] w fun e w' => e = .returned (.bool true) ∧ Below w.heap.size w w' := by
  have H := Lib.hid h
  have G := Lib.hid g
  obtain ⟨a, cap, rfl⟩ := ints_len h
  obtain ⟨a2, cap2, rfl⟩ := ints_len g
  clear h g
  go_enter Try.func22, Try.ntmps22
  go_wp2
  go_loopw [5] (fun i wr => ∃ k : Nat, k ≤ xs.length ∧ i = .int .i64 k ∧ Below w.heap.size w wr) (fun i _ => xs.length - (intOf i).toNat)
  case atStart => exact ⟨0, Nat.zero_le _, rfl, Below.refl _ _⟩
  case round =>
    obtain ⟨k, hk, rfl, hbel⟩ := hrel
    by_cases hlt : k < xs.length
    · obtain ⟨b, off, cap', hv, hbl, hc⟩ := ints_cell H.out (by omega)
      obtain ⟨b2, off2, cap2', hv2, hbl2, hc2⟩ := ints_cell G.out (by omega)
      simp only [Value.slice.injEq] at hv hv2
      obtain ⟨rfl, _, rfl⟩ := hv
      obtain ⟨rfl, _, rfl⟩ := hv2
      have hcell := (hbel.cell (p := ⟨b, off + k, none⟩) hbl).trans (hc k hlt)
      have hcell2 := (hbel.cell (p := ⟨b2, off2 + k, none⟩) hbl2).trans (hc2 k hlt)
      have i1 : (0 : Int) ≤ (k : Int) := by omega
      have i2 : (k : Int) < (xs.length : Int) := by omega
      clear hc hc2
      generalize xs.getD k 0 = y at *
      go_wp2
      go_quiet (fail)
      go_wp2
      go_roundw
      case rel => exact ⟨k + 1, by omega, by go_num, below_same hbel rfl rfl rfl rfl⟩
      case measure => simp [intOf]; omega
    · obtain rfl : k = xs.length := by omega
      go_wp2
      go_ret
      exact ⟨rfl, hbel⟩
/-- The numbers k, k + 1, ... -/
def marks (k : Int) (n : Nat) : List Int := (List.range n).map fun i : Nat => k + (i : Int)
end Go.Proofs.Ytjeaimdnddelpaa
namespace Go.Proofs.Ytjeaimdnddelpaa
open Go.RowKit
set_option linter.unusedVariables false
/-- A row: its number and its values. -/
abbrev RowD := Int × List Int
theorem szInt_yes (a : Option Addr) (cap n : Nat) (k : Int) (w : World) (h : (n : Int) ≤ k) (hk : k ≤ 1048576) :
    Calls Try.prog 18 #[.slice a n cap, .int .i64 k] w fun e w' => e = .returned (.int .i64 (k - (n : Int))) ∧ w' = w := by
  have h0 : ¬ k - (n : Int) < 0 := by omega
  go_enter Try.func18, Try.ntmps18
  go_wp2
  go_ret
  exact ⟨rfl, rfl⟩
theorem szInt_no (a : Option Addr) (cap n : Nat) (k : Int) (w : World) (h : k < (n : Int)) (hk : 0 ≤ k) (hn : (n : Int) ≤ 9223372036854775807) :
    Calls Try.prog 18 #[.slice a n cap, .int .i64 k] w fun e w' => e = .returned (.int .i64 (-1)) ∧ w' = w := by
  have h0 : k - (n : Int) < 0 := by omega
  go_enter Try.func18, Try.ntmps18
  go_wp2
  go_ret
  exact ⟨rfl, rfl⟩
end Go.Proofs.Ytjeaimdnddelpaa
namespace Go.Proofs.Ytjeaimdnddelpaa
/-- Is the list a set? -/
def SetL (l : List Int) : Prop := (∀ i, i < l.length → 0 ≤ l.getD i 0 ∧ l.getD i 0 ≤ 23) ∧ ∀ i, i + 1 < l.length → l.getD i 0 < l.getD (i + 1) 0
/-- The same as a test. -/
def setB (l : List Int) : Bool := (List.range l.length).all fun i => decide (0 ≤ l.getD i 0) && decide (l.getD i 0 ≤ 23) && (decide (i = 0) || decide (l.getD (i - 1) 0 < l.getD i 0))
theorem setB_iff (l : List Int) : setB l = true ↔ SetL l := by
  unfold setB SetL
  rw [List.all_eq_true]
  simp only [List.mem_range, Bool.and_eq_true, Bool.or_eq_true, decide_eq_true_eq]
  constructor
  · intro h
    refine ⟨fun i hi => (h i hi).1, fun i hi => ?_⟩
    rcases (h (i + 1) hi).2 with h1 | h1
    · omega
    · simpa using h1
  · rintro ⟨h1, h2⟩ i hi
    refine ⟨h1 i hi, ?_⟩
    by_cases e : i = 0
    · exact Or.inl e
    · right
      have := h2 (i - 1) (by omega)
      rwa [show i - 1 + 1 = i by omega] at this
theorem setB_no {l : List Int} (h : ¬ SetL l) : setB l = false := by
  cases e : setB l with
  | false => rfl
  | true => exact absurd ((setB_iff l).1 e) h
/-- As far as k the list is a set. -/
def SetTo (l : List Int) (k : Nat) : Prop := (∀ i, i < k → 0 ≤ l.getD i 0 ∧ l.getD i 0 ≤ 23) ∧ ∀ i, i + 1 < k → l.getD i 0 < l.getD (i + 1) 0
theorem setTo_all (l : List Int) : SetTo l l.length ↔ SetL l := Iff.rfl
theorem setTo_step {l : List Int} {k : Nat} (h : SetTo l k) (h0 : 0 ≤ l.getD k 0) (h1 : l.getD k 0 ≤ 23) (h2 : 0 < k → l.getD (k - 1) 0 < l.getD k 0) : SetTo l (k + 1) := by
  refine ⟨fun i hi => ?_, fun i hi => ?_⟩
  · by_cases e : i = k
    · subst e; exact ⟨h0, h1⟩
    · exact h.1 i (by omega)
  · by_cases e : i + 1 = k
    · subst e; have := h2 (by omega); simpa using this
    · exact h.2 i (by omega)
theorem not_set_range {l : List Int} {k : Nat} (hk : k < l.length) (h : ¬ (0 ≤ l.getD k 0 ∧ l.getD k 0 ≤ 23)) : ¬ SetL l := fun g => h (g.1 k hk)
theorem not_set_order {l : List Int} {k : Nat} (hk : k < l.length) (h0 : 0 < k) (h : ¬ l.getD (k - 1) 0 < l.getD k 0) : ¬ SetL l := fun g => by
  have := g.2 (k - 1) (by omega)
  rw [show k - 1 + 1 = k by omega] at this
  exact h this
end Go.Proofs.Ytjeaimdnddelpaa
namespace Go.Proofs.Ytjeaimdnddelpaa
open Go.RowKit
set_option linter.unusedVariables false
theorem ret_b {b c : Bool} (h : b = c) : Ending.returned (.bool b) = .returned (.bool c) := by rw [h]
theorem in_yes (a l h : Int) (w : World) (h1 : l ≤ a) (h2 : a ≤ h) : Calls Try.prog 12 #[.int .i64 a, .int .i64 l, .int .i64 h] w fun e w' => e = .returned (.bool true) ∧ w' = w := by
  go_enter Try.func12, Try.ntmps12
  go_wp2
  go_ret
  exact ⟨rfl, rfl⟩
theorem in_no (a l h : Int) (w : World) (hh : ¬ (l ≤ a ∧ a ≤ h)) : Calls Try.prog 12 #[.int .i64 a, .int .i64 l, .int .i64 h] w fun e w' => e = .returned (.bool false) ∧ w' = w := by
  by_cases h1 : l ≤ a
  · have h2 : ¬ a ≤ h := by omega
    clear hh
    go_enter Try.func12, Try.ntmps12
    go_wp2
    go_ret
    exact ⟨rfl, rfl⟩
  · clear hh
    go_enter Try.func12, Try.ntmps12
    go_wp2
    go_ret
    exact ⟨rfl, rfl⟩
/-! ### HasMember -/
/-! ### IsSet -/
set_option maxHeartbeats 1000000 in
set_option maxRecDepth 100000 in
theorem specIsSetBig (v : Value) (xs : List Int) (w : World) (h : Ints w v xs) (hn : xs.length ≤ 1073741824) :
    Calls Try.prog 23 #[v] w fun e w' => e = .returned (.bool (setB xs)) ∧ Below w.heap.size w w' := by
  have H := Lib.hid h
  obtain ⟨a, cap, rfl⟩ := ints_len h
  clear h
  go_enter Try.func23, Try.ntmps23
  go_wp2
  go_loopw [3] (fun i wr => ∃ k : Nat, k ≤ xs.length ∧ i = .int .i64 k ∧ Hid (SetTo xs k) ∧ Below w.heap.size w wr) (fun i _ => xs.length - (intOf i).toNat)
  case atStart => exact ⟨0, Nat.zero_le _, rfl, Lib.hid ⟨fun i hi => by omega, fun i hi => by omega⟩, Below.refl _ _⟩
  case round =>
    obtain ⟨k, hk, rfl, hset, hbel⟩ := hrel
    by_cases hlt : k < xs.length
    · obtain ⟨b, off, cap', hv, hbl, hc⟩ := ints_cell H.out (by omega)
      simp only [Value.slice.injEq] at hv
      obtain ⟨rfl, _, rfl⟩ := hv
      have hcell := (hbel.cell (p := ⟨b, off + k, none⟩) hbl).trans (hc k hlt)
      have i1 : (0 : Int) ≤ (k : Int) := by omega
      have i2 : (k : Int) < (xs.length : Int) := by omega
      by_cases hin : 0 ≤ xs.getD k 0 ∧ xs.getD k 0 ≤ 23
      · by_cases hz : k = 0
        · have HS : Hid (SetTo xs (k + 1)) := Lib.hid (setTo_step hset.out hin.1 hin.2 (fun g => by omega))
          obtain ⟨g0, g1⟩ := hin
          have hd : decide (0 < k) = false := by simp [hz]
          have hd2 : decide ((0 : Int) < (k : Int)) = false := by simp [hz]
          clear hc hz
          generalize xs.getD k 0 = y at hcell g0 g1
          go_wp2
          go_quiet ((go_at_call 12; exact Calls.quiet_of_same (in_yes _ _ _ _ (by omega) (by omega))))
          go_wp2
          go_roundw
          case rel => exact ⟨k + 1, by omega, by go_num, HS, below_same hbel rfl rfl rfl rfl⟩
          case measure => simp [intOf]; omega
        · have hcellp := (hbel.cell (p := ⟨b, off + (k - 1), none⟩) hbl).trans (hc (k - 1) (by omega))
          obtain ⟨g0, g1⟩ := hin
          have hd : 0 < k := by omega
          have i3 : (0 : Int) ≤ (k : Int) - 1 := by omega
          have i4 : (k : Int) - 1 < (xs.length : Int) := by omega
          have i5 : ((k : Int) - 1).toNat = k - 1 := by omega
          have e1 : IntKind.i64.wrap ((k : Int) - 1) = (k : Int) - 1 := IntWalk.i64_in _ (by omega)
          by_cases hle : xs.getD k 0 ≤ xs.getD (k - 1) 0
          · have HNO := Lib.hid (setB_no (not_set_order hlt hd (by omega)))
            clear hc hz
            generalize xs.getD (k - 1) 0 = z at hcellp hle
            generalize xs.getD k 0 = y at hcell g0 g1 hle
            have hdl : decide (y ≤ z) = true := decide_eq_true hle
            go_wp2
            go_quiet ((go_at_call 12; exact Calls.quiet_of_same (in_yes _ _ _ _ (by omega) (by omega))))
            go_wp2
            go_ret
            exact ⟨ret_b HNO.out.symm, below_same hbel rfl rfl rfl rfl⟩
          · have HS : Hid (SetTo xs (k + 1)) := Lib.hid (setTo_step hset.out g0 g1 (fun _ => by omega))
            clear hc hz
            generalize xs.getD (k - 1) 0 = z at hcellp hle
            generalize xs.getD k 0 = y at hcell g0 g1 hle
            have hdl : decide (y ≤ z) = false := decide_eq_false hle
            go_wp2
            go_quiet ((go_at_call 12; exact Calls.quiet_of_same (in_yes _ _ _ _ (by omega) (by omega))))
            go_wp2
            go_roundw
            case rel => exact ⟨k + 1, by omega, by go_num, HS, below_same hbel rfl rfl rfl rfl⟩
            case measure => simp [intOf]; omega
      · have HNO := Lib.hid (setB_no (not_set_range hlt hin))
        clear hc
        generalize xs.getD k 0 = y at hcell hin
        have HI := Lib.hid hin
        clear hin
        go_wp2
        go_quiet ((go_at_call 12; exact Calls.quiet_of_same (in_no _ _ _ _ HI.out)))
        go_wp2
        go_ret
        exact ⟨ret_b HNO.out.symm, below_same hbel rfl rfl rfl rfl⟩
    · obtain rfl : k = xs.length := by omega
      have HY := Lib.hid ((setB_iff xs).2 hset.out)
      go_wp2
      go_ret
      exact ⟨ret_b HY.out.symm, hbel⟩
theorem specIsSet (v : Value) (xs : List Int) (w : World) (h : Ints w v xs) (hn : xs.length ≤ 1048576) :
    Calls Try.prog 23 #[v] w fun e w' => e = .returned (.bool (setB xs)) ∧ Below w.heap.size w w' := specIsSetBig v xs w h (by omega)
end Go.Proofs.Ytjeaimdnddelpaa
namespace Go.Proofs.Ytjeaimdnddelpaa
open Go.RowKit
set_option linter.unusedVariables false
/-- Is it a row? -/
def rowB (r : RowD) : Bool := decide (0 ≤ r.1 ∧ r.1 ≤ 999) && (r.2.all (fun x => decide (0 ≤ x ∧ x ≤ 99)) && decide (r.2.length = 3))
end Go.Proofs.Ytjeaimdnddelpaa
namespace Go.Proofs.Ytjeaimdnddelpaa
open Go.RowKit
set_option linter.unusedVariables false
/-- The slice v reads as the rows rs; vs: where their values lie. -/
def RowsR (w : World) (v : Value) (rs : List RowD) : Prop :=
  (rs = [] ∧ ∃ a cap, v = .slice a 0 cap) ∨ ∃ (b off cap : Nat) (vs : Nat → Value), v = .slice (some ⟨b, off, none⟩) rs.length cap ∧ rs.length ≤ cap ∧ b < w.heap.size ∧
    ∀ j, j < rs.length → w.cell? ⟨b, off + j * 2, none⟩ = some (.int .i64 (rs.getD j (0, [])).1) ∧ w.cell? ⟨b, off + j * 2 + 1, none⟩ = some (vs j) ∧ Ints w (vs j) (rs.getD j (0, [])).2
end Go.Proofs.Ytjeaimdnddelpaa
namespace Go.Proofs.Ytjeaimdnddelpaa
open Go.RowKit
set_option linter.unusedVariables false
end Go.Proofs.Ytjeaimdnddelpaa
namespace Go.Proofs.Ytjeaimdnddelpaa
open Go.RowKit
set_option linter.unusedVariables false
theorem below_drew {B : Nat} {a w : World} (h : Below B a w) : Below B a w.drew := ⟨h.os, h.tape, h.output, h.size, h.block⟩
end Go.Proofs.Ytjeaimdnddelpaa
namespace Go.Proofs.Ytjeaimdnddelpaa
open Go.RowKit
set_option linter.unusedVariables false
end Go.Proofs.Ytjeaimdnddelpaa
namespace Go.Proofs.Ytjeaimdnddelpaa
open Go.RowKit
set_option linter.unusedVariables false
end Go.Proofs.Ytjeaimdnddelpaa
namespace Go.Proofs.Ytjeaimdnddelpaa
open Go.RowKit
set_option linter.unusedVariables false
theorem take_runs {P : Program} {ops : Array Oper} {Q : Exit → Act → World → Prop} {md : Region.Mode} {S : World → Prop} {i : Nat} {oi : Oper} {d : Option Tmp} {v : Value} {fuel : Nat} {listed : Array Bool} {a : Act} {w : World} (hi : ops[i]? = some oi)
    (hs : Region.noSelect ops = true) (hf : Region.free md ops listed i = true) (hr : (Region.ready md ops listed).contains i = true) (hd : oi.dst = d)
    (hQ : ∀ c a w, Q (.panic c) (a.put oi.dst v) w → Q (.panic c) a w) (hw : Region.wanted oi (yielded ops a.tmps) = true) (hy : ∀ w, S w → (execOp a.eval oi).run P w = .ok (.value v) w) (hS : S w)
    (h : wpAnyH P md ops Q S fuel (listed.setIfInBounds i true) (a.put d v) w) : wpAnyH P md ops Q S (fuel + 1) listed a w := by
  subst hd
  exact wpAnyH_take hi hs hf hr hQ (Or.inl ⟨hw, hy⟩) hS h
theorem take_over {P : Program} {ops : Array Oper} {Q : Exit → Act → World → Prop} {md : Region.Mode} {S : World → Prop} {i : Nat} {oi : Oper} {d : Option Tmp} {fuel : Nat} {listed : Array Bool} {a : Act} {w : World} (hi : ops[i]? = some oi)
    (hs : Region.noSelect ops = true) (hf : Region.free md ops listed i = true) (hr : (Region.ready md ops listed).contains i = true) (hd : oi.dst = d)
    (hQ : ∀ c a w, Q (.panic c) (a.put oi.dst undef) w → Q (.panic c) a w) (hw : Region.wanted oi (yielded ops a.tmps) = false) (hS : S w)
    (h : wpAnyH P md ops Q S fuel (listed.setIfInBounds i true) (a.put d undef) w) : wpAnyH P md ops Q S (fuel + 1) listed a w := by
  subst hd
  exact wpAnyH_take hi hs hf hr hQ (Or.inr ⟨hw, rfl⟩) hS h
end Go.Proofs.Ytjeaimdnddelpaa
namespace Go.Proofs.Ytjeaimdnddelpaa
open Go.RowKit
set_option linter.unusedVariables false
set_option linter.unusedSimpArgs false
end Go.Proofs.Ytjeaimdnddelpaa
namespace Go.Proofs.Ytjeaimdnddelpaa
open Go.RowKit
set_option linter.unusedVariables false
set_option linter.unusedSimpArgs false
end Go.Proofs.Ytjeaimdnddelpaa
namespace Go.Proofs.Ytjeaimdnddelpaa
open Go.RowKit
set_option linter.unusedVariables false
end Go.Proofs.Ytjeaimdnddelpaa
namespace Go.Proofs.Ytjeaimdnddelpaa
open Go.RowKit
set_option linter.unusedVariables false
set_option linter.unusedSimpArgs false
end Go.Proofs.Ytjeaimdnddelpaa
namespace Go.Proofs.Ytjeaimdnddelpaa
open Go.RowKit
set_option linter.unusedVariables false
/-- Only blocks from B up to hi have turned. -/
structure Only (B hi : Nat) (w w' : World) : Prop where
  os : w'.os = w.os
  tape : w'.tape = w.tape
  output : w'.output = w.output
  size : w.heap.size ≤ w'.heap.size
  block : ∀ k, k < w.heap.size → (k < B ∨ hi ≤ k) → w'.heap[k]? = w.heap[k]?
theorem Only.refl (B hi : Nat) (w : World) : Only B hi w w := ⟨rfl, rfl, rfl, Nat.le_refl _, fun _ _ _ => rfl⟩
theorem Only.trans {B hi : Nat} {a b c : World} (h : Only B hi a b) (k : Only B hi b c) : Only B hi a c :=
  ⟨k.os.trans h.os, k.tape.trans h.tape, k.output.trans h.output, Nat.le_trans h.size k.size, fun i hi' hn => (k.block i (Nat.lt_of_lt_of_le hi' h.size) hn).trans (h.block i hi' hn)⟩
end Go.Proofs.Ytjeaimdnddelpaa
namespace Go.Proofs.Ytjeaimdnddelpaa
open Go.RowKit
set_option linter.unusedVariables false
end Go.Proofs.Ytjeaimdnddelpaa
namespace Go.Proofs.Ytjeaimdnddelpaa
open Go.RowKit
set_option linter.unusedVariables false
end Go.Proofs.Ytjeaimdnddelpaa
namespace Go.Proofs.Ytjeaimdnddelpaa
open Go.RowKit
set_option linter.unusedVariables false
set_option linter.unusedSimpArgs false
/-- A version: its number, values, birth and death. -/
abbrev VerD := Int × List Int × Int × Int
def v0D : VerD := (0, [], 0, 0)
def visP (born died t : Int) : Prop := born ≤ t ∧ (died = -1 ∨ t < died)
instance (a b c : Int) : Decidable (visP a b c) := by unfold visP; infer_instance
def lifeP (born died now : Int) : Prop := 0 ≤ born ∧ born ≤ now ∧ (died = -1 ∨ born < died ∧ died ≤ now)
instance (a b c : Int) : Decidable (lifeP a b c) := by unfold lifeP; infer_instance
def verB (v : VerD) (now : Int) : Bool := rowB (v.1, v.2.1) && decide (lifeP v.2.2.1 v.2.2.2 now)
def apartP (i1 b1 d1 i2 b2 d2 : Int) : Prop := i1 ≠ i2 ∨ (d1 ≠ -1 ∧ d1 ≤ b2) ∨ (d2 ≠ -1 ∧ d2 ≤ b1)
instance (a b c d e f : Int) : Decidable (apartP a b c d e f) := by unfold apartP; infer_instance
def apartB (a b : VerD) : Bool := decide (apartP a.1 a.2.2.1 a.2.2.2 b.1 b.2.2.1 b.2.2.2)
/-- Two valid versions are apart iff they are not seen together when the later one is born. -/
def seenP (i1 b1 d1 i2 b2 d2 : Int) : Prop := i1 = i2 ∧ visP b1 d1 (max b1 b2) ∧ visP b2 d2 (max b1 b2)
instance (a b c d e f : Int) : Decidable (seenP a b c d e f) := by unfold seenP; infer_instance
/-- The first n versions are valid and apart. -/
def VersP (l : List VerD) (now : Int) (n : Nat) : Prop := ∀ i, i < n → verB (l.getD i v0D) now = true ∧ ∀ k, k < i → apartB (l.getD i v0D) (l.getD k v0D) = true
instance (l : List VerD) (now : Int) (n : Nat) : Decidable (VersP l now n) := by unfold VersP; infer_instance
def ShortP (ss : List (List VerD)) (n : Nat) : Prop := ∀ i, i < n → (ss.getD i []).length ≤ 4
instance (ss : List (List VerD)) (n : Nat) : Decidable (ShortP ss n) := by unfold ShortP; infer_instance
def storeP (ss : List (List VerD)) (now : Int) : Prop := ((1 ≤ ss.length ∧ ss.length ≤ 8) ∧ (0 ≤ now ∧ now ≤ 100000)) ∧ ShortP ss ss.length ∧ VersP ss.flatten now ss.flatten.length
instance (ss : List (List VerD)) (now : Int) : Decidable (storeP ss now) := by unfold storeP; infer_instance
def storeB (ss : List (List VerD)) (now : Int) : Bool := decide (storeP ss now)
end Go.Proofs.Ytjeaimdnddelpaa
namespace Go.Proofs.Ytjeaimdnddelpaa
open Go.RowKit
set_option linter.unusedVariables false
set_option linter.unusedSimpArgs false
/-- An update: its kind, row, field and value. -/
abbrev UpdD := Int × (Int × List Int) × Int × Int
def insP (u : UpdD) : Prop := u.1 = 1 ∧ rowB u.2.1 = true ∧ u.2.2.1 = 0 ∧ u.2.2.2 = 0
def delP (u : UpdD) : Prop := u.1 = 2 ∧ (0 ≤ u.2.1.1 ∧ u.2.1.1 ≤ 999) ∧ u.2.1.2.length = 0 ∧ u.2.2.1 = 0 ∧ u.2.2.2 = 0
def setP (u : UpdD) : Prop := u.1 = 3 ∧ (0 ≤ u.2.1.1 ∧ u.2.1.1 ≤ 999) ∧ u.2.1.2.length = 0 ∧ (0 ≤ u.2.2.1 ∧ u.2.2.1 ≤ 2) ∧ (0 ≤ u.2.2.2 ∧ u.2.2.2 ≤ 99)
instance (u : UpdD) : Decidable (insP u) := by unfold insP; infer_instance
instance (u : UpdD) : Decidable (delP u) := by unfold delP; infer_instance
instance (u : UpdD) : Decidable (setP u) := by unfold setP; infer_instance
def updB (u : UpdD) : Bool := decide (insP u) || (decide (delP u) || decide (setP u))
/- Where the living version of a row lies, and where there is room. -/
def aliveB (id : Int) (v : VerD) : Bool := decide (v.1 = id ∧ v.2.2.2 = -1)
def hasB (id : Int) (l : List VerD) : Bool := l.any (aliveB id)
def segI (ss : List (List VerD)) (id : Int) : Nat := ss.findIdx (hasB id)
def freeB (l : List VerD) : Bool := decide (l.length < 4)
def roomI (ss : List (List VerD)) : Nat := ss.findIdx freeB
/- What an update makes. -/
def okP (ss : List (List VerD)) (now : Int) (u : UpdD) : Prop := storeB ss now = true ∧ updB u = true ∧ now < 100000 ∧ (u.1 = 1 ↔ ¬ segI ss u.2.1.1 < ss.length) ∧ (u.1 ≠ 2 → roomI ss < ss.length)
instance (ss : List (List VerD)) (now : Int) (u : UpdD) : Decidable (okP ss now u) := by unfold okP; infer_instance
abbrev StoreD := List (List VerD) × Int
/- A store stays valid. -/
/- Reclaiming. -/
end Go.Proofs.Ytjeaimdnddelpaa
namespace Go.Proofs.Ytjeaimdnddelpaa
open Go.RowKit
set_option linter.unusedVariables false
/-- A condition: field, low, high. -/
abbrev CondD := Int × Int × Int
/-- The slice v reads as the conditions cs. -/
def CondsR (w : World) (v : Value) (cs : List CondD) : Prop :=
  (cs = [] ∧ ∃ a cap, v = .slice a 0 cap) ∨ ∃ b off cap, v = .slice (some ⟨b, off, none⟩) cs.length cap ∧ cs.length ≤ cap ∧ b < w.heap.size ∧ ∀ j, j < cs.length →
    w.cell? ⟨b, off + j * 3, none⟩ = some (.int .i64 (cs.getD j (0, 0, 0)).1) ∧ w.cell? ⟨b, off + j * 3 + 1, none⟩ = some (.int .i64 (cs.getD j (0, 0, 0)).2.1) ∧ w.cell? ⟨b, off + j * 3 + 2, none⟩ = some (.int .i64 (cs.getD j (0, 0, 0)).2.2)
end Go.Proofs.Ytjeaimdnddelpaa
namespace Go.Proofs.Ytjeaimdnddelpaa
open Go.RowKit
set_option linter.unusedVariables false
set_option linter.unusedSimpArgs false
def condB (c : CondD) : Bool := decide (0 ≤ c.1 ∧ c.1 ≤ 2) && (decide (0 ≤ c.2.1 ∧ c.2.1 ≤ c.2.2) && decide (c.2.2 ≤ 99))
end Go.Proofs.Ytjeaimdnddelpaa
namespace Go.Proofs.Ytjeaimdnddelpaa
open Go.RowKit
set_option linter.unusedVariables false
set_option linter.unusedSimpArgs false
end Go.Proofs.Ytjeaimdnddelpaa
namespace Go.Proofs.Ytjeaimdnddelpaa
open Go.RowKit
set_option linter.unusedVariables false
set_option linter.unusedSimpArgs false
abbrev c0D : CondD := (0, 0, 0)
def condsB (cs : List CondD) : Bool := (List.range cs.length).all (fun i => condB (cs.getD i c0D) && (decide (i = 0) || decide ((cs.getD (i - 1) c0D).1 < (cs.getD i c0D).1)))
def fieldsB (os : List Int) : Bool := os.all (fun x => decide (0 ≤ x ∧ x ≤ 2)) && decide (1 ≤ os.length ∧ os.length ≤ 3)
def queryB (id tn : Int) (cs : List CondD) (os : List Int) : Bool := condsB cs && (decide (0 ≤ id ∧ id ≤ 23) && (decide (0 ≤ tn ∧ tn ≤ 3) && (decide (cs.length ≤ 3) && fieldsB os)))
end Go.Proofs.Ytjeaimdnddelpaa
namespace Go.Proofs.Ytjeaimdnddelpaa
open Go.RowKit
set_option linter.unusedVariables false
set_option linter.unusedSimpArgs false
/-- A query's data: number, tenant, conditions, fields. -/
abbrev QD := Int × Int × List CondD × List Int
def q0D : QD := (0, 0, [], [])
/-- The slice v reads as the queries qs. -/
def QueriesR (w : World) (v : Value) (qs : List QD) : Prop :=
  (qs = [] ∧ ∃ a cap, v = .slice a 0 cap) ∨ ∃ (b off cap : Nat) (vs us : Nat → Value), v = .slice (some ⟨b, off, none⟩) qs.length cap ∧ qs.length ≤ cap ∧ b < w.heap.size ∧
    ∀ j, j < qs.length → w.cell? ⟨b, off + j * 4, none⟩ = some (.int .i64 (qs.getD j q0D).1) ∧ w.cell? ⟨b, off + j * 4 + 1, none⟩ = some (.int .i64 (qs.getD j q0D).2.1) ∧ w.cell? ⟨b, off + j * 4 + 2, none⟩ = some (vs j) ∧ w.cell? ⟨b, off + j * 4 + 3, none⟩ = some (us j) ∧
      CondsR w (vs j) (qs.getD j q0D).2.2.1 ∧ Ints w (us j) (qs.getD j q0D).2.2.2
end Go.Proofs.Ytjeaimdnddelpaa
namespace Go.Proofs.Ytjeaimdnddelpaa
open Go.RowKit
set_option linter.unusedVariables false
set_option linter.unusedSimpArgs false
end Go.Proofs.Ytjeaimdnddelpaa
namespace Go.Proofs.Ytjeaimdnddelpaa
open Go.RowKit
set_option linter.unusedVariables false
set_option linter.unusedSimpArgs false
end Go.Proofs.Ytjeaimdnddelpaa
namespace Go.Proofs.Ytjeaimdnddelpaa
open Go.RowKit
set_option linter.unusedVariables false
set_option linter.unusedSimpArgs false
end Go.Proofs.Ytjeaimdnddelpaa
namespace Go.Proofs.Ytjeaimdnddelpaa
open Go.RowKit
set_option linter.unusedVariables false
end Go.Proofs.Ytjeaimdnddelpaa
namespace Go.Proofs.Ytjeaimdnddelpaa
open Go.RowKit
set_option linter.unusedVariables false
end Go.Proofs.Ytjeaimdnddelpaa
namespace Go.Proofs.Ytjeaimdnddelpaa
open Go.RowKit
set_option linter.unusedVariables false
set_option linter.unusedSimpArgs false
end Go.Proofs.Ytjeaimdnddelpaa
namespace Go.Proofs.Ytjeaimdnddelpaa
open Go.RowKit
end Go.Proofs.Ytjeaimdnddelpaa
namespace Go.Proofs.Ytjeaimdnddelpaa
open Go.RowKit
set_option linter.unusedVariables false
set_option linter.unusedSimpArgs false
end Go.Proofs.Ytjeaimdnddelpaa
namespace Go.Proofs.Ytjeaimdnddelpaa
open Go.RowKit
set_option linter.unusedVariables false
/-- Does the order hold each field once? -/
def orderB (os : List Int) : Bool := decide (os.length = 3) && (List.range os.length).all fun i => decide (0 ≤ os.getD i 0 ∧ os.getD i 0 ≤ 2) && !decide (os.getD i 0 ∈ os.take i)
end Go.Proofs.Ytjeaimdnddelpaa
namespace Go.Proofs.Ytjeaimdnddelpaa
open Go.RowKit
set_option linter.unusedVariables false
set_option linter.unusedSimpArgs false
abbrev ChargeD := Int × Int × List Int × List Int × List Int
abbrev ActD := QD × Int × List Int × Int × Int × Int × List RowD
abbrev FinD := QD × Int × Int × List RowD
abbrev EngD := StoreD × Int × List Int × List ActD × List FinD × List ChargeD × Int
def x0D : ChargeD := (0, 0, [], [], [])
def a0D : ActD := (q0D, 0, [], 0, 0, 0, [])
/- All of a list. -/
theorem allB_at {α : Type} {p : α → Bool} {l : List α} (d : α) (h : l.all p = true) {k : Nat} (hk : k < l.length) : p (l.getD k d) = true := by
  rw [List.all_eq_true] at h
  have e : l.getD k d = l[k] := by simp [List.getD, hk]
  rw [e]; exact h _ (List.getElem_mem hk)
theorem allB_no {α : Type} {p : α → Bool} {l : List α} (d : α) {k : Nat} (hk : k < l.length) (h : p (l.getD k d) = false) : l.all p = false := by
  rw [← Bool.not_eq_true]
  intro g
  have := allB_at d g hk
  rw [h] at this; cases this
theorem allB_yes {α : Type} {p : α → Bool} {l : List α} (d : α) (h : ∀ i, i < l.length → p (l.getD i d) = true) : l.all p = true := by
  rw [List.all_eq_true]
  intro x hx
  obtain ⟨i, hi, rfl⟩ := List.getElem_of_mem hx
  have := h i hi
  have e : l.getD i d = l[i] := by simp [List.getD, hi]
  rw [e] at this; exact this
def AllTo {α : Type} (p : α → Bool) (d : α) (l : List α) (k : Nat) : Prop := ∀ i, i < k → p (l.getD i d) = true
theorem allTo_step {α : Type} {p : α → Bool} {d : α} {l : List α} {k : Nat} (h : AllTo p d l k) (g : p (l.getD k d) = true) : AllTo p d l (k + 1) := fun i hi => by
  by_cases e : i = k
  · subst e; exact g
  · exact h i (by omega)
theorem allTo_zero {α : Type} (p : α → Bool) (d : α) (l : List α) : AllTo p d l 0 := fun i hi => absurd hi (Nat.not_lt_zero i)
/- What is valid. -/
def chargeHP (x : ChargeD) : Prop := (1 ≤ x.2.2.1.length ∧ x.2.2.1.length ≤ 8) ∧ (x.2.2.2.1.length = x.2.2.1.length ∧ x.2.2.2.2.length = x.2.2.1.length) ∧ (0 ≤ x.1 ∧ x.1 ≤ 7) ∧ (0 ≤ x.2.1 ∧ x.2.1 ≤ 4)
instance (x : ChargeD) : Decidable (chargeHP x) := by unfold chargeHP; infer_instance
def tenB (t : Int) : Bool := decide (0 ≤ t ∧ t ≤ 3)
def getB (b r : Int) : Bool := decide (0 ≤ r ∧ r ≤ b)
def chargeB (x : ChargeD) : Bool := (setB x.2.2.1 && decide (chargeHP x)) && (x.2.2.2.1.all tenB && x.2.2.2.2.all (getB x.2.1))
theorem charge_no1 {x : ChargeD} (h : setB x.2.2.1 = false) : chargeB x = false := by unfold chargeB; rw [h]; rfl
theorem charge_no2 {x : ChargeD} (h : ¬ chargeHP x) : chargeB x = false := by unfold chargeB; rw [decide_eq_false h]; simp
theorem charge_no3 {x : ChargeD} (h : x.2.2.2.1.all tenB = false) : chargeB x = false := by unfold chargeB; rw [h]; simp
theorem charge_no4 {x : ChargeD} (h : x.2.2.2.2.all (getB x.2.1) = false) : chargeB x = false := by unfold chargeB; rw [h]; simp
theorem charge_yes {x : ChargeD} (h1 : setB x.2.2.1 = true) (h2 : chargeHP x) (h3 : x.2.2.2.1.all tenB = true) (h4 : x.2.2.2.2.all (getB x.2.1) = true) : chargeB x = true := by unfold chargeB; rw [h1, decide_eq_true h2, h3, h4]; rfl
def TodoTo (l : List Int) (n : Nat) (k : Nat) : Prop := ∀ i, i < k → (0 ≤ l.getD i 0 ∧ l.getD i 0 < n) ∧ (0 < i → l.getD (i - 1) 0 < l.getD i 0)
instance (l : List Int) (n k : Nat) : Decidable (TodoTo l n k) := by unfold TodoTo; infer_instance
def todoP (l : List Int) (n : Nat) : Prop := 1 ≤ l.length ∧ TodoTo l n l.length
instance (l : List Int) (n : Nat) : Decidable (todoP l n) := by unfold todoP; infer_instance
def todoB (l : List Int) (n : Nat) : Bool := decide (todoP l n)
def listB (l : List RowD) : Bool := decide (l.length ≤ 1000) && l.all rowB
def qdB (q : QD) : Bool := queryB q.1 q.2.1 q.2.2.1 q.2.2.2
def actHP (s : StoreD) (a : ActD) : Prop := (0 ≤ a.2.1 ∧ a.2.1 ≤ s.2) ∧ (0 ≤ a.2.2.2.1 ∧ a.2.2.2.1 ≤ 100000) ∧ (0 ≤ a.2.2.2.2.1 ∧ a.2.2.2.2.1 ≤ 1000) ∧ (0 ≤ a.2.2.2.2.2.1 ∧ a.2.2.2.2.2.1 ≤ 32)
instance (s : StoreD) (a : ActD) : Decidable (actHP s a) := by unfold actHP; infer_instance
def actB (s : StoreD) (a : ActD) : Bool := (qdB a.1 && decide (actHP s a)) && (todoB a.2.2.1 s.1.length && listB a.2.2.2.2.2.2)
def finHP (now : Int) (d : FinD) : Prop := (0 ≤ d.2.1 ∧ d.2.1 ≤ now) ∧ (0 ≤ d.2.2.1 ∧ d.2.2.1 ≤ 100000)
instance (now : Int) (d : FinD) : Decidable (finHP now d) := by unfold finHP; infer_instance
def finB (now : Int) (d : FinD) : Bool := (qdB d.1 && decide (finHP now d)) && listB d.2.2.2
def ActsTo (s : StoreD) (l : List ActD) (k : Nat) : Prop := ∀ i, i < k → actB s (l.getD i a0D) = true ∧ (0 < i → (l.getD (i - 1) a0D).1.1 < (l.getD i a0D).1.1)
instance (s : StoreD) (l : List ActD) (k : Nat) : Decidable (ActsTo s l k) := by unfold ActsTo; infer_instance
def actsB (s : StoreD) (l : List ActD) : Bool := decide (ActsTo s l l.length)
def engHP (e : EngD) : Prop := (0 ≤ e.2.1 ∧ e.2.1 < e.1.1.length) ∧ e.2.2.2.1.length ≤ 8 ∧ (0 ≤ e.2.2.2.2.2.2 ∧ e.2.2.2.2.2.2 ≤ 100000) ∧ e.2.2.2.2.1.length ≤ 1000 ∧ e.2.2.2.2.2.1.length ≤ 1000
instance (e : EngD) : Decidable (engHP e) := by unfold engHP; infer_instance
def engB (e : EngD) : Bool := (storeB e.1.1 e.1.2 && (decide (engHP e) && orderB e.2.2.1)) && (actsB e.1 e.2.2.2.1 && (e.2.2.2.2.1.all (finB e.1.2) && e.2.2.2.2.2.1.all chargeB))
/- A new engine. -/
/- The active query with a number. -/
def hasA (id : Int) (a : ActD) : Bool := decide (a.1.1 = id)
def findA (l : List ActD) (id : Int) : Int := if l.findIdx (hasA id) < l.length then (l.findIdx (hasA id) : Int) else -1
/- Admission: the new query comes before the first with a greater number. -/
def limB (c : Int) : Bool := decide (0 ≤ c ∧ c ≤ 32)
def admitP (e : EngD) (q : QD) (c : Int) : Prop := engB e = true ∧ qdB q = true ∧ limB c = true ∧ findA e.2.2.2.1 q.1 = -1 ∧ e.2.2.2.1.length < 8
instance (e : EngD) (q : QD) (c : Int) : Decidable (admitP e q c) := by unfold admitP; infer_instance
/- Cancellation, updates. -/
end Go.Proofs.Ytjeaimdnddelpaa
namespace Go.Proofs.Ytjeaimdnddelpaa
open Go.RowKit
set_option linter.unusedVariables false
set_option linter.unusedSimpArgs false
def accN (f : Nat → Int) : Nat → Int
  | 0 => 0
  | k + 1 => accN f k + f k
theorem accN_succ (f : Nat → Int) (k : Nat) : accN f (k + 1) = accN f k + f k := rfl
theorem accN_bdk {f : Nat → Int} {c : Int} {n : Nat} (h : ∀ i, i < n → 0 ≤ f i ∧ f i ≤ c) {k : Nat} (hk : k ≤ n) : 0 ≤ accN f k ∧ accN f k ≤ c * k := by
  induction k with
  | zero => exact ⟨Int.le_refl _, by simp [accN]⟩
  | succ k ih =>
    have := h k (by omega)
    have := ih (by omega)
    rw [accN_succ]
    have e : c * ((k + 1 : Nat) : Int) = c * (k : Int) + c := by rw [Int.natCast_add, Int.mul_add]; simp
    rw [e]; omega
/- What a valid charge is. -/
theorem charge_iff {x : ChargeD} (h : chargeB x = true) : setB x.2.2.1 = true ∧ chargeHP x ∧ x.2.2.2.1.all tenB = true ∧ x.2.2.2.2.all (getB x.2.1) = true := by
  unfold chargeB at h
  simp only [Bool.and_eq_true, decide_eq_true_eq] at h
  exact ⟨h.1.1, h.1.2, h.2.1, h.2.2⟩
theorem chg_row {x : ChargeD} (h : chargeB x = true) {i : Nat} (hi : i < x.2.2.2.2.length) : 0 ≤ x.2.2.2.2.getD i 0 ∧ x.2.2.2.2.getD i 0 ≤ x.2.1 := by
  have := allB_at (0 : Int) (charge_iff h).2.2.2 hi
  exact of_decide_eq_true this
/- The shares. -/
def rowI (x : ChargeD) (i : Nat) : Int := x.2.2.2.2.getD i 0
/- The work. -/
def workX (x : ChargeD) : Int := if chargeB x then x.2.1 + accN (rowI x) x.2.2.2.2.length else 0
theorem workX_yes {x : ChargeD} (h : chargeB x = true) : workX x = x.2.1 + accN (rowI x) x.2.2.2.2.length := by unfold workX; rw [if_pos h]
theorem workX_no {x : ChargeD} (h : chargeB x = false) : workX x = 0 := by unfold workX; rw [if_neg (by rw [h]; simp)]
theorem rows_sum {x : ChargeD} (h : chargeB x = true) {k : Nat} (hk : k ≤ x.2.2.2.2.length) : 0 ≤ accN (rowI x) k ∧ accN (rowI x) k ≤ 4 * k := by
  obtain ⟨_, ⟨_, ⟨_, h4⟩, _, h5, h6⟩, _, _⟩ := charge_iff h
  exact accN_bdk (n := x.2.2.2.2.length) (fun i hi => by have := chg_row h hi; unfold rowI; omega) hk
/- What a tenant pays. -/
/- What a coalition would cost. -/
/- What the closure answers. -/
/- Which tenants have been named. -/
end Go.Proofs.Ytjeaimdnddelpaa
namespace Go.Proofs.Ytjeaimdnddelpaa
open Go.RowKit
set_option linter.unusedVariables false
set_option linter.unusedSimpArgs false
def boundN (a : Int) : Int := if 1 ≤ a ∧ a ≤ 8 then 4 * (1 + a) else 0
theorem boundN_yes {a : Int} (h : 1 ≤ a ∧ a ≤ 8) : boundN a = 4 * (1 + a) := if_pos h
theorem boundN_no {a : Int} (h : ¬ (1 ≤ a ∧ a ≤ 8)) : boundN a = 0 := if_neg h
def worstTo (l : List ChargeD) : Nat → Int
  | 0 => 0
  | k + 1 => max (worstTo l k) (workX (l.getD k x0D))
theorem worstTo_succ (l : List ChargeD) (k : Nat) : worstTo l (k + 1) = max (worstTo l k) (workX (l.getD k x0D)) := rfl
def worstL (l : List ChargeD) : Int := worstTo l l.length
end Go.Proofs.Ytjeaimdnddelpaa
namespace Go.Proofs.Ytjeaimdnddelpaa
open Go.RowKit
set_option linter.unusedVariables false
set_option linter.unusedSimpArgs false
/-- Only blocks in G, of those that were there, have turned. -/
structure Turn (G : Nat → Prop) (w w' : World) : Prop where
  os : w'.os = w.os
  tape : w'.tape = w.tape
  output : w'.output = w.output
  size : w.heap.size ≤ w'.heap.size
  block : ∀ k, k < w.heap.size → ¬ G k → w'.heap[k]? = w.heap[k]?
theorem Turn.refl (G : Nat → Prop) (w : World) : Turn G w w := ⟨rfl, rfl, rfl, Nat.le_refl _, fun _ _ _ => rfl⟩
theorem Turn.trans {G : Nat → Prop} {a b c : World} (h : Turn G a b) (k : Turn G b c) : Turn G a c :=
  ⟨k.os.trans h.os, k.tape.trans h.tape, k.output.trans h.output, Nat.le_trans h.size k.size, fun i hi hn => (k.block i (Nat.lt_of_lt_of_le hi h.size) hn).trans (h.block i hi hn)⟩
theorem Turn.mono {G G' : Nat → Prop} {a b : World} (h : Turn G a b) (hg : ∀ k, G k → G' k) : Turn G' a b :=
  ⟨h.os, h.tape, h.output, h.size, fun i hi hn => h.block i hi (fun g => hn (hg i g))⟩
theorem turn_below {G : Nat → Prop} {w w' : World} (h : Below w.heap.size w w') : Turn G w w' := ⟨h.os, h.tape, h.output, h.size, fun k hk _ => h.block k hk⟩
theorem turn_set {G : Nat → Prop} {w : World} {g j : Nat} {u : Value} (h : G g) : Turn G w (w.setCell ⟨g, j, none⟩ u) :=
  ⟨rfl, rfl, rfl, by simp [World.setCell], fun k hk hn => Below.heap_setCell w _ u k (fun e => hn (by rw [e]; exact h))⟩
theorem below_turn {B : Nat} {G : Nat → Prop} {a w w' : World} (h : Below B a w) (k : Turn G w w') (hG : ∀ b, G b → B ≤ b) (hs : B ≤ w.heap.size) : Below B a w' :=
  h.trans ⟨k.os, k.tape, k.output, k.size, fun i hi => k.block i (by omega) (fun g => by have := hG i g; omega)⟩
theorem row_turn {w w' : World} {G : Nat → Prop} {B : Nat} {e : TypeId} {size : Nat} {u : Value} {n : Nat} {xs : List Value} (h : w.ownsRow B e size u n xs) (k : Turn G w w') (hd : ∀ b, u.ownBlock = some b → ¬ G b) : w'.ownsRow B e size u n xs := by
  refine ⟨h.1, ?_⟩
  rcases h.2 with hn | ⟨g, cap, cur, rfl, hb', hg, rest⟩
  · exact .inl hn
  · refine .inr ⟨g, cap, cur, rfl, hb', ?_, rest⟩
    rw [k.block g (Array.getElem?_eq_some_iff.1 hg).1 (hd g rfl)]
    exact hg
theorem row_low {w : World} {B C : Nat} {e : TypeId} {size : Nat} {v : Value} {n : Nat} {xs : List Value} (h : w.ownsRow C e size v n xs) (hb : B ≤ C) : w.ownsRow B e size v n xs := by
  refine ⟨h.1, ?_⟩
  rcases h.2 with hn | ⟨g, cap, cur, e, hb', rest⟩
  · exact .inl hn
  · exact .inr ⟨g, cap, cur, e, Nat.le_trans hb hb', rest⟩
theorem row_form {w : World} {B : Nat} {e : TypeId} {size : Nat} {v : Value} {n : Nat} {xs : List Value} (h : w.ownsRow B e size v n xs) : (v = .slice none 0 0 ∧ n = 0) ∨ ∃ g cap, v = .slice (some ⟨g, 0, none⟩) n cap ∧ g < w.heap.size := by
  rcases h.2 with h' | ⟨g, cap, cur, rfl, hb, hg, _⟩
  · exact .inl h'
  · exact .inr ⟨g, cap, rfl, (Array.getElem?_eq_some_iff.1 hg).1⟩
/-- A kind of data: how many cells; what is read; what is owned, in blocks of the set; size; marks (nd, md: in memory, numbers too; nv, mv: by value); lengths that a slice can have; how many numbers lie in the cells. -/
structure Ty (α : Type) where
  n : Nat
  d : α
  R : World → List Value → α → Prop
  O : World → (Nat → Prop) → List Value → α → Prop
  sz : α → Nat
  nd : α → Nat
  nv : α → Nat
  md : α → Int → α
  mv : α → Int → α
  ok : α → Prop
  s : Nat
structure Ty.Law {α : Type} (T : Ty α) : Prop where
  pos : 0 < T.n
  len : ∀ {w cs x}, T.R w cs x → cs.length = T.n
  below : ∀ {W w cs x}, T.R W cs x → Below W.heap.size W w → T.R w cs x
  reads : ∀ {w F cs x}, T.O w F cs x → T.R w cs x
  turn : ∀ {w w' F G cs x}, T.O w F cs x → Turn G w w' → (∀ b, F b → ¬ G b) → T.O w' F cs x
  mono : ∀ {w F F' cs x}, T.O w F cs x → (∀ b, F b → F' b) → T.O w F' cs x
  lt : ∀ {w F cs x}, T.O w F cs x → T.O w (fun b => F b ∧ b < w.heap.size) cs x
  nd_le : ∀ x, T.nd x ≤ 16 * T.sz x + T.s
  nv_le : ∀ x, T.nv x ≤ 16 * T.sz x
/- Numbers. -/
def tInt : Ty Int := { n := 1, d := 0, R := fun _ cs x => cs = [.int .i64 x], O := fun _ _ cs x => cs = [.int .i64 x], sz := fun _ => 0, nd := fun _ => 1, nv := fun _ => 0, md := fun _ k => k, mv := fun x _ => x, ok := fun _ => True, s := 1 }
theorem tInt_law : tInt.Law := ⟨by decide, fun h => by cases h; rfl, fun h _ => h, fun h => h, fun h _ _ => h, fun h _ => h, fun h => h, fun x => Nat.le_refl _, fun x => Nat.le_refl _⟩
/- Pairs. -/
def tPair {α β : Type} (a : Ty α) (b : Ty β) : Ty (α × β) where
  n := a.n + b.n
  d := (a.d, b.d)
  R := fun w cs p => ∃ c1 c2, cs = c1 ++ c2 ∧ a.R w c1 p.1 ∧ b.R w c2 p.2
  O := fun w F cs p => ∃ c1 c2 F1 F2, cs = c1 ++ c2 ∧ a.O w F1 c1 p.1 ∧ b.O w F2 c2 p.2 ∧ (∀ k, F1 k → F k) ∧ (∀ k, F2 k → F k) ∧ ∀ k, F1 k → ¬ F2 k
  sz := fun p => a.sz p.1 + b.sz p.2
  nd := fun p => a.nd p.1 + b.nd p.2
  nv := fun p => a.nv p.1 + b.nv p.2
  md := fun p k => (a.md p.1 k, b.md p.2 (k + (a.nd p.1 : Int)))
  mv := fun p k => (a.mv p.1 k, b.mv p.2 (k + (a.nv p.1 : Int)))
  ok := fun p => a.ok p.1 ∧ b.ok p.2
  s := a.s + b.s
theorem tPair_law {α β : Type} {a : Ty α} {b : Ty β} (A : a.Law) (B : b.Law) : (tPair a b).Law where
  pos := by have := A.pos; show 0 < a.n + b.n; omega
  len := fun {w cs x} h => by
    obtain ⟨c1, c2, rfl, h1, h2⟩ := h
    rw [List.length_append, A.len h1, B.len h2]; rfl
  below := fun {W w cs x} h hb => by
    obtain ⟨c1, c2, e, h1, h2⟩ := h
    exact ⟨c1, c2, e, A.below h1 hb, B.below h2 hb⟩
  reads := fun {w F cs x} h => by
    obtain ⟨c1, c2, F1, F2, e, h1, h2, _⟩ := h
    exact ⟨c1, c2, e, A.reads h1, B.reads h2⟩
  turn := fun {w w' F G cs x} h k hd => by
    obtain ⟨c1, c2, F1, F2, e, h1, h2, h3, h4, h5⟩ := h
    exact ⟨c1, c2, F1, F2, e, A.turn h1 k (fun b g => hd b (h3 b g)), B.turn h2 k (fun b g => hd b (h4 b g)), h3, h4, h5⟩
  mono := fun {w F F' cs x} h hf => by
    obtain ⟨c1, c2, F1, F2, e, h1, h2, h3, h4, h5⟩ := h
    exact ⟨c1, c2, F1, F2, e, h1, h2, fun k g => hf k (h3 k g), fun k g => hf k (h4 k g), h5⟩
  lt := fun {w F cs x} h => by
    obtain ⟨c1, c2, F1, F2, e, h1, h2, h3, h4, h5⟩ := h
    exact ⟨c1, c2, _, _, e, A.lt h1, B.lt h2, fun k g => ⟨h3 k g.1, g.2⟩, fun k g => ⟨h4 k g.1, g.2⟩, fun k g g' => h5 k g.1 g'.1⟩
  nd_le := fun x => by
    have h1 := A.nd_le x.1; have h2 := B.nd_le x.2
    show a.nd x.1 + b.nd x.2 ≤ 16 * (a.sz x.1 + b.sz x.2) + (a.s + b.s); omega
  nv_le := fun x => by
    have h1 := A.nv_le x.1; have h2 := B.nv_le x.2
    show a.nv x.1 + b.nv x.2 ≤ 16 * (a.sz x.1 + b.sz x.2); omega
theorem tPair_sz {α β : Type} (a : Ty α) (b : Ty β) (p : α × β) : (tPair a b).sz p = a.sz p.1 + b.sz p.2 := rfl
theorem tPair_nd {α β : Type} (a : Ty α) (b : Ty β) (p : α × β) : (tPair a b).nd p = a.nd p.1 + b.nd p.2 := rfl
theorem tPair_nv {α β : Type} (a : Ty α) (b : Ty β) (p : α × β) : (tPair a b).nv p = a.nv p.1 + b.nv p.2 := rfl
theorem tInt_sz (x : Int) : tInt.sz x = 0 := rfl
theorem tInt_nd (x : Int) : tInt.nd x = 1 := rfl
theorem tInt_nv (x : Int) : tInt.nv x = 0 := rfl
/- Slices. -/
section
variable {α : Type}
def SlR (T : Ty α) (w : World) (v : Value) (xs : List α) : Prop :=
  (xs = [] ∧ ∃ a cap, v = .slice a 0 cap) ∨ ∃ (b off cap : Nat) (us : Nat → List Value), v = .slice (some ⟨b, off, none⟩) xs.length cap ∧ xs.length ≤ cap ∧ b < w.heap.size ∧
    ∀ j, j < xs.length → (∀ i, i < T.n → w.cell? ⟨b, off + j * T.n + i, none⟩ = (us j)[i]?) ∧ T.R w (us j) (xs.getD j T.d)
def SlO (e : TypeId) (T : Ty α) (w : World) (F : Nat → Prop) (v : Value) (xs : List α) : Prop :=
  ∃ (L : List Value) (us : Nat → List Value) (Fs : Nat → Nat → Prop), w.ownsRow 0 e T.n v xs.length L ∧ (∀ b, v.ownBlock = some b → F b) ∧
    (∀ j, j < xs.length → (∀ i, i < T.n → L[j * T.n + i]? = (us j)[i]?) ∧ T.O w (Fs j) (us j) (xs.getD j T.d) ∧ ∀ b, Fs j b → F b ∧ v.ownBlock ≠ some b) ∧
    ∀ i j, i < xs.length → j < xs.length → i ≠ j → ∀ b, Fs i b → ¬ Fs j b
def sumN (f : α → Nat) (xs : List α) (k : Nat) : Nat := ((xs.take k).map f).sum
theorem sumN_zero (f : α → Nat) (xs : List α) : sumN f xs 0 = 0 := by simp [sumN]
theorem sumN_step (f : α → Nat) {xs : List α} {k : Nat} (d : α) (hk : k < xs.length) : sumN f xs (k + 1) = sumN f xs k + f (xs.getD k d) := by
  unfold sumN
  have e : xs.getD k d = xs[k] := by simp [List.getD, hk]
  rw [e, List.take_succ_eq_append_getElem hk, List.map_append, List.sum_append]
  simp
theorem sumN_le (f : α → Nat) {xs : List α} {k : Nat} (hk : k ≤ xs.length) : sumN f xs k ≤ sumN f xs xs.length := by
  unfold sumN
  have e : xs.take xs.length = xs.take k ++ xs.drop k := by rw [List.take_length, List.take_append_drop]
  rw [e, List.map_append, List.sum_append]
  omega
theorem sum_map_le {f g : α → Nat} {c s : Nat} (h : ∀ x, f x ≤ c * g x + s) : ∀ xs : List α, (xs.map f).sum ≤ c * (xs.map g).sum + s * xs.length
  | [] => by simp
  | x :: xs => by
    have h1 := h x
    have h2 := sum_map_le h xs
    simp only [List.map_cons, List.sum_cons, List.length_cons, Nat.mul_add, Nat.mul_one]
    omega
/-- The mark with which element j begins. -/
def kAt (T : Ty α) (xs : List α) (k : Int) (j : Nat) : Int := k + (sumN T.nd xs j : Int)
def mAt (T : Ty α) (xs : List α) (k : Int) (j : Nat) : α := T.md (xs.getD j T.d) (kAt T xs k j)
def mAll (T : Ty α) (xs : List α) (k : Int) : List α := (List.range xs.length).map (mAt T xs k)
def zTo (T : Ty α) (xs : List α) (k : Nat) : Nat := xs.length + sumN T.sz xs k
def zL (T : Ty α) (xs : List α) : Nat := zTo T xs xs.length
def ndL (T : Ty α) (xs : List α) : Nat := sumN T.nd xs xs.length
def tSl (e : TypeId) (T : Ty α) : Ty (List α) where
  n := 1
  d := []
  R := fun w cs xs => ∃ v, cs = [v] ∧ SlR T w v xs
  O := fun w F cs xs => ∃ v, cs = [v] ∧ SlO e T w F v xs
  sz := zL T
  nd := ndL T
  nv := ndL T
  md := mAll T
  mv := mAll T
  ok := fun xs => (xs.length : Int) ≤ 9223372036854775807 ∧ ∀ j, j < xs.length → T.ok (xs.getD j T.d)
  s := 0
theorem tSl_sz (e : TypeId) (T : Ty α) (xs : List α) : (tSl e T).sz xs = zL T xs := rfl
theorem tSl_nd (e : TypeId) (T : Ty α) (xs : List α) : (tSl e T).nd xs = ndL T xs := rfl
theorem tSl_nv (e : TypeId) (T : Ty α) (xs : List α) : (tSl e T).nv xs = ndL T xs := rfl
theorem slR_len {T : Ty α} {w : World} {v : Value} {xs : List α} (h : SlR T w v xs) : ∃ a cap, v = .slice a xs.length cap := by
  rcases h with ⟨rfl, a, cap, rfl⟩ | ⟨b, off, cap, us, rfl, _⟩
  · exact ⟨a, cap, rfl⟩
  · exact ⟨_, cap, rfl⟩
theorem slR_below {T : Ty α} (A : T.Law) {W w : World} {v : Value} {xs : List α} (h : SlR T W v xs) (hb : Below W.heap.size W w) : SlR T w v xs := by
  rcases h with h | ⟨b, off, cap, us, h1, h2, h3, h4⟩
  · exact Or.inl h
  · exact Or.inr ⟨b, off, cap, us, h1, h2, Nat.lt_of_lt_of_le h3 hb.size, fun j hj => ⟨fun i hi => (hb.cell (p := ⟨b, off + j * T.n + i, none⟩) h3).trans ((h4 j hj).1 i hi), A.below (h4 j hj).2 hb⟩⟩
theorem slR_same {T : Ty α} (A : T.Law) {w w' : World} {v : Value} {xs : List α} (h : SlR T w v xs) (h1 : w'.heap = w.heap) (h2 : w'.os = w.os) (h3 : w'.tape = w.tape) (h4 : w'.output = w.output) : SlR T w' v xs :=
  slR_below A h ⟨h2, h3, h4, by rw [h1]; exact Nat.le_refl _, fun k _ => by rw [h1]⟩
theorem slR_at {T : Ty α} {w : World} {v : Value} {xs : List α} (h : SlR T w v xs) {k : Nat} (hk : k < xs.length) : ∃ (b off cap : Nat) (cs : List Value), v = .slice (some ⟨b, off, none⟩) xs.length cap ∧ b < w.heap.size ∧ (∀ i, i < T.n → w.cell? ⟨b, off + k * T.n + i, none⟩ = cs[i]?) ∧ T.R w cs (xs.getD k T.d) := by
  rcases h with ⟨rfl, _⟩ | ⟨b, off, cap, us, h1, h2, h3, h4⟩
  · simp at hk
  · exact ⟨b, off, cap, us k, h1, h3, (h4 k hk).1, (h4 k hk).2⟩
theorem slO_reads {e : TypeId} {T : Ty α} (A : T.Law) {w : World} {F : Nat → Prop} {v : Value} {xs : List α} (h : SlO e T w F v xs) : SlR T w v xs := by
  obtain ⟨L, us, Fs, h1, _, h2, _⟩ := h
  have h1' := h1
  rcases h1.2 with ⟨rfl, hn⟩ | ⟨g, cap, cur, rfl, hb, hg, hn, hm, hcs, htake⟩
  · exact Or.inl ⟨List.eq_nil_of_length_eq_zero hn, none, 0, rfl⟩
  · refine Or.inr ⟨g, 0, cap, us, rfl, hn, (Array.getElem?_eq_some_iff.1 hg).1, fun j hj => ⟨fun i hi => ?_, A.reads (h2 j hj).2.1⟩⟩
    have hlt : j * T.n + i < xs.length * T.n := by
      have : (j + 1) * T.n ≤ xs.length * T.n := Nat.mul_le_mul_right _ hj
      rw [Nat.add_mul, Nat.one_mul] at this; omega
    rw [Nat.zero_add, World.ownsRow.cellAt h1' _ hlt]
    exact (h2 j hj).1 i hi
theorem slO_turn {e : TypeId} {T : Ty α} (A : T.Law) {w w' : World} {F G : Nat → Prop} {v : Value} {xs : List α} (h : SlO e T w F v xs) (k : Turn G w w') (hd : ∀ b, F b → ¬ G b) : SlO e T w' F v xs := by
  obtain ⟨L, us, Fs, h1, h2, h3, h4⟩ := h
  exact ⟨L, us, Fs, row_turn h1 k (fun b hb => hd b (h2 b hb)), h2, fun j hj => ⟨(h3 j hj).1, A.turn (h3 j hj).2.1 k (fun b hb => hd b ((h3 j hj).2.2 b hb).1), (h3 j hj).2.2⟩, h4⟩
theorem slO_mono {e : TypeId} {T : Ty α} {w : World} {F F' : Nat → Prop} {v : Value} {xs : List α} (h : SlO e T w F v xs) (hf : ∀ b, F b → F' b) : SlO e T w F' v xs := by
  obtain ⟨L, us, Fs, h1, h2, h3, h4⟩ := h
  exact ⟨L, us, Fs, h1, fun b hb => hf b (h2 b hb), fun j hj => ⟨(h3 j hj).1, (h3 j hj).2.1, fun b hb => ⟨hf b ((h3 j hj).2.2 b hb).1, ((h3 j hj).2.2 b hb).2⟩⟩, h4⟩
theorem slO_lt {e : TypeId} {T : Ty α} (A : T.Law) {w : World} {F : Nat → Prop} {v : Value} {xs : List α} (h : SlO e T w F v xs) : SlO e T w (fun b => F b ∧ b < w.heap.size) v xs := by
  obtain ⟨L, us, Fs, h1, h2, h3, h4⟩ := h
  exact ⟨L, us, fun j b => Fs j b ∧ b < w.heap.size, h1, fun b hb => ⟨h2 b hb, (h1.lt b hb).2⟩, fun j hj => ⟨(h3 j hj).1, A.lt (h3 j hj).2.1, fun b hb => ⟨⟨((h3 j hj).2.2 b hb.1).1, hb.2⟩, ((h3 j hj).2.2 b hb.1).2⟩⟩, fun i j hi hj hij b hb hc => h4 i j hi hj hij b hb.1 hc.1⟩
theorem slO_fresh {e : TypeId} {T : Ty α} (A : T.Law) {w w' : World} {F : Nat → Prop} {v : Value} {xs : List α} (h : SlO e T w F v xs) (hb : Below w.heap.size w w') : SlO e T w' F v xs :=
  slO_turn (G := fun _ => False) A h (turn_below hb) (fun _ _ => not_false)
theorem slO_nil (e : TypeId) (T : Ty α) (w : World) (F : Nat → Prop) : SlO e T w F (.slice none 0 0) [] :=
  ⟨[], fun _ => [], fun _ _ => False, World.ownsRow_nil w 0 _ _, fun b hb => by simp [Value.ownBlock] at hb, fun j hj => by simp at hj, fun i j hi => by simp at hi⟩
theorem slO_form {e : TypeId} {T : Ty α} {w : World} {F : Nat → Prop} {v : Value} {xs : List α} (h : SlO e T w F v xs) : (v = .slice none 0 0 ∧ xs = []) ∨ ∃ g cap, v = .slice (some ⟨g, 0, none⟩) xs.length cap ∧ F g ∧ g < w.heap.size := by
  obtain ⟨L, us, Fs, h1, h2, _⟩ := h
  rcases row_form h1 with ⟨e, h0⟩ | ⟨g, cap, e, hg⟩
  · exact Or.inl ⟨e, List.eq_nil_of_length_eq_zero h0⟩
  · exact Or.inr ⟨g, cap, e, h2 g (by rw [e]; rfl), hg⟩
theorem slO_len {e : TypeId} {T : Ty α} {w : World} {F : Nat → Prop} {v : Value} {xs : List α} (h : SlO e T w F v xs) : ∃ a cap, v = .slice a xs.length cap := by
  rcases slO_form h with ⟨e, e'⟩ | ⟨g, cap, e, _⟩
  · exact ⟨none, 0, by rw [e, e']; rfl⟩
  · exact ⟨_, cap, e⟩
/-- What 'make' owns. -/
theorem slO_made {e : TypeId} {T : Ty α} (A : T.Law) {w : World} {F : Nat → Prop} {g n B : Nat} {z : Array Value} (hz : z.size = T.n) (ho : T.O w (fun _ => False) z.toList T.d) (hF : F g)
    (h : w.ownsRow B e T.n (.slice (some ⟨g, 0, none⟩) n n) n (madeCells z (n * T.n)).toList) : SlO e T w F (.slice (some ⟨g, 0, none⟩) n n) (List.replicate n T.d) := by
  refine ⟨_, fun _ => z.toList, fun _ _ => False, by rw [List.length_replicate]; exact row_low h (Nat.zero_le _), fun b hb => ?_, fun j hj => ?_, fun i j _ _ _ b hb => False.elim hb⟩
  · simp [Value.ownBlock] at hb; subst hb; exact hF
  · rw [List.length_replicate] at hj
    have er : (List.replicate n T.d).getD j T.d = T.d := by simp [List.getD, hj]
    rw [er]
    refine ⟨fun i hi => ?_, ho, fun b hb => False.elim hb⟩
    have hlt : j * T.n + i < n * T.n := by
      have : (j + 1) * T.n ≤ n * T.n := Nat.mul_le_mul_right _ hj
      rw [Nat.add_mul, Nat.one_mul] at this; omega
    have hmod : (j * T.n + i) % z.size = i := by rw [hz, Nat.mul_comm, Nat.mul_add_mod, Nat.mod_eq_of_lt hi]
    rw [Array.getElem?_toList]
    unfold madeCells
    rw [Array.getElem?_map, Array.getElem?_range, if_pos hlt]
    have hi' : i < z.size := by omega
    simp [hmod, hi']
/-- An element is opened: its cells, its blocks; and what is owned when the element has turned. -/
theorem slO_open {e : TypeId} {T : Ty α} (A : T.Law) {w : World} {F : Nat → Prop} {g m cap : Nat} {xs : List α} (h : SlO e T w F (.slice (some ⟨g, 0, none⟩) m cap) xs) {j : Nat} (hj : j < xs.length) :
    m = xs.length ∧ F g ∧ g < w.heap.size ∧ ∃ (cs : List Value) (Fj : Nat → Prop) (L : List Value), w.ownsRow 0 e T.n (.slice (some ⟨g, 0, none⟩) xs.length cap) xs.length L ∧ (∀ i, i < T.n → L[j * T.n + i]? = cs[i]?) ∧ T.O w Fj cs (xs.getD j T.d) ∧ (∀ b, Fj b → F b ∧ b ≠ g ∧ b < w.heap.size) ∧
      ∀ (w' : World) (L' cs' : List Value) (Fj' : Nat → Prop) (x' : α), w'.ownsRow 0 e T.n (.slice (some ⟨g, 0, none⟩) xs.length cap) xs.length L' → (∀ o, (o < j * T.n ∨ j * T.n + T.n ≤ o) → L'[o]? = L[o]?) → (∀ i, i < T.n → L'[j * T.n + i]? = cs'[i]?) → T.O w' Fj' cs' x' → (∀ b, Fj' b → F b ∧ (Fj b ∨ w.heap.size ≤ b)) →
        Turn (fun b => b = g ∨ Fj b ∨ w.heap.size ≤ b) w w' → SlO e T w' F (.slice (some ⟨g, 0, none⟩) m cap) (xs.set j x') := by
  obtain ⟨L, us, Fs, h1, h2, h3, h4⟩ := slO_lt A h
  have hm : m = xs.length := by
    rcases h1.2 with ⟨h', _⟩ | ⟨_, _, _, h', _⟩
    · simp at h'
    · simp only [Value.slice.injEq] at h'; exact h'.2.1
  subst hm
  have hg := h2 g rfl
  refine ⟨rfl, hg.1, hg.2, us j, Fs j, L, h1, (h3 j hj).1, (h3 j hj).2.1, fun b hb => ?_, ?_⟩
  · obtain ⟨⟨k1, k2⟩, k3⟩ := (h3 j hj).2.2 b hb
    exact ⟨k1, fun e => k3 (by rw [e]; rfl), k2⟩
  · intro w' L' cs' Fj' x' g1 g2 g3 g4 g5 g6
    refine ⟨L', fun i => if i = j then cs' else us i, fun i => if i = j then Fj' else Fs i, by rw [List.length_set]; exact g1, fun b hb => (h2 b hb).1, fun i hi => ?_, fun a b ha hb hab c => ?_⟩
    · rw [List.length_set] at hi
      by_cases eij : i = j
      · subst eij
        have er : (xs.set i x').getD i T.d = x' := by simp [List.getD, hi]
        rw [er]
        simp only [if_true]
        refine ⟨g3, g4, fun b hb => ⟨(g5 b hb).1, ?_⟩⟩
        rcases (g5 b hb).2 with q | q
        · exact ((h3 i hj).2.2 b q).2
        · intro q2
          simp [Value.ownBlock] at q2
          omega
      · have er : (xs.set j x').getD i T.d = xs.getD i T.d := by simp [List.getD, List.getElem?_set_ne (Ne.symm eij)]
        rw [er]
        simp only [if_neg eij]
        refine ⟨fun p hp => ?_, ?_, fun b hb => ⟨((h3 i hi).2.2 b hb).1.1, ((h3 i hi).2.2 b hb).2⟩⟩
        · rw [g2 _ ?_]
          · exact (h3 i hi).1 p hp
          · rcases Nat.lt_or_gt_of_ne eij with q | q
            · left
              have : (i + 1) * T.n ≤ j * T.n := Nat.mul_le_mul_right _ q
              rw [Nat.add_mul, Nat.one_mul] at this; omega
            · right
              have : (j + 1) * T.n ≤ i * T.n := Nat.mul_le_mul_right _ q
              rw [Nat.add_mul, Nat.one_mul] at this; omega
        · refine A.turn (h3 i hi).2.1 g6 (fun b hb hc => ?_)
          rcases hc with q | q | q
          · exact ((h3 i hi).2.2 b hb).2 (by rw [q]; rfl)
          · exact h4 i j hi hj eij b hb q
          · have := ((h3 i hi).2.2 b hb).1.2; omega
    · rw [List.length_set] at ha hb
      by_cases ea : a = j
      · have eb : ¬ b = j := fun q => hab (ea.trans q.symm)
        simp only [if_pos ea, if_neg eb]
        intro q1 q2
        rcases (g5 c q1).2 with q | q
        · exact h4 j b hj hb (fun q' => eb q'.symm) c q q2
        · have := ((h3 b hb).2.2 c q2).1.2; omega
      · by_cases eb : b = j
        · simp only [if_neg ea, if_pos eb]
          intro q1 q2
          rcases (g5 c q2).2 with q | q
          · exact h4 a j ha hj ea c q1 q
          · have := ((h3 a ha).2.2 c q1).1.2; omega
        · simp only [if_neg ea, if_neg eb]
          exact h4 a b ha hb hab c
theorem zTo_zero (T : Ty α) (xs : List α) : zTo T xs 0 = xs.length := by simp [zTo, sumN_zero]
theorem zTo_step {T : Ty α} {xs : List α} {k : Nat} (hk : k < xs.length) : zTo T xs (k + 1) = zTo T xs k + T.sz (xs.getD k T.d) := by
  unfold zTo; rw [sumN_step T.sz T.d hk]; omega
theorem zTo_le {T : Ty α} {xs : List α} {k : Nat} (hk : k ≤ xs.length) : zTo T xs k ≤ zL T xs := by
  unfold zL zTo; have := sumN_le T.sz hk; omega
theorem zL_at {T : Ty α} {xs : List α} {M : Nat} (hs : zL T xs ≤ M) {k : Nat} (hk : k < xs.length) : T.sz (xs.getD k T.d) ≤ M := by
  have h1 := zTo_step (T := T) hk
  have h2 := zTo_le (T := T) (xs := xs) (k := k + 1) (by omega)
  omega
theorem zL_len {T : Ty α} {xs : List α} {M : Nat} (hs : zL T xs ≤ M) : xs.length ≤ M := by
  have := zTo_le (T := T) (xs := xs) (Nat.zero_le _); rw [zTo_zero] at this; omega
theorem ndL_le {T : Ty α} (A : T.Law) (hs : T.s ≤ 16) (xs : List α) : ndL T xs ≤ 16 * zL T xs := by
  have := sum_map_le A.nd_le xs
  have h2 : T.s * xs.length ≤ 16 * xs.length := Nat.mul_le_mul_right _ hs
  unfold ndL zL zTo sumN
  rw [List.take_length]
  omega
theorem tSl_law {e : TypeId} {T : Ty α} (A : T.Law) (hs : T.s ≤ 16) : (tSl e T).Law where
  pos := Nat.one_pos
  len := fun {w cs x} h => by obtain ⟨v, rfl, _⟩ := h; rfl
  below := fun {W w cs x} h hb => by obtain ⟨v, e, h⟩ := h; exact ⟨v, e, slR_below A h hb⟩
  reads := fun {w F cs x} h => by obtain ⟨v, e, h⟩ := h; exact ⟨v, e, slO_reads A h⟩
  turn := fun {w w' F G cs x} h k hd => by obtain ⟨v, e, h⟩ := h; exact ⟨v, e, slO_turn A h k hd⟩
  mono := fun {w F F' cs x} h hf => by obtain ⟨v, e, h⟩ := h; exact ⟨v, e, slO_mono h hf⟩
  lt := fun {w F cs x} h => by obtain ⟨v, e, h⟩ := h; exact ⟨v, e, slO_lt A h⟩
  nd_le := fun x => ndL_le A hs x
  nv_le := fun x => ndL_le A hs x
theorem cTo_step {xs : List α} {d : α} {k : Nat} (h : k < xs.length) : (xs.take k ++ List.replicate (xs.length - k) d).set k (xs.getD k d) = xs.take (k + 1) ++ List.replicate (xs.length - (k + 1)) d := by
  have hk : (xs.take k).length = k := by rw [List.length_take]; omega
  rw [List.set_append_right _ _ (by omega), hk, Nat.sub_self, show xs.length - k = (xs.length - (k + 1)) + 1 by omega, List.replicate_succ, List.set_cons_zero, List.take_succ_eq_append_getElem h, List.append_assoc]
  simp [List.getD, h]
theorem cTo_len {xs : List α} {d : α} {k : Nat} (h : k ≤ xs.length) : (xs.take k ++ List.replicate (xs.length - k) d).length = xs.length := by simp; omega
end
/-- New blocks: those since w. -/
def since (w : World) : Nat → Prop := fun b => w.heap.size ≤ b
/-- A value in new memory is answered. -/
def FreshT {α : Type} (T : Ty α) (mk : List Value → Value) (w : World) (x : α) (e : Ending) (w' : World) : Prop := ∃ cs, e = .returned (mk cs) ∧ T.O w' (since w) cs x ∧ Below w.heap.size w w'
def FreshS {α : Type} (t : TypeId) (T : Ty α) (w : World) (xs : List α) (e : Ending) (w' : World) : Prop := ∃ v, e = .returned v ∧ SlO t T w' (since w) v xs ∧ Below w.heap.size w w'
end Go.Proofs.Ytjeaimdnddelpaa
namespace Go.Proofs.Ytjeaimdnddelpaa
open Go.RowKit
set_option linter.unusedVariables false
set_option linter.unusedSimpArgs false
theorem ty_ret {a b : Int} (h : a = b) : Ending.returned (.int .i64 a) = .returned (.int .i64 b) := by rw [h]
abbrev tIntS : Ty (List Int) := tSl 3 tInt
theorem tIntS_law : tIntS.Law := tSl_law tInt_law (by decide)
theorem slR_ints {w : World} {v : Value} {xs : List Int} (h : SlR tInt w v xs) : Ints w v xs := by
  rcases h with h | ⟨b, off, cap, us, h1, h2, h3, h4⟩
  · exact Or.inl h
  · refine Or.inr ⟨b, off, cap, h1, h2, h3, fun j hj => ?_⟩
    have h5 := (h4 j hj).1 0 (by decide)
    have h6 : us j = [.int .i64 (xs.getD j 0)] := (h4 j hj).2
    have e : off + j * tInt.n + 0 = off + j := by show off + j * 1 + 0 = _; omega
    rw [e, h6] at h5
    exact h5
theorem zL_flat {α : Type} {T : Ty α} (h : ∀ x, T.sz x = 0) (xs : List α) : zL T xs = xs.length := by
  unfold zL zTo sumN
  have : ∀ l : List α, (l.map T.sz).sum = 0 := fun l => by
    induction l with
    | nil => rfl
    | cons x l ih => rw [List.map_cons, List.sum_cons, h x, ih]
  rw [this]; rfl
theorem zL_ints (xs : List Int) : zL tInt xs = xs.length := zL_flat (fun _ => rfl) xs
theorem own_slO {w : World} {F : Nat → Prop} {v : Value} {xs : List Int} {B : Nat} (h : OwnsN w B v xs) (hF : ∀ b, v.ownBlock = some b → F b) : SlO 3 tInt w F v xs := by
  refine ⟨_, fun j => [.int .i64 (xs.getD j 0)], fun _ _ => False, row_low h (Nat.zero_le _), hF, fun j hj => ⟨fun i hi => ?_, rfl, fun b hb => False.elim hb⟩, fun i j _ _ _ b hb => False.elim hb⟩
  have hi0 : i < 1 := hi
  obtain rfl : i = 0 := by omega
  have e : j * tInt.n + 0 = j := by show j * 1 + 0 = _; omega
  rw [e]
  simp [List.getD, hj]
/-- Numbers in new memory, either way. -/
theorem fresh_ints {w w' : World} {v : Value} {xs : List Int} (h : OwnsN w' w.heap.size v xs) : SlO 3 tInt w' (since w) v xs := own_slO h (fun b hb => (h.lt b hb).1)
theorem szIntS_Y (v : Value) (xs : List Int) (k0 : Int) (w : World) (h : SlR tInt w v xs) (hs : ((zL tInt xs : Nat) : Int) ≤ k0) (hk : k0 ≤ 1048576) :
    Calls Try.prog 18 #[v, .int .i64 k0] w fun e w' => e = .returned (.int .i64 (k0 - ((zL tInt xs : Nat) : Int))) ∧ Below w.heap.size w w' := by
  rw [zL_ints] at hs ⊢
  obtain ⟨a, cap, rfl⟩ := slR_len h
  exact (szInt_yes a cap xs.length k0 w hs hk).mono fun e w' g => ⟨g.1, by rw [g.2]; exact Below.refl _ _⟩
theorem szIntS_N (v : Value) (xs : List Int) (k0 : Int) (w : World) (h : SlR tInt w v xs) (hs : k0 < ((zL tInt xs : Nat) : Int)) (hk : k0 ≤ 1048576) (hp : 0 ≤ k0) (ho : tIntS.ok xs) :
    Calls Try.prog 18 #[v, .int .i64 k0] w fun e w' => e = .returned (.int .i64 (-1)) ∧ Below w.heap.size w w' := by
  rw [zL_ints] at hs
  obtain ⟨a, cap, rfl⟩ := slR_len h
  exact (szInt_no a cap xs.length k0 w hs hp ho.1).mono fun e w' g => ⟨g.1, by rw [g.2]; exact Below.refl _ _⟩
theorem toIntS_S (v : Value) (xs : List Int) (w : World) (h : SlR tInt w v xs) (hs : zL tInt xs ≤ 1048576) :
    Calls Try.prog 20 #[v] w (FreshS 3 tInt w xs) := by
  rw [zL_ints] at hs
  refine (toIntS_any v xs w (slR_ints h) hs).mono ?_
  rintro e w' ⟨u, rfl, o, b⟩
  exact ⟨u, rfl, fresh_ints o, b⟩
theorem eqIntS_S (v u : Value) (xs : List Int) (w : World) (h : SlR tInt w v xs) (g : SlR tInt w u xs) (hs : zL tInt xs ≤ 1048576) :
    Calls Try.prog 22 #[v, u] w fun e w' => e = .returned (.bool true) ∧ Below w.heap.size w w' := by
  rw [zL_ints] at hs
  exact eqIntS_same v u xs w (slR_ints h) (slR_ints g) hs
end Go.Proofs.Ytjeaimdnddelpaa
namespace Go.Proofs.Ytjeaimdnddelpaa
open Go.RowKit
set_option linter.unusedVariables false
set_option linter.unusedSimpArgs false
end Go.Proofs.Ytjeaimdnddelpaa
namespace Go.Proofs.Ytjeaimdnddelpaa
open Go.RowKit
set_option linter.unusedVariables false
set_option linter.unusedSimpArgs false
end Go.Proofs.Ytjeaimdnddelpaa
namespace Go.Proofs.Ytjeaimdnddelpaa
open Go.RowKit
set_option linter.unusedVariables false
set_option linter.unusedSimpArgs false
end Go.Proofs.Ytjeaimdnddelpaa
namespace Go.Proofs.Ytjeaimdnddelpaa
open Go.RowKit
set_option linter.unusedVariables false
set_option linter.unusedSimpArgs false
end Go.Proofs.Ytjeaimdnddelpaa
namespace Go.Proofs.Ytjeaimdnddelpaa
open Go.RowKit
set_option linter.unusedVariables false
set_option linter.unusedSimpArgs false
end Go.Proofs.Ytjeaimdnddelpaa
namespace Go.Proofs.Ytjeaimdnddelpaa
open Go.RowKit
set_option linter.unusedVariables false
set_option linter.unusedSimpArgs false
end Go.Proofs.Ytjeaimdnddelpaa
namespace Go.Proofs.Ytjeaimdnddelpaa
open Go.RowKit
set_option linter.unusedVariables false
set_option linter.unusedSimpArgs false
end Go.Proofs.Ytjeaimdnddelpaa
namespace Go.Proofs.Ytjeaimdnddelpaa
open Go.RowKit
set_option linter.unusedVariables false
set_option linter.unusedSimpArgs false
end Go.Proofs.Ytjeaimdnddelpaa
namespace Go.Proofs.Ytjeaimdnddelpaa
open Go.RowKit
set_option linter.unusedVariables false
set_option linter.unusedSimpArgs false
end Go.Proofs.Ytjeaimdnddelpaa
namespace Go.Proofs.Ytjeaimdnddelpaa
open Go.RowKit
set_option linter.unusedVariables false
set_option linter.unusedSimpArgs false
end Go.Proofs.Ytjeaimdnddelpaa
namespace Go.Proofs.Ytjeaimdnddelpaa
open Go.RowKit
set_option linter.unusedVariables false
set_option linter.unusedSimpArgs false
end Go.Proofs.Ytjeaimdnddelpaa
namespace Go.Proofs.Ytjeaimdnddelpaa
open Go.RowKit
set_option linter.unusedVariables false
set_option linter.unusedSimpArgs false
end Go.Proofs.Ytjeaimdnddelpaa
namespace Go.Proofs.Ytjeaimdnddelpaa
open Go.RowKit
set_option linter.unusedVariables false
set_option linter.unusedSimpArgs false
end Go.Proofs.Ytjeaimdnddelpaa
namespace Go.Proofs.Ytjeaimdnddelpaa
open Go.RowKit
set_option linter.unusedVariables false
set_option linter.unusedSimpArgs false
end Go.Proofs.Ytjeaimdnddelpaa
namespace Go.Proofs.Ytjeaimdnddelpaa
open Go.RowKit
set_option linter.unusedVariables false
set_option linter.unusedSimpArgs false
def tCharge : Ty (Int × Int × List Int × List Int × List Int) := tPair tInt (tPair tInt (tPair tIntS (tPair tIntS tIntS)))
theorem tCharge_law : tCharge.Law := tPair_law tInt_law (tPair_law tInt_law (tPair_law tIntS_law (tPair_law tIntS_law tIntS_law)))
theorem tCharge_R {w : World} {cs : List Value} {a0 : Int} {a1 : Int} {x2 : List Int} {x3 : List Int} {x4 : List Int} (h : tCharge.R w cs (a0, a1, x2, x3, x4)) : ∃ v2 v3 v4, cs = [.int .i64 a0, .int .i64 a1, v2, v3, v4] ∧ SlR tInt w v2 x2 ∧ SlR tInt w v3 x3 ∧ SlR tInt w v4 x4 := by
  obtain ⟨_, _, rfl, rfl, ⟨_, _, rfl, rfl, ⟨_, _, rfl, ⟨v2, rfl, h2⟩, ⟨_, _, rfl, ⟨v3, rfl, h3⟩, ⟨v4, rfl, h4⟩⟩⟩⟩⟩ := h
  exact ⟨_, _, _, rfl, h2, h3, h4⟩
theorem tCharge_sz {a0 : Int} {a1 : Int} {x2 : List Int} {x3 : List Int} {x4 : List Int} : tCharge.sz (a0, a1, x2, x3, x4) = zL tInt x2 + zL tInt x3 + zL tInt x4 := by
  simp only [tCharge, tPair_sz, tPair_nd, tPair_nv, tInt_sz, tInt_nd, tInt_nv, tSl_sz, tSl_nd, tSl_nv]
  try omega
theorem tCharge_O {w : World} {F : Nat → Prop} {cs : List Value} {a0 : Int} {a1 : Int} {x2 : List Int} {x3 : List Int} {x4 : List Int} (h : tCharge.O w F cs (a0, a1, x2, x3, x4)) : ∃ v2 v3 v4, ∃ F2 F3 F4 : Nat → Prop, cs = [.int .i64 a0, .int .i64 a1, v2, v3, v4] ∧ SlO 3 tInt w F2 v2 x2 ∧ SlO 3 tInt w F3 v3 x3 ∧ SlO 3 tInt w F4 v4 x4 ∧ (∀ b, F2 b → F b) ∧ (∀ b, F3 b → F b) ∧ (∀ b, F4 b → F b) ∧ (∀ b, F2 b → ¬ F3 b) ∧ (∀ b, F2 b → ¬ F4 b) ∧ (∀ b, F3 b → ¬ F4 b) := by
  obtain ⟨_, _, F0_1, F0_2, rfl, rfl, ⟨_, _, F1_1, F1_2, rfl, rfl, ⟨_, _, F2_1, F2_2, rfl, ⟨v2, rfl, h2⟩, ⟨_, _, F3_1, F3_2, rfl, ⟨v3, rfl, h3⟩, ⟨v4, rfl, h4⟩, s3_1, s3_2, d3⟩, s2_1, s2_2, d2⟩, s1_1, s1_2, d1⟩, s0_1, s0_2, d0⟩ := h
  exact ⟨v2, v3, v4, F2_1, F3_1, F3_2, rfl, h2, h3, h4, fun b h => (s0_2 b (s1_2 b (s2_1 b h))), fun b h => (s0_2 b (s1_2 b (s2_2 b (s3_1 b h)))), fun b h => (s0_2 b (s1_2 b (s2_2 b (s3_2 b h)))), fun b h h2 => d2 b h (s3_1 b h2), fun b h h2 => d2 b h (s3_2 b h2), fun b h h2 => d3 b h h2⟩
theorem tCharge_mkO {w : World} {F : Nat → Prop} {a0 : Int} {a1 : Int} {x2 : List Int} {x3 : List Int} {x4 : List Int} {v2 v3 v4 : Value} {F2 F3 F4 : Nat → Prop} (h2 : SlO 3 tInt w F2 v2 x2) (h3 : SlO 3 tInt w F3 v3 x3) (h4 : SlO 3 tInt w F4 v4 x4) (s2 : ∀ b, F2 b → F b) (s3 : ∀ b, F3 b → F b) (s4 : ∀ b, F4 b → F b) (d2_3 : ∀ b, F2 b → ¬ F3 b) (d2_4 : ∀ b, F2 b → ¬ F4 b) (d3_4 : ∀ b, F3 b → ¬ F4 b) : tCharge.O w F [.int .i64 a0, .int .i64 a1, v2, v3, v4] (a0, a1, x2, x3, x4) := ⟨[.int .i64 a0], [.int .i64 a1, v2, v3, v4], fun _ => False, fun b => F2 b ∨ (F3 b ∨ (F4 b)), rfl, rfl, ⟨[.int .i64 a1], [v2, v3, v4], fun _ => False, fun b => F2 b ∨ (F3 b ∨ (F4 b)), rfl, rfl, ⟨[v2], [v3, v4], F2, fun b => F3 b ∨ (F4 b), rfl, ⟨_, rfl, h2⟩, ⟨[v3], [v4], F3, F4, rfl, ⟨_, rfl, h3⟩, ⟨_, rfl, h4⟩, (fun b h => (Or.inl h)), (fun b h => (Or.inr h)), (fun b h g => d3_4 b h g)⟩, (fun b h => (Or.inl h)), (fun b h => (h.elim (fun q0 => (Or.inr (Or.inl q0))) (fun q0 => (Or.inr (Or.inr q0))))), (fun b h g => (g.elim (fun q10 => d2_3 b h q10) (fun q10 => d2_4 b h q10)))⟩, (fun b h => (False.elim h)), (fun b h => (h.elim (fun q0 => (Or.inl q0)) (fun q0 => (q0.elim (fun q1 => (Or.inr (Or.inl q1))) (fun q1 => (Or.inr (Or.inr q1))))))), (fun b h g => (False.elim h))⟩, (fun b h => (False.elim h)), (fun b h => (h.elim (fun q0 => s2 b q0) (fun q0 => (q0.elim (fun q1 => s3 b q1) (fun q1 => s4 b q1))))), (fun b h g => (False.elim h))⟩
set_option maxHeartbeats 8000000 in
set_option maxRecDepth 100000 in
theorem szCharge_Y (a0 a1 : Int) (v2 v3 v4 : Value) (x2 : List Int) (x3 : List Int) (x4 : List Int) (k0 : Int) (w : World) (h2 : SlR tInt w v2 x2) (h3 : SlR tInt w v3 x3) (h4 : SlR tInt w v4 x4) (hs : ((zL tInt x2 + zL tInt x3 + zL tInt x4 : Nat) : Int) ≤ k0) (hk : k0 ≤ 1048576) :
    Calls Try.prog 13 #[.agg #[.int .i64 a0, .int .i64 a1, v2, v3, v4], .int .i64 k0] w fun e w' => e = .returned (.int .i64 (k0 - ((zL tInt x2 + zL tInt x3 + zL tInt x4 : Nat) : Int))) ∧ Below w.heap.size w w' := by
  have H2 := Lib.hid h2
  have H3 := Lib.hid h3
  have H4 := Lib.hid h4
  clear h2 h3 h4
  have HZ2 : Hid (((zL tInt x2 : Nat) : Int) ≤ k0) := Lib.hid (by omega)
  have HK2 : Hid (k0 ≤ 1048576) := Lib.hid (by omega)
  have hn2 : ¬ k0 - ((zL tInt x2 : Nat) : Int) < 0 := by omega
  have HZ3 : Hid (((zL tInt x3 : Nat) : Int) ≤ k0 - ((zL tInt x2 : Nat) : Int)) := Lib.hid (by omega)
  have HK3 : Hid (k0 - ((zL tInt x2 : Nat) : Int) ≤ 1048576) := Lib.hid (by omega)
  have hn3 : ¬ k0 - ((zL tInt x2 : Nat) : Int) - ((zL tInt x3 : Nat) : Int) < 0 := by omega
  have HZ4 : Hid (((zL tInt x4 : Nat) : Int) ≤ k0 - ((zL tInt x2 : Nat) : Int) - ((zL tInt x3 : Nat) : Int)) := Lib.hid (by omega)
  have HK4 : Hid (k0 - ((zL tInt x2 : Nat) : Int) - ((zL tInt x3 : Nat) : Int) ≤ 1048576) := Lib.hid (by omega)
  have hn4 : ¬ k0 - ((zL tInt x2 : Nat) : Int) - ((zL tInt x3 : Nat) : Int) - ((zL tInt x4 : Nat) : Int) < 0 := by omega
  have HE : Hid (k0 - ((zL tInt x2 : Nat) : Int) - ((zL tInt x3 : Nat) : Int) - ((zL tInt x4 : Nat) : Int) = k0 - ((zL tInt x2 + zL tInt x3 + zL tInt x4 : Nat) : Int)) := Lib.hid (by omega)
  clear hs hk
  have hb : Below w.heap.size w (w.alloc (.cells #[.int .i64 a0, .int .i64 a1, v2, v3, v4] 35)) := (Below.refl _ w).alloc (Nat.le_refl _) _
  have g0 : (w.alloc (.cells #[.int .i64 a0, .int .i64 a1, v2, v3, v4] 35)).heap[w.heap.size]? = some (.cells #[.int .i64 a0, .int .i64 a1, v2, v3, v4] 35 (0, 0)) := heap_alloc_new w _
  have hz0 : w.heap.size < (w.alloc (.cells #[.int .i64 a0, .int .i64 a1, v2, v3, v4] 35)).heap.size := by simp
  go_enter Try.func13, Try.ntmps13
  go_wp2_with fail
  generalize (w.alloc (.cells #[.int .i64 a0, .int .i64 a1, v2, v3, v4] 35)) = W at *
  refine (szIntS_Y v2 x2 (k0) W (slR_below tInt_law H2.out hb) HZ2.out HK2.out).mono ?_
  rintro e W1 ⟨rfl, b1⟩
  replace g0 := (b1.block w.heap.size hz0).trans g0
  replace hz0 := Nat.lt_of_lt_of_le hz0 b1.size
  replace hb := hb.trans (b1.mono hb.size)
  clear b1
  have p3 := (cell_of_row W1 _ 3 _ _ _ g0).trans (show _ = some (v3) from rfl)
  go_wp2_with fail
  clear p3
  refine (szIntS_Y v3 x3 (k0 - ((zL tInt x2 : Nat) : Int)) W1 (slR_below tInt_law H3.out hb) HZ3.out HK3.out).mono ?_
  rintro e W2 ⟨rfl, b1⟩
  replace g0 := (b1.block w.heap.size hz0).trans g0
  replace hz0 := Nat.lt_of_lt_of_le hz0 b1.size
  replace hb := hb.trans (b1.mono hb.size)
  clear b1
  have p4 := (cell_of_row W2 _ 4 _ _ _ g0).trans (show _ = some (v4) from rfl)
  go_wp2_with fail
  clear p4
  refine (szIntS_Y v4 x4 (k0 - ((zL tInt x2 : Nat) : Int) - ((zL tInt x3 : Nat) : Int)) W2 (slR_below tInt_law H4.out hb) HZ4.out HK4.out).mono ?_
  rintro e W3 ⟨rfl, b1⟩
  replace g0 := (b1.block w.heap.size hz0).trans g0
  replace hz0 := Nat.lt_of_lt_of_le hz0 b1.size
  replace hb := hb.trans (b1.mono hb.size)
  clear b1
  go_wp2
  go_ret
  exact ⟨ty_ret HE.out, hb⟩
set_option maxHeartbeats 8000000 in
set_option maxRecDepth 100000 in
theorem szCharge_N (a0 a1 : Int) (v2 v3 v4 : Value) (x2 : List Int) (x3 : List Int) (x4 : List Int) (k0 : Int) (w : World) (h2 : SlR tInt w v2 x2) (h3 : SlR tInt w v3 x3) (h4 : SlR tInt w v4 x4) (hs : k0 < ((zL tInt x2 + zL tInt x3 + zL tInt x4 : Nat) : Int)) (hk : k0 ≤ 1048576) (hp : 0 ≤ k0) (o2 : tIntS.ok x2) (o3 : tIntS.ok x3) (o4 : tIntS.ok x4) :
    Calls Try.prog 13 #[.agg #[.int .i64 a0, .int .i64 a1, v2, v3, v4], .int .i64 k0] w fun e w' => e = .returned (.int .i64 (-1)) ∧ Below w.heap.size w w' := by
  have H2 := Lib.hid h2
  have H3 := Lib.hid h3
  have H4 := Lib.hid h4
  clear h2 h3 h4
  have HO2 := Lib.hid o2
  have HO3 := Lib.hid o3
  have HO4 := Lib.hid o4
  clear o2 o3 o4
  by_cases c0 : k0 < ((zL tInt x2 : Nat) : Int)
  · have HZ2 : Hid (k0 < ((zL tInt x2 : Nat) : Int)) := Lib.hid (by omega)
    have HP2 : Hid (0 ≤ k0) := Lib.hid (by omega)
    have HK2 : Hid (k0 ≤ 1048576) := Lib.hid (by omega)
    clear hs hk
    clear c0 hp
    have hb : Below w.heap.size w (w.alloc (.cells #[.int .i64 a0, .int .i64 a1, v2, v3, v4] 35)) := (Below.refl _ w).alloc (Nat.le_refl _) _
    have g0 : (w.alloc (.cells #[.int .i64 a0, .int .i64 a1, v2, v3, v4] 35)).heap[w.heap.size]? = some (.cells #[.int .i64 a0, .int .i64 a1, v2, v3, v4] 35 (0, 0)) := heap_alloc_new w _
    have hz0 : w.heap.size < (w.alloc (.cells #[.int .i64 a0, .int .i64 a1, v2, v3, v4] 35)).heap.size := by simp
    go_enter Try.func13, Try.ntmps13
    go_wp2_with fail
    generalize (w.alloc (.cells #[.int .i64 a0, .int .i64 a1, v2, v3, v4] 35)) = W at *
    refine (szIntS_N v2 x2 (k0) W (slR_below tInt_law H2.out hb) HZ2.out HK2.out HP2.out HO2.out).mono ?_
    rintro e W1 ⟨rfl, b1⟩
    replace g0 := (b1.block w.heap.size hz0).trans g0
    replace hz0 := Nat.lt_of_lt_of_le hz0 b1.size
    replace hb := hb.trans (b1.mono hb.size)
    clear b1
    go_wp2
    go_ret
    exact ⟨rfl, hb⟩
  ·
    by_cases c1 : k0 - ((zL tInt x2 : Nat) : Int) < ((zL tInt x3 : Nat) : Int)
    · have HZ2 : Hid (((zL tInt x2 : Nat) : Int) ≤ k0) := Lib.hid (by omega)
      have hn2 : ¬ k0 - ((zL tInt x2 : Nat) : Int) < 0 := by omega
      have HK2 : Hid (k0 ≤ 1048576) := Lib.hid (by omega)
      have HZ3 : Hid (k0 - ((zL tInt x2 : Nat) : Int) < ((zL tInt x3 : Nat) : Int)) := Lib.hid (by omega)
      have HP3 : Hid (0 ≤ k0 - ((zL tInt x2 : Nat) : Int)) := Lib.hid (by omega)
      have HK3 : Hid (k0 - ((zL tInt x2 : Nat) : Int) ≤ 1048576) := Lib.hid (by omega)
      clear hs hk
      clear c1 hp c0
      have hb : Below w.heap.size w (w.alloc (.cells #[.int .i64 a0, .int .i64 a1, v2, v3, v4] 35)) := (Below.refl _ w).alloc (Nat.le_refl _) _
      have g0 : (w.alloc (.cells #[.int .i64 a0, .int .i64 a1, v2, v3, v4] 35)).heap[w.heap.size]? = some (.cells #[.int .i64 a0, .int .i64 a1, v2, v3, v4] 35 (0, 0)) := heap_alloc_new w _
      have hz0 : w.heap.size < (w.alloc (.cells #[.int .i64 a0, .int .i64 a1, v2, v3, v4] 35)).heap.size := by simp
      go_enter Try.func13, Try.ntmps13
      go_wp2_with fail
      generalize (w.alloc (.cells #[.int .i64 a0, .int .i64 a1, v2, v3, v4] 35)) = W at *
      refine (szIntS_Y v2 x2 (k0) W (slR_below tInt_law H2.out hb) HZ2.out HK2.out).mono ?_
      rintro e W1 ⟨rfl, b1⟩
      replace g0 := (b1.block w.heap.size hz0).trans g0
      replace hz0 := Nat.lt_of_lt_of_le hz0 b1.size
      replace hb := hb.trans (b1.mono hb.size)
      clear b1
      have p3 := (cell_of_row W1 _ 3 _ _ _ g0).trans (show _ = some (v3) from rfl)
      go_wp2_with fail
      clear p3
      refine (szIntS_N v3 x3 (k0 - ((zL tInt x2 : Nat) : Int)) W1 (slR_below tInt_law H3.out hb) HZ3.out HK3.out HP3.out HO3.out).mono ?_
      rintro e W2 ⟨rfl, b1⟩
      replace g0 := (b1.block w.heap.size hz0).trans g0
      replace hz0 := Nat.lt_of_lt_of_le hz0 b1.size
      replace hb := hb.trans (b1.mono hb.size)
      clear b1
      go_wp2
      go_ret
      exact ⟨rfl, hb⟩
    ·
      have HZ2 : Hid (((zL tInt x2 : Nat) : Int) ≤ k0) := Lib.hid (by omega)
      have hn2 : ¬ k0 - ((zL tInt x2 : Nat) : Int) < 0 := by omega
      have HK2 : Hid (k0 ≤ 1048576) := Lib.hid (by omega)
      have HZ3 : Hid (((zL tInt x3 : Nat) : Int) ≤ k0 - ((zL tInt x2 : Nat) : Int)) := Lib.hid (by omega)
      have hn3 : ¬ k0 - ((zL tInt x2 : Nat) : Int) - ((zL tInt x3 : Nat) : Int) < 0 := by omega
      have HK3 : Hid (k0 - ((zL tInt x2 : Nat) : Int) ≤ 1048576) := Lib.hid (by omega)
      have HZ4 : Hid (k0 - ((zL tInt x2 : Nat) : Int) - ((zL tInt x3 : Nat) : Int) < ((zL tInt x4 : Nat) : Int)) := Lib.hid (by omega)
      have HP4 : Hid (0 ≤ k0 - ((zL tInt x2 : Nat) : Int) - ((zL tInt x3 : Nat) : Int)) := Lib.hid (by omega)
      have HK4 : Hid (k0 - ((zL tInt x2 : Nat) : Int) - ((zL tInt x3 : Nat) : Int) ≤ 1048576) := Lib.hid (by omega)
      clear hs hk
      clear hp c0 c1
      have hb : Below w.heap.size w (w.alloc (.cells #[.int .i64 a0, .int .i64 a1, v2, v3, v4] 35)) := (Below.refl _ w).alloc (Nat.le_refl _) _
      have g0 : (w.alloc (.cells #[.int .i64 a0, .int .i64 a1, v2, v3, v4] 35)).heap[w.heap.size]? = some (.cells #[.int .i64 a0, .int .i64 a1, v2, v3, v4] 35 (0, 0)) := heap_alloc_new w _
      have hz0 : w.heap.size < (w.alloc (.cells #[.int .i64 a0, .int .i64 a1, v2, v3, v4] 35)).heap.size := by simp
      go_enter Try.func13, Try.ntmps13
      go_wp2_with fail
      generalize (w.alloc (.cells #[.int .i64 a0, .int .i64 a1, v2, v3, v4] 35)) = W at *
      refine (szIntS_Y v2 x2 (k0) W (slR_below tInt_law H2.out hb) HZ2.out HK2.out).mono ?_
      rintro e W1 ⟨rfl, b1⟩
      replace g0 := (b1.block w.heap.size hz0).trans g0
      replace hz0 := Nat.lt_of_lt_of_le hz0 b1.size
      replace hb := hb.trans (b1.mono hb.size)
      clear b1
      have p3 := (cell_of_row W1 _ 3 _ _ _ g0).trans (show _ = some (v3) from rfl)
      go_wp2_with fail
      clear p3
      refine (szIntS_Y v3 x3 (k0 - ((zL tInt x2 : Nat) : Int)) W1 (slR_below tInt_law H3.out hb) HZ3.out HK3.out).mono ?_
      rintro e W2 ⟨rfl, b1⟩
      replace g0 := (b1.block w.heap.size hz0).trans g0
      replace hz0 := Nat.lt_of_lt_of_le hz0 b1.size
      replace hb := hb.trans (b1.mono hb.size)
      clear b1
      have p4 := (cell_of_row W2 _ 4 _ _ _ g0).trans (show _ = some (v4) from rfl)
      go_wp2_with fail
      clear p4
      refine (szIntS_N v4 x4 (k0 - ((zL tInt x2 : Nat) : Int) - ((zL tInt x3 : Nat) : Int)) W2 (slR_below tInt_law H4.out hb) HZ4.out HK4.out HP4.out HO4.out).mono ?_
      rintro e W3 ⟨rfl, b1⟩
      replace g0 := (b1.block w.heap.size hz0).trans g0
      replace hz0 := Nat.lt_of_lt_of_le hz0 b1.size
      replace hb := hb.trans (b1.mono hb.size)
      clear b1
      go_wp2
      go_ret
      exact ⟨rfl, hb⟩
set_option maxHeartbeats 8000000 in
set_option maxRecDepth 100000 in
theorem toCharge_T (a0 a1 : Int) (v2 v3 v4 : Value) (x2 : List Int) (x3 : List Int) (x4 : List Int) (w : World) (h2 : SlR tInt w v2 x2) (h3 : SlR tInt w v3 x3) (h4 : SlR tInt w v4 x4) (s2 : zL tInt x2 ≤ 1048576) (s3 : zL tInt x3 ≤ 1048576) (s4 : zL tInt x4 ≤ 1048576) :
    Calls Try.prog 15 #[.agg #[.int .i64 a0, .int .i64 a1, v2, v3, v4]] w (FreshT tCharge (fun cs => .agg cs.toArray) w (a0, a1, x2, x3, x4)) := by
  have H2 := Lib.hid h2
  have H3 := Lib.hid h3
  have H4 := Lib.hid h4
  clear h2 h3 h4
  have S2 := Lib.hid s2
  have S3 := Lib.hid s3
  have S4 := Lib.hid s4
  clear s2 s3 s4
  go_enter Try.func15, Try.ntmps15
  go_wp2_with fail
  have hb : Below w.heap.size w (((w.alloc (.cells #[.int .i64 a0, .int .i64 a1, v2, v3, v4] 35)).alloc (.cells #[.int .i64 0, .int .i64 0, .slice none 0 0, .slice none 0 0, .slice none 0 0] 37)).alloc (.cells #[.int .i64 a0, .int .i64 a1, .slice none 0 0, .slice none 0 0, .slice none 0 0] 37)) := (((Below.refl _ w).alloc (Nat.le_refl _) _).alloc (by simp) _).alloc (by simp; omega) _
  have g2 : (((w.alloc (.cells #[.int .i64 a0, .int .i64 a1, v2, v3, v4] 35)).alloc (.cells #[.int .i64 0, .int .i64 0, .slice none 0 0, .slice none 0 0, .slice none 0 0] 37)).alloc (.cells #[.int .i64 a0, .int .i64 a1, .slice none 0 0, .slice none 0 0, .slice none 0 0] 37)).heap[w.heap.size + 1 + 1]? = some (.cells #[.int .i64 a0, .int .i64 a1, .slice none 0 0, .slice none 0 0, .slice none 0 0] 37 (0, 0)) := by
    have := heap_alloc_new ((w.alloc (.cells #[.int .i64 a0, .int .i64 a1, v2, v3, v4] 35)).alloc (.cells #[.int .i64 0, .int .i64 0, .slice none 0 0, .slice none 0 0, .slice none 0 0] 37)) (.cells #[.int .i64 a0, .int .i64 a1, .slice none 0 0, .slice none 0 0, .slice none 0 0] 37)
    simpa only [World.size_alloc] using this
  have g1 : (((w.alloc (.cells #[.int .i64 a0, .int .i64 a1, v2, v3, v4] 35)).alloc (.cells #[.int .i64 0, .int .i64 0, .slice none 0 0, .slice none 0 0, .slice none 0 0] 37)).alloc (.cells #[.int .i64 a0, .int .i64 a1, .slice none 0 0, .slice none 0 0, .slice none 0 0] 37)).heap[w.heap.size + 1]? = some (.cells #[.int .i64 0, .int .i64 0, .slice none 0 0, .slice none 0 0, .slice none 0 0] 37 (0, 0)) := by
    have := heap_alloc_new (w.alloc (.cells #[.int .i64 a0, .int .i64 a1, v2, v3, v4] 35)) (.cells #[.int .i64 0, .int .i64 0, .slice none 0 0, .slice none 0 0, .slice none 0 0] 37)
    rw [Below.heap_alloc _ _ _ (by simp)]
    simpa only [World.size_alloc] using this
  have g0 : (((w.alloc (.cells #[.int .i64 a0, .int .i64 a1, v2, v3, v4] 35)).alloc (.cells #[.int .i64 0, .int .i64 0, .slice none 0 0, .slice none 0 0, .slice none 0 0] 37)).alloc (.cells #[.int .i64 a0, .int .i64 a1, .slice none 0 0, .slice none 0 0, .slice none 0 0] 37)).heap[w.heap.size]? = some (.cells #[.int .i64 a0, .int .i64 a1, v2, v3, v4] 35 (0, 0)) := by
    rw [Below.heap_alloc _ _ _ (by simp; omega), Below.heap_alloc _ _ _ (by simp)]
    exact heap_alloc_new w _
  have hz : w.heap.size + 2 < (((w.alloc (.cells #[.int .i64 a0, .int .i64 a1, v2, v3, v4] 35)).alloc (.cells #[.int .i64 0, .int .i64 0, .slice none 0 0, .slice none 0 0, .slice none 0 0] 37)).alloc (.cells #[.int .i64 a0, .int .i64 a1, .slice none 0 0, .slice none 0 0, .slice none 0 0] 37)).heap.size := by simp [World.size_alloc]
  generalize (((w.alloc (.cells #[.int .i64 a0, .int .i64 a1, v2, v3, v4] 35)).alloc (.cells #[.int .i64 0, .int .i64 0, .slice none 0 0, .slice none 0 0, .slice none 0 0] 37)).alloc (.cells #[.int .i64 a0, .int .i64 a1, .slice none 0 0, .slice none 0 0, .slice none 0 0] 37)) = W at *
  refine (toIntS_S v2 x2 W (slR_below tInt_law H2.out hb) S2.out).mono ?_
  rintro e w1 ⟨u2, rfl, o2, b1⟩
  obtain ⟨ua2, uc2, rfl⟩ := slO_len o2
  replace o2 := slO_mono (slO_lt tInt_law o2) (F' := fun b => W.heap.size ≤ b ∧ b < w1.heap.size) (fun b h => h)
  replace g0 := (b1.block _ (by omega)).trans g0
  replace g1 := (b1.block _ (by omega)).trans g1
  replace g2 := (b1.block _ (by omega)).trans g2
  have zz1 := b1.size
  replace hb := hb.trans (b1.mono (by omega))
  clear b1
  have c2_0 := (cell_of_row w1 _ 0 _ _ _ g2).trans (show _ = some (Value.int .i64 a0) from rfl)
  have f2_0 := frozen_of_row w1 _ 0 _ _ g2
  have c2_1 := (cell_of_row w1 _ 1 _ _ _ g2).trans (show _ = some (Value.int .i64 a1) from rfl)
  have f2_1 := frozen_of_row w1 _ 1 _ _ g2
  have c2_2 := (cell_of_row w1 _ 2 _ _ _ g2).trans (show _ = some (Value.slice none 0 0) from rfl)
  have f2_2 := frozen_of_row w1 _ 2 _ _ g2
  have ne1 : ¬ w.heap.size = w.heap.size + 1 + 1 := by omega
  have ne2 : ¬ w.heap.size + 1 = w.heap.size + 1 + 1 := by omega
  have ne3 : ¬ w.heap.size + 1 + 1 = w.heap.size + 1 := by omega
  have c0_3 := (cell_of_row w1 _ 3 _ _ _ g0).trans (show _ = some (v3) from rfl)
  have l0_3 : (w1.setCell ⟨w.heap.size + 1 + 1, 2, none⟩ (.slice ua2 x2.length uc2)).cell? ⟨w.heap.size, 3, none⟩ = some (v3) := by
    have m : (w1.setCell ⟨w.heap.size + 1 + 1, 2, none⟩ (.slice ua2 x2.length uc2)).heap[w.heap.size]? = some (.cells #[.int .i64 a0, .int .i64 a1, v2, v3, v4] 35 (0, 0)) := by
      repeat rw [heap_setCell_other _ _ _ _ (by simp <;> omega)]
      exact g0
    exact (cell_of_row _ _ 3 _ _ _ m).trans rfl
  go_wp2_with fail
  clear c2_0 f2_0 c2_1 f2_1 c2_2 f2_2 ne1 ne2 ne3 c0_3 l0_3
  have hw : Turn (fun b => b = w.heap.size + 1 + 1) w1 (w1.setCell ⟨w.heap.size + 1 + 1, 2, none⟩ (.slice ua2 x2.length uc2)) := by
    first | exact ((Turn.refl (fun b => b = w.heap.size + 1 + 1) _).trans (turn_set (G := fun b => b = w.heap.size + 1 + 1) (g := w.heap.size + 1 + 1) (j := 2) (u := .slice ua2 x2.length uc2) rfl)) | skip
  replace g0 := (hw.block _ (by omega) (by omega)).trans g0
  replace g1 := (hw.block _ (by omega) (by omega)).trans g1
  have g2n := (heap_setCell_same _ (w.heap.size + 1 + 1) 2 _ _ (.slice ua2 x2.length uc2) g2)
  replace g2 : (w1.setCell ⟨w.heap.size + 1 + 1, 2, none⟩ (.slice ua2 x2.length uc2)).heap[w.heap.size + 1 + 1]? = some (.cells #[.int .i64 a0, .int .i64 a1, .slice ua2 x2.length uc2, .slice none 0 0, .slice none 0 0] 37 (0, 0)) := by simpa using g2n
  clear g2n
  replace o2 := slO_turn tInt_law o2 hw (fun b h1 h2 => by first | (have := h1.1; omega) | (have := q2 b h1; omega))
  replace hb := below_turn hb hw (fun b h => by omega) (by omega)
  have hz0 := hw.size
  clear hw
  generalize (w1.setCell ⟨w.heap.size + 1 + 1, 2, none⟩ (.slice ua2 x2.length uc2)) = W1 at *
  refine (toIntS_S v3 x3 W1 (slR_below tInt_law H3.out hb) S3.out).mono ?_
  rintro e w2 ⟨u3, rfl, o3, b1⟩
  obtain ⟨ua3, uc3, rfl⟩ := slO_len o3
  replace o3 := slO_mono (slO_lt tInt_law o3) (F' := fun b => W1.heap.size ≤ b ∧ b < w2.heap.size) (fun b h => h)
  replace g0 := (b1.block _ (by omega)).trans g0
  replace g1 := (b1.block _ (by omega)).trans g1
  replace g2 := (b1.block _ (by omega)).trans g2
  replace o2 := slO_fresh tInt_law o2 b1
  have zz2 := b1.size
  replace hb := hb.trans (b1.mono (by omega))
  clear b1
  have c2_0 := (cell_of_row w2 _ 0 _ _ _ g2).trans (show _ = some (Value.int .i64 a0) from rfl)
  have f2_0 := frozen_of_row w2 _ 0 _ _ g2
  have c2_1 := (cell_of_row w2 _ 1 _ _ _ g2).trans (show _ = some (Value.int .i64 a1) from rfl)
  have f2_1 := frozen_of_row w2 _ 1 _ _ g2
  have c2_2 := (cell_of_row w2 _ 2 _ _ _ g2).trans (show _ = some (Value.slice ua2 x2.length uc2) from rfl)
  have f2_2 := frozen_of_row w2 _ 2 _ _ g2
  have c2_3 := (cell_of_row w2 _ 3 _ _ _ g2).trans (show _ = some (Value.slice none 0 0) from rfl)
  have f2_3 := frozen_of_row w2 _ 3 _ _ g2
  have ne1 : ¬ w.heap.size = w.heap.size + 1 + 1 := by omega
  have ne2 : ¬ w.heap.size + 1 = w.heap.size + 1 + 1 := by omega
  have ne3 : ¬ w.heap.size + 1 + 1 = w.heap.size + 1 := by omega
  have c0_4 := (cell_of_row w2 _ 4 _ _ _ g0).trans (show _ = some (v4) from rfl)
  have l0_4 : (w2.setCell ⟨w.heap.size + 1 + 1, 3, none⟩ (.slice ua3 x3.length uc3)).cell? ⟨w.heap.size, 4, none⟩ = some (v4) := by
    have m : (w2.setCell ⟨w.heap.size + 1 + 1, 3, none⟩ (.slice ua3 x3.length uc3)).heap[w.heap.size]? = some (.cells #[.int .i64 a0, .int .i64 a1, v2, v3, v4] 35 (0, 0)) := by
      repeat rw [heap_setCell_other _ _ _ _ (by simp <;> omega)]
      exact g0
    exact (cell_of_row _ _ 4 _ _ _ m).trans rfl
  go_wp2_with fail
  clear c2_0 f2_0 c2_1 f2_1 c2_2 f2_2 c2_3 f2_3 ne1 ne2 ne3 c0_4 l0_4
  have hw : Turn (fun b => b = w.heap.size + 1 + 1) w2 (w2.setCell ⟨w.heap.size + 1 + 1, 3, none⟩ (.slice ua3 x3.length uc3)) := by
    first | exact ((Turn.refl (fun b => b = w.heap.size + 1 + 1) _).trans (turn_set (G := fun b => b = w.heap.size + 1 + 1) (g := w.heap.size + 1 + 1) (j := 3) (u := .slice ua3 x3.length uc3) rfl)) | skip
  replace g0 := (hw.block _ (by omega) (by omega)).trans g0
  replace g1 := (hw.block _ (by omega) (by omega)).trans g1
  have g2n := (heap_setCell_same _ (w.heap.size + 1 + 1) 3 _ _ (.slice ua3 x3.length uc3) g2)
  replace g2 : (w2.setCell ⟨w.heap.size + 1 + 1, 3, none⟩ (.slice ua3 x3.length uc3)).heap[w.heap.size + 1 + 1]? = some (.cells #[.int .i64 a0, .int .i64 a1, .slice ua2 x2.length uc2, .slice ua3 x3.length uc3, .slice none 0 0] 37 (0, 0)) := by simpa using g2n
  clear g2n
  replace o2 := slO_turn tInt_law o2 hw (fun b h1 h2 => by first | (have := h1.1; omega) | (have := q2 b h1; omega))
  replace o3 := slO_turn tInt_law o3 hw (fun b h1 h2 => by first | (have := h1.1; omega) | (have := q3 b h1; omega))
  replace hb := below_turn hb hw (fun b h => by omega) (by omega)
  have hz1 := hw.size
  clear hw
  generalize (w2.setCell ⟨w.heap.size + 1 + 1, 3, none⟩ (.slice ua3 x3.length uc3)) = W2 at *
  refine (toIntS_S v4 x4 W2 (slR_below tInt_law H4.out hb) S4.out).mono ?_
  rintro e w3 ⟨u4, rfl, o4, b1⟩
  obtain ⟨ua4, uc4, rfl⟩ := slO_len o4
  replace o4 := slO_mono (slO_lt tInt_law o4) (F' := fun b => W2.heap.size ≤ b ∧ b < w3.heap.size) (fun b h => h)
  replace g0 := (b1.block _ (by omega)).trans g0
  replace g1 := (b1.block _ (by omega)).trans g1
  replace g2 := (b1.block _ (by omega)).trans g2
  replace o2 := slO_fresh tInt_law o2 b1
  replace o3 := slO_fresh tInt_law o3 b1
  have zz3 := b1.size
  replace hb := hb.trans (b1.mono (by omega))
  clear b1
  have c2_0 := (cell_of_row w3 _ 0 _ _ _ g2).trans (show _ = some (Value.int .i64 a0) from rfl)
  have f2_0 := frozen_of_row w3 _ 0 _ _ g2
  have c2_1 := (cell_of_row w3 _ 1 _ _ _ g2).trans (show _ = some (Value.int .i64 a1) from rfl)
  have f2_1 := frozen_of_row w3 _ 1 _ _ g2
  have c2_2 := (cell_of_row w3 _ 2 _ _ _ g2).trans (show _ = some (Value.slice ua2 x2.length uc2) from rfl)
  have f2_2 := frozen_of_row w3 _ 2 _ _ g2
  have c2_3 := (cell_of_row w3 _ 3 _ _ _ g2).trans (show _ = some (Value.slice ua3 x3.length uc3) from rfl)
  have f2_3 := frozen_of_row w3 _ 3 _ _ g2
  have c2_4 := (cell_of_row w3 _ 4 _ _ _ g2).trans (show _ = some (Value.slice none 0 0) from rfl)
  have f2_4 := frozen_of_row w3 _ 4 _ _ g2
  have ne1 : ¬ w.heap.size = w.heap.size + 1 + 1 := by omega
  have ne2 : ¬ w.heap.size + 1 = w.heap.size + 1 + 1 := by omega
  have ne3 : ¬ w.heap.size + 1 + 1 = w.heap.size + 1 := by omega
  have c1_0 := (cell_of_row w3 _ 0 _ _ _ g1).trans (show _ = some (Value.int .i64 0) from rfl)
  have f1_0 := frozen_of_row w3 _ 0 _ _ g1
  have c1_1 := (cell_of_row w3 _ 1 _ _ _ g1).trans (show _ = some (Value.int .i64 0) from rfl)
  have f1_1 := frozen_of_row w3 _ 1 _ _ g1
  have c1_2 := (cell_of_row w3 _ 2 _ _ _ g1).trans (show _ = some (Value.slice none 0 0) from rfl)
  have f1_2 := frozen_of_row w3 _ 2 _ _ g1
  have c1_3 := (cell_of_row w3 _ 3 _ _ _ g1).trans (show _ = some (Value.slice none 0 0) from rfl)
  have f1_3 := frozen_of_row w3 _ 3 _ _ g1
  have c1_4 := (cell_of_row w3 _ 4 _ _ _ g1).trans (show _ = some (Value.slice none 0 0) from rfl)
  have f1_4 := frozen_of_row w3 _ 4 _ _ g1
  go_wp2
  clear c2_0 f2_0 c2_1 f2_1 c2_2 f2_2 c2_3 f2_3 c2_4 f2_4 ne1 ne2 ne3 c1_0 f1_0 c1_1 f1_1 c1_2 f1_2 c1_3 f1_3 c1_4 f1_4
  have hw : Turn (fun b => b = w.heap.size + 1 ∨ b = w.heap.size + 1 + 1) w3 ((((((w3.setCell ⟨w.heap.size + 1 + 1, 4, none⟩ (.slice ua4 x4.length uc4)).setCell ⟨w.heap.size + 1, 0, none⟩ (.int .i64 a0)).setCell ⟨w.heap.size + 1, 1, none⟩ (.int .i64 a1)).setCell ⟨w.heap.size + 1, 2, none⟩ (.slice ua2 x2.length uc2)).setCell ⟨w.heap.size + 1, 3, none⟩ (.slice ua3 x3.length uc3)).setCell ⟨w.heap.size + 1, 4, none⟩ (.slice ua4 x4.length uc4)) := by
    first | exact (((((((Turn.refl _ _).trans (turn_set (g := w.heap.size + 1 + 1) (j := 4) (u := .slice ua4 x4.length uc4) (Or.inr rfl))).trans (turn_set (g := w.heap.size + 1) (j := 0) (u := .int .i64 a0) (Or.inl rfl))).trans (turn_set (g := w.heap.size + 1) (j := 1) (u := .int .i64 a1) (Or.inl rfl))).trans (turn_set (g := w.heap.size + 1) (j := 2) (u := .slice ua2 x2.length uc2) (Or.inl rfl))).trans (turn_set (g := w.heap.size + 1) (j := 3) (u := .slice ua3 x3.length uc3) (Or.inl rfl))).trans (turn_set (g := w.heap.size + 1) (j := 4) (u := .slice ua4 x4.length uc4) (Or.inl rfl))) | skip
  have r := (heap_setCell_same _ (w.heap.size + 1) 4 _ _ (.slice ua4 x4.length uc4) (heap_setCell_same _ (w.heap.size + 1) 3 _ _ (.slice ua3 x3.length uc3) (heap_setCell_same _ (w.heap.size + 1) 2 _ _ (.slice ua2 x2.length uc2) (heap_setCell_same _ (w.heap.size + 1) 1 _ _ (.int .i64 a1) (heap_setCell_same _ (w.heap.size + 1) 0 _ _ (.int .i64 a0) ((heap_setCell_other _ ⟨w.heap.size + 1 + 1, 4, none⟩ (w.heap.size + 1) (.slice ua4 x4.length uc4) (by simp)).trans g1))))))
  have e0 := cell_of_row _ _ 0 _ _ _ r
  have e1 := cell_of_row _ _ 1 _ _ _ r
  have e2 := cell_of_row _ _ 2 _ _ _ r
  have e3 := cell_of_row _ _ 3 _ _ _ r
  have e4 := cell_of_row _ _ 4 _ _ _ r
  simp at e0 e1 e2 e3 e4
  replace o2 := slO_turn tInt_law o2 hw (fun b h1 h2 => by first | (have := h1.1; omega) | (have := q2 b h1; omega))
  replace o3 := slO_turn tInt_law o3 hw (fun b h1 h2 => by first | (have := h1.1; omega) | (have := q3 b h1; omega))
  replace o4 := slO_turn tInt_law o4 hw (fun b h1 h2 => by first | (have := h1.1; omega) | (have := q4 b h1; omega))
  replace hb := below_turn hb hw (fun b h => by omega) (by omega)
  refine bodyPost_ret (v := .agg #[.int .i64 a0, .int .i64 a1, .slice ua2 x2.length uc2, .slice ua3 x3.length uc3, .slice ua4 x4.length uc4]) ?_ rfl ?_
  · simp [results, Try.f15, go_sem, e0, e1, e2, e3, e4]
  · exact ⟨[.int .i64 a0, .int .i64 a1, .slice ua2 x2.length uc2, .slice ua3 x3.length uc3, .slice ua4 x4.length uc4], rfl, tCharge_mkO o2 o3 o4 (fun b h => by show w.heap.size ≤ b; first | (have := h.1; omega) | (have := q2 b h; omega)) (fun b h => by show w.heap.size ≤ b; first | (have := h.1; omega) | (have := q3 b h; omega)) (fun b h => by show w.heap.size ≤ b; first | (have := h.1; omega) | (have := q4 b h; omega)) (fun b h1 h2 => by first | exact d2_3 b h1 h2 | (have := h1.1; have := h1.2; have := h2.1; have := h2.2; omega) | (have := q2 b h1; have := h2.1; have := h2.2; omega) | (have := h1.1; have := h1.2; have := q3 b h2; omega) | (have := q2 b h1; have := q3 b h2; omega)) (fun b h1 h2 => by first | exact d2_4 b h1 h2 | (have := h1.1; have := h1.2; have := h2.1; have := h2.2; omega) | (have := q2 b h1; have := h2.1; have := h2.2; omega) | (have := h1.1; have := h1.2; have := q4 b h2; omega) | (have := q2 b h1; have := q4 b h2; omega)) (fun b h1 h2 => by first | exact d3_4 b h1 h2 | (have := h1.1; have := h1.2; have := h2.1; have := h2.2; omega) | (have := q3 b h1; have := h2.1; have := h2.2; omega) | (have := h1.1; have := h1.2; have := q4 b h2; omega) | (have := q3 b h1; have := q4 b h2; omega)), hb⟩
set_option maxHeartbeats 8000000 in
set_option maxRecDepth 100000 in
theorem eqCharge_T (a0 a1 : Int) (v2 v3 v4 : Value) (x2 : List Int) (x3 : List Int) (x4 : List Int) (u2 u3 u4 : Value) (w : World) (h2 : SlR tInt w v2 x2) (h3 : SlR tInt w v3 x3) (h4 : SlR tInt w v4 x4) (g2 : SlR tInt w u2 x2) (g3 : SlR tInt w u3 x3) (g4 : SlR tInt w u4 x4) (s2 : zL tInt x2 ≤ 1048576) (s3 : zL tInt x3 ≤ 1048576) (s4 : zL tInt x4 ≤ 1048576) :
    Calls Try.prog 17 #[.agg #[.int .i64 a0, .int .i64 a1, v2, v3, v4], .agg #[.int .i64 a0, .int .i64 a1, u2, u3, u4]] w fun e w' => e = .returned (.bool true) ∧ Below w.heap.size w w' := by
  have H2 := Lib.hid h2; have G2 := Lib.hid g2; have S2 := Lib.hid s2
  have H3 := Lib.hid h3; have G3 := Lib.hid g3; have S3 := Lib.hid s3
  have H4 := Lib.hid h4; have G4 := Lib.hid g4; have S4 := Lib.hid s4
  clear h2 g2 s2 h3 g3 s3 h4 g4 s4
  have e0 : (a0 != a0) = false := by simp
  have e1 : (a1 != a1) = false := by simp
  go_enter Try.func17, Try.ntmps17
  go_wp2_with fail
  have hb : Below w.heap.size w ((w.alloc (.cells #[.int .i64 a0, .int .i64 a1, v2, v3, v4] 37)).alloc (.cells #[.int .i64 a0, .int .i64 a1, u2, u3, u4] 37)) := ((Below.refl _ w).alloc (Nat.le_refl _) _).alloc (by simp) _
  have g1 : ((w.alloc (.cells #[.int .i64 a0, .int .i64 a1, v2, v3, v4] 37)).alloc (.cells #[.int .i64 a0, .int .i64 a1, u2, u3, u4] 37)).heap[w.heap.size + 1]? = some (.cells #[.int .i64 a0, .int .i64 a1, u2, u3, u4] 37 (0, 0)) := by
    have := heap_alloc_new (w.alloc (.cells #[.int .i64 a0, .int .i64 a1, v2, v3, v4] 37)) (.cells #[.int .i64 a0, .int .i64 a1, u2, u3, u4] 37)
    simpa only [World.size_alloc] using this
  have g0 : ((w.alloc (.cells #[.int .i64 a0, .int .i64 a1, v2, v3, v4] 37)).alloc (.cells #[.int .i64 a0, .int .i64 a1, u2, u3, u4] 37)).heap[w.heap.size]? = some (.cells #[.int .i64 a0, .int .i64 a1, v2, v3, v4] 37 (0, 0)) := by
    rw [Below.heap_alloc _ _ _ (by simp)]
    exact heap_alloc_new w _
  have hz : w.heap.size + 1 < ((w.alloc (.cells #[.int .i64 a0, .int .i64 a1, v2, v3, v4] 37)).alloc (.cells #[.int .i64 a0, .int .i64 a1, u2, u3, u4] 37)).heap.size := by simp [World.size_alloc]
  generalize ((w.alloc (.cells #[.int .i64 a0, .int .i64 a1, v2, v3, v4] 37)).alloc (.cells #[.int .i64 a0, .int .i64 a1, u2, u3, u4] 37)) = W at *
  refine (eqIntS_S v2 u2 x2 W (slR_below tInt_law H2.out hb) (slR_below tInt_law G2.out hb) S2.out).mono ?_
  rintro e w1 ⟨rfl, b1⟩
  replace g0 := (b1.block _ (by omega)).trans g0
  replace g1 := (b1.block _ (by omega)).trans g1
  have zz0 := b1.size
  replace hb := hb.trans (b1.mono (by omega))
  clear b1
  have p0_3 := (cell_of_row w1 _ 3 _ _ _ g0).trans (show _ = some (v3) from rfl)
  have p1_3 := (cell_of_row w1 _ 3 _ _ _ g1).trans (show _ = some (u3) from rfl)
  go_wp2_with fail
  clear p0_3 p1_3
  refine (eqIntS_S v3 u3 x3 w1 (slR_below tInt_law H3.out hb) (slR_below tInt_law G3.out hb) S3.out).mono ?_
  rintro e w2 ⟨rfl, b1⟩
  replace g0 := (b1.block _ (by omega)).trans g0
  replace g1 := (b1.block _ (by omega)).trans g1
  have zz1 := b1.size
  replace hb := hb.trans (b1.mono (by omega))
  clear b1
  have p0_4 := (cell_of_row w2 _ 4 _ _ _ g0).trans (show _ = some (v4) from rfl)
  have p1_4 := (cell_of_row w2 _ 4 _ _ _ g1).trans (show _ = some (u4) from rfl)
  go_wp2_with fail
  clear p0_4 p1_4
  refine (eqIntS_S v4 u4 x4 w2 (slR_below tInt_law H4.out hb) (slR_below tInt_law G4.out hb) S4.out).mono ?_
  rintro e w3 ⟨rfl, b1⟩
  replace g0 := (b1.block _ (by omega)).trans g0
  replace g1 := (b1.block _ (by omega)).trans g1
  have zz2 := b1.size
  replace hb := hb.trans (b1.mono (by omega))
  clear b1
  go_wp2
  go_ret
  exact ⟨rfl, hb⟩
end Go.Proofs.Ytjeaimdnddelpaa
namespace Go.Proofs.Ytjeaimdnddelpaa
open Go.RowKit
set_option linter.unusedVariables false
set_option linter.unusedSimpArgs false
abbrev tChargeS : Ty (List (Int × Int × List Int × List Int × List Int)) := tSl 37 tCharge
set_option maxHeartbeats 8000000 in
set_option maxRecDepth 100000 in
theorem szChargeS_Y (v : Value) (xs : List (Int × Int × List Int × List Int × List Int)) (k0 : Int) (w : World) (h : SlR tCharge w v xs) (hs : ((zL tCharge xs : Nat) : Int) ≤ k0) (hk : k0 ≤ 1048576) :
    Calls Try.prog 7 #[v, .int .i64 k0] w fun e w' => e = .returned (.int .i64 (k0 - ((zL tCharge xs : Nat) : Int))) ∧ Below w.heap.size w w' := by
  have H := Lib.hid h
  obtain ⟨a, cap, rfl⟩ := slR_len h
  clear h
  have h00 := zTo_le (T := tCharge) (xs := xs) (Nat.zero_le _)
  rw [zTo_zero] at h00
  have HS := Lib.hid hs
  go_enter Try.func7, Try.ntmps7
  have hneg : ¬ k0 - (xs.length : Int) < 0 := by omega
  go_wp2
  clear hneg
  go_loopw [1, 5] (fun l i wr => ∃ k : Nat, k ≤ xs.length ∧ i = .int .i64 k ∧ l = .int .i64 (k0 - (zTo tCharge xs k : Int)) ∧ Below w.heap.size w wr) (fun _ i _ => xs.length - (intOf i).toNat)
  case atStart => exact ⟨0, Nat.zero_le _, rfl, by rw [zTo_zero], Below.refl _ _⟩
  case round =>
    obtain ⟨k, hk', rfl, rfl, hbel⟩ := hrel
    by_cases hlt : k < xs.length
    · have HST := Lib.hid (zTo_step (T := tCharge) hlt)
      have HLE := Lib.hid (zTo_le (T := tCharge) (xs := xs) (k := k + 1) (by omega))
      have i1 : (0 : Int) ≤ (k : Int) := by omega
      have i2 : (k : Int) < (xs.length : Int) := by omega
      obtain ⟨b, off, cap', cs, hv, hbl, hcs, hR⟩ := slR_at (slR_below tCharge_law H.out hbel) hlt
      simp only [Value.slice.injEq] at hv
      obtain ⟨rfl, _, rfl⟩ := hv
      generalize xs.getD k tCharge.d = x at *
      obtain ⟨a0, a1, x2, x3, x4⟩ := x
      obtain ⟨v2, v3, v4, hR'⟩ := tCharge_R hR
      obtain ⟨rfl, h2, h3, h4⟩ := hR'
      have p0 : wr.cell? ⟨b, off + k * 5, none⟩ = some (Value.int .i64 a0) := hcs 0 (by decide)
      have p1 : wr.cell? ⟨b, off + k * 5 + 1, none⟩ = some (Value.int .i64 a1) := hcs 1 (by decide)
      have p2 : wr.cell? ⟨b, off + k * 5 + 2, none⟩ = some (v2) := hcs 2 (by decide)
      have p3 : wr.cell? ⟨b, off + k * 5 + 3, none⟩ = some (v3) := hcs 3 (by decide)
      have p4 : wr.cell? ⟨b, off + k * 5 + 4, none⟩ = some (v4) := hcs 4 (by decide)
      clear hcs
      have HQ : Hid (tCharge.sz (a0, a1, x2, x3, x4) = zL tInt x2 + zL tInt x3 + zL tInt x4) := Lib.hid tCharge_sz
      have hx1 : ((zL tInt x2 + zL tInt x3 + zL tInt x4 : Nat) : Int) ≤ k0 - (zTo tCharge xs k : Int) := by have := HST.out; have := HLE.out; have := HQ.out; omega
      have hx2 : k0 - (zTo tCharge xs k : Int) ≤ 1048576 := by omega
      have hneg : ¬ k0 - (zTo tCharge xs k : Int) - ((zL tInt x2 + zL tInt x3 + zL tInt x4 : Nat) : Int) < 0 := by omega
      have HC := Lib.hid (fun W b => szCharge_Y a0 a1 v2 v3 v4 x2 x3 x4 (k0 - (zTo tCharge xs k : Int)) W (slR_below tInt_law h2 b) (slR_below tInt_law h3 b) (slR_below tInt_law h4 b) hx1 hx2)
      go_wp2_with fail
      refine (HC.out _ (Below.refl _ _)).mono ?_
      rintro e w1 ⟨rfl, b1⟩
      have b2 := hbel.trans (b1.mono hbel.size)
      go_wp2
      go_roundw
      case rel => exact ⟨k + 1, by omega, by go_num, by rw [HST.out, HQ.out]; go_num, b2⟩
      case measure => simp [intOf]; omega
    · obtain rfl : k = xs.length := by omega
      go_wp2
      go_ret
      exact ⟨rfl, hbel⟩
set_option maxHeartbeats 8000000 in
set_option maxRecDepth 100000 in
theorem szChargeS_N (v : Value) (xs : List (Int × Int × List Int × List Int × List Int)) (k0 : Int) (w : World) (h : SlR tCharge w v xs) (hs : k0 < ((zL tCharge xs : Nat) : Int)) (hk : k0 ≤ 1048576) (hp : 0 ≤ k0) (ho : tChargeS.ok xs) :
    Calls Try.prog 7 #[v, .int .i64 k0] w fun e w' => e = .returned (.int .i64 (-1)) ∧ Below w.heap.size w w' := by
  have H := Lib.hid h
  have HX := Lib.hid ho.2
  have hn := ho.1
  have HS := Lib.hid hs
  obtain ⟨a, cap, rfl⟩ := slR_len h
  clear h ho hs
  by_cases h1 : k0 < (xs.length : Int)
  · have hneg : k0 - (xs.length : Int) < 0 := by omega
    go_enter Try.func7, Try.ntmps7
    go_wp2
    go_ret
    exact ⟨rfl, Below.refl _ _⟩
  · go_enter Try.func7, Try.ntmps7
    have hneg : ¬ k0 - (xs.length : Int) < 0 := by omega
    go_wp2
    clear hneg
    go_loopw [1, 5] (fun l i wr => ∃ k : Nat, k ≤ xs.length ∧ i = .int .i64 k ∧ l = .int .i64 (k0 - (zTo tCharge xs k : Int)) ∧ (zTo tCharge xs k : Int) ≤ k0 ∧ Below w.heap.size w wr) (fun _ i _ => xs.length - (intOf i).toNat)
    case atStart => exact ⟨0, Nat.zero_le _, rfl, by rw [zTo_zero], by rw [zTo_zero]; omega, Below.refl _ _⟩
    case round =>
      obtain ⟨k, hk', rfl, rfl, hle, hbel⟩ := hrel
      by_cases hlt : k < xs.length
      · have HST := Lib.hid (zTo_step (T := tCharge) hlt)
        have hx := HX.out k hlt
        have i1 : (0 : Int) ≤ (k : Int) := by omega
        have i2 : (k : Int) < (xs.length : Int) := by omega
        obtain ⟨b, off, cap', cs, hv, hbl, hcs, hR⟩ := slR_at (slR_below tCharge_law H.out hbel) hlt
        simp only [Value.slice.injEq] at hv
        obtain ⟨rfl, _, rfl⟩ := hv
        generalize xs.getD k tCharge.d = x at *
        obtain ⟨a0, a1, x2, x3, x4⟩ := x
        obtain ⟨v2, v3, v4, hR'⟩ := tCharge_R hR
        obtain ⟨rfl, h2, h3, h4⟩ := hR'
        have p0 : wr.cell? ⟨b, off + k * 5, none⟩ = some (Value.int .i64 a0) := hcs 0 (by decide)
        have p1 : wr.cell? ⟨b, off + k * 5 + 1, none⟩ = some (Value.int .i64 a1) := hcs 1 (by decide)
        have p2 : wr.cell? ⟨b, off + k * 5 + 2, none⟩ = some (v2) := hcs 2 (by decide)
        have p3 : wr.cell? ⟨b, off + k * 5 + 3, none⟩ = some (v3) := hcs 3 (by decide)
        have p4 : wr.cell? ⟨b, off + k * 5 + 4, none⟩ = some (v4) := hcs 4 (by decide)
        clear hcs
        have HQ : Hid (tCharge.sz (a0, a1, x2, x3, x4) = zL tInt x2 + zL tInt x3 + zL tInt x4) := Lib.hid tCharge_sz
        obtain ⟨_, ⟨_, ⟨o2, ⟨o3, o4⟩⟩⟩⟩ := hx
        have hz0 : (0 : Int) ≤ (zTo tCharge xs k : Int) := by omega
        by_cases hg : ((zL tInt x2 + zL tInt x3 + zL tInt x4 : Nat) : Int) ≤ k0 - (zTo tCharge xs k : Int)
        · have hx2 : k0 - (zTo tCharge xs k : Int) ≤ 1048576 := by omega
          have hneg : ¬ k0 - (zTo tCharge xs k : Int) - ((zL tInt x2 + zL tInt x3 + zL tInt x4 : Nat) : Int) < 0 := by omega
          have HC := Lib.hid (fun W b => szCharge_Y a0 a1 v2 v3 v4 x2 x3 x4 (k0 - (zTo tCharge xs k : Int)) W (slR_below tInt_law h2 b) (slR_below tInt_law h3 b) (slR_below tInt_law h4 b) hg hx2)
          go_wp2_with fail
          refine (HC.out _ (Below.refl _ _)).mono ?_
          rintro e w1 ⟨rfl, b1⟩
          have b2 := hbel.trans (b1.mono hbel.size)
          go_wp2
          go_roundw
          case rel => exact ⟨k + 1, by omega, by go_num, by rw [HST.out, HQ.out]; go_num, by rw [HST.out, HQ.out]; omega, b2⟩
          case measure => simp [intOf]; omega
        · have hx1 : k0 - (zTo tCharge xs k : Int) < ((zL tInt x2 + zL tInt x3 + zL tInt x4 : Nat) : Int) := by omega
          have hx0 : 0 ≤ k0 - (zTo tCharge xs k : Int) := by omega
          have hx2 : k0 - (zTo tCharge xs k : Int) ≤ 1048576 := by omega
          have HC := Lib.hid (fun W b => szCharge_N a0 a1 v2 v3 v4 x2 x3 x4 (k0 - (zTo tCharge xs k : Int)) W (slR_below tInt_law h2 b) (slR_below tInt_law h3 b) (slR_below tInt_law h4 b) hx1 hx2 hx0 o2 o3 o4)
          clear hg
          go_wp2_with fail
          refine (HC.out _ (Below.refl _ _)).mono ?_
          rintro e w1 ⟨rfl, b1⟩
          have b2 := hbel.trans (b1.mono hbel.size)
          go_wp2
          go_ret
          exact ⟨rfl, b2⟩
      · obtain rfl : k = xs.length := by omega
        exact absurd HS.out (by show ¬ k0 < ((zTo tCharge xs xs.length : Nat) : Int); omega)
theorem Try.info_Charge : (Try.prog.info? 37).map (fun i => (i.zero, i.size)) = some (some (.agg #[.int .i64 0, .int .i64 0, .slice none 0 0, .slice none 0 0, .slice none 0 0]), 5) := by kernel_rfl
theorem Try.bytes_Charge : ((Try.prog.info? 37).map (fun i => decide (i.bytes ≤ 512))) = some true := by kernel_rfl
theorem tCharge_zero (w : World) : tCharge.O w (fun _ => False) #[.int .i64 0, .int .i64 0, .slice none 0 0, .slice none 0 0, .slice none 0 0].toList tCharge.d := tCharge_mkO (slO_nil _ _ _ (fun _ => False)) (slO_nil _ _ _ (fun _ => False)) (slO_nil _ _ _ (fun _ => False)) (fun b h => h) (fun b h => h) (fun b h => h) (fun b h _ => h) (fun b h _ => h) (fun b h _ => h)
set_option maxHeartbeats 8000000 in
set_option maxRecDepth 100000 in
theorem toChargeS_S (v : Value) (xs : List (Int × Int × List Int × List Int × List Int)) (w : World) (h : SlR tCharge w v xs) (hs : zL tCharge xs ≤ 1048576) :
    Calls Try.prog 9 #[v] w (FreshS 37 tCharge w xs) := by
  obtain ⟨i0, hi, hz0, hz1⟩ : ∃ i0, Try.prog.info? 37 = some i0 ∧ i0.zero = some (.agg #[.int .i64 0, .int .i64 0, .slice none 0 0, .slice none 0 0, .slice none 0 0]) ∧ i0.size = 5 := by
    have h0 := Try.info_Charge
    cases q : Try.prog.info? 37 with
    | none => rw [q] at h0; simp at h0
    | some i => rw [q] at h0; simp only [Option.map_some, Option.some.injEq, Prod.mk.injEq] at h0; exact ⟨i, rfl, h0.1, h0.2⟩
  have hz2 : i0.bytes ≤ 512 := by
    have h0 := Try.bytes_Charge
    rw [hi] at h0
    simpa using h0
  have HI := Lib.hid hi; have HZ0 := Lib.hid hz0; have HZ1 := Lib.hid hz1; have HZ2 := Lib.hid hz2
  clear hi hz0 hz1 hz2
  have H := Lib.hid h
  have hlen := zL_len hs
  have HS := Lib.hid hs
  obtain ⟨a, cap, rfl⟩ := slR_len h
  clear h hs
  go_enter Try.func9, Try.ntmps9
  go_wp2_with (at_make; refine wpList_make_full _ rfl (.tmp 6) (.tmp 6) 27 rfl w.heap.size 37 i0 (.agg #[.int .i64 0, .int .i64 0, .slice none 0 0, .slice none 0 0, .slice none 0 0]) 5 Try.underlying27 HI.out HZ0.out HZ1.out _ _ _ _ xs.length rfl rfl rfl rfl (by have h9 := Nat.mul_le_mul HZ2.out hlen; have h8 := Nat.mul_le_mul hlen HZ2.out; omega) (by unfold maxLen; omega) (Nat.le_refl _) ?_)
  intro w1 hown0 hg0
  have hown1 : SlO 37 tCharge w1 (since w) (.slice (some ⟨w.heap.size, 0, none⟩) xs.length xs.length) (List.replicate xs.length tCharge.d) := slO_made (z := #[.int .i64 0, .int .i64 0, .slice none 0 0, .slice none 0 0, .slice none 0 0]) tCharge_law rfl (tCharge_zero w1) (Nat.le_refl _) hown0
  have hbel1 := (Below.refl w.heap.size w).grown hg0 (Nat.le_refl _) (fun k hk => by cases hk)
  clear hown0 hg0
  go_wp2
  go_loopw [4] (fun i wr => ∃ k : Nat, k ≤ xs.length ∧ i = .int .i64 k ∧ SlO 37 tCharge wr (since w) (.slice (some ⟨w.heap.size, 0, none⟩) xs.length xs.length) (xs.take k ++ List.replicate (xs.length - k) tCharge.d) ∧ Below w.heap.size w wr) (fun i _ => xs.length - (intOf i).toNat)
  case atStart => exact ⟨0, Nat.zero_le _, rfl, by simpa using hown1, hbel1⟩
  case round =>
    obtain ⟨k, hk, rfl, hown, hbel⟩ := hrel
    by_cases hlt : k < xs.length
    · have HSET := Lib.hid (cTo_step (d := tCharge.d) hlt)
      have HKL : Hid (k < (xs.take k ++ List.replicate (xs.length - k) tCharge.d).length) := Lib.hid (by rw [cTo_len hk]; exact hlt)
      have HLL := Lib.hid (cTo_len (d := tCharge.d) hk)
      have i1 : (0 : Int) ≤ (k : Int) := by omega
      have i2 : (k : Int) < (xs.length : Int) := by omega
      have hzx := zL_at HS.out hlt
      obtain ⟨b, off, cap', cs, hv, hbl, hcs, hR⟩ := slR_at (slR_below tCharge_law H.out hbel) hlt
      simp only [Value.slice.injEq] at hv
      obtain ⟨rfl, _, rfl⟩ := hv
      obtain ⟨hme, hFg, hgl, cj, Fj, Lc, hrow, hLc, hO, hFj, hput⟩ := slO_open tCharge_law hown HKL.out
      clear hme
      clear hown1 hbel1
      generalize xs.getD k tCharge.d = x at *
      generalize xs.take k ++ List.replicate (xs.length - k) tCharge.d = ys at *
      obtain ⟨a0, a1, x2, x3, x4⟩ := x
      obtain ⟨v2, v3, v4, hR'⟩ := tCharge_R hR
      obtain ⟨rfl, h2, h3, h4⟩ := hR'
      have p0 : wr.cell? ⟨b, off + k * 5, none⟩ = some (Value.int .i64 a0) := hcs 0 (by decide)
      have p1 : wr.cell? ⟨b, off + k * 5 + 1, none⟩ = some (Value.int .i64 a1) := hcs 1 (by decide)
      have p2 : wr.cell? ⟨b, off + k * 5 + 2, none⟩ = some (v2) := hcs 2 (by decide)
      have p3 : wr.cell? ⟨b, off + k * 5 + 3, none⟩ = some (v3) := hcs 3 (by decide)
      have p4 : wr.cell? ⟨b, off + k * 5 + 4, none⟩ = some (v4) := hcs 4 (by decide)
      rw [tCharge_sz] at hzx
      have S2 := Lib.hid (show zL tInt x2 ≤ 1048576 by omega)
      have S3 := Lib.hid (show zL tInt x3 ≤ 1048576 by omega)
      have S4 := Lib.hid (show zL tInt x4 ≤ 1048576 by omega)
      have HC := Lib.hid (fun w g2 g3 g4 => toCharge_T a0 a1 v2 v3 v4 x2 x3 x4 w g2 g3 g4 S2.out S3.out S4.out)
      have G2 := Lib.hid h2
      have G3 := Lib.hid h3
      have G4 := Lib.hid h4
      clear hcs hzx h2 h3 h4
      go_wp2_with fail
      refine (HC.out _ G2.out G3.out G4.out).mono ?_
      rintro e w2 ⟨cv, rfl, ow, b2⟩
      replace ow := tCharge_law.lt ow
      have ow2 := ow
      obtain ⟨u2, u3, u4, K2, K3, K4, rfl, o2, o3, o4, _, _, _, _, _, _⟩ := tCharge_O ow2
      obtain ⟨ua2, uc2, rfl⟩ := slO_len o2
      obtain ⟨ua3, uc3, rfl⟩ := slO_len o3
      obtain ⟨ua4, uc4, rfl⟩ := slO_len o4
      clear o2 o3 o4
      have r0 := row_turn (G := fun _ => False) hrow (turn_below b2) (fun _ _ => not_false)
      rw [HLL.out] at r0
      have q0 : ∃ x, w2.cell? ⟨w.heap.size, k * 5, none⟩ = some x := ⟨_, (World.ownsRow.cellAt r0 (k * 5) (by have := HKL.out; rw [HLL.out] at this; show _ < xs.length * 5; omega)).trans (List.getElem?_eq_getElem (by have h1 : Lc.length = xs.length * 5 := r0.1; omega))⟩
      obtain ⟨y0, q0⟩ := q0
      have f0 := World.ownsRow.frozenAt r0 (k * 5)
      have q1 : ∃ x, w2.cell? ⟨w.heap.size, k * 5 + 1, none⟩ = some x := ⟨_, (World.ownsRow.cellAt r0 (k * 5 + 1) (by have := HKL.out; rw [HLL.out] at this; show _ < xs.length * 5; omega)).trans (List.getElem?_eq_getElem (by have h1 : Lc.length = xs.length * 5 := r0.1; omega))⟩
      obtain ⟨y1, q1⟩ := q1
      have f1 := World.ownsRow.frozenAt r0 (k * 5 + 1)
      have q2 : ∃ x, w2.cell? ⟨w.heap.size, k * 5 + 2, none⟩ = some x := ⟨_, (World.ownsRow.cellAt r0 (k * 5 + 2) (by have := HKL.out; rw [HLL.out] at this; show _ < xs.length * 5; omega)).trans (List.getElem?_eq_getElem (by have h1 : Lc.length = xs.length * 5 := r0.1; omega))⟩
      obtain ⟨y2, q2⟩ := q2
      have f2 := World.ownsRow.frozenAt r0 (k * 5 + 2)
      have q3 : ∃ x, w2.cell? ⟨w.heap.size, k * 5 + 3, none⟩ = some x := ⟨_, (World.ownsRow.cellAt r0 (k * 5 + 3) (by have := HKL.out; rw [HLL.out] at this; show _ < xs.length * 5; omega)).trans (List.getElem?_eq_getElem (by have h1 : Lc.length = xs.length * 5 := r0.1; omega))⟩
      obtain ⟨y3, q3⟩ := q3
      have f3 := World.ownsRow.frozenAt r0 (k * 5 + 3)
      have q4 : ∃ x, w2.cell? ⟨w.heap.size, k * 5 + 4, none⟩ = some x := ⟨_, (World.ownsRow.cellAt r0 (k * 5 + 4) (by have := HKL.out; rw [HLL.out] at this; show _ < xs.length * 5; omega)).trans (List.getElem?_eq_getElem (by have h1 : Lc.length = xs.length * 5 := r0.1; omega))⟩
      obtain ⟨y4, q4⟩ := q4
      have f4 := World.ownsRow.frozenAt r0 (k * 5 + 4)
      have b3 := hbel.trans (b2.mono hbel.size)
      have B3 := Lib.hid (((((b3.setCell (p := ⟨w.heap.size, k * 5, none⟩) (Nat.le_refl _) (.int .i64 a0)).setCell (p := ⟨w.heap.size, k * 5 + 1, none⟩) (Nat.le_refl _) (.int .i64 a1)).setCell (p := ⟨w.heap.size, k * 5 + 2, none⟩) (Nat.le_refl _) (.slice ua2 x2.length uc2)).setCell (p := ⟨w.heap.size, k * 5 + 3, none⟩) (Nat.le_refl _) (.slice ua3 x3.length uc3)).setCell (p := ⟨w.heap.size, k * 5 + 4, none⟩) (Nat.le_refl _) (.slice ua4 x4.length uc4))
      have hT : Turn (fun b => b = w.heap.size ∨ Fj b ∨ wr.heap.size ≤ b) wr (((((w2.setCell ⟨w.heap.size, k * 5, none⟩ (.int .i64 a0)).setCell ⟨w.heap.size, k * 5 + 1, none⟩ (.int .i64 a1)).setCell ⟨w.heap.size, k * 5 + 2, none⟩ (.slice ua2 x2.length uc2)).setCell ⟨w.heap.size, k * 5 + 3, none⟩ (.slice ua3 x3.length uc3)).setCell ⟨w.heap.size, k * 5 + 4, none⟩ (.slice ua4 x4.length uc4)) := ((((((turn_below b2).trans (turn_set (j := k * 5) (u := .int .i64 a0) (Or.inl rfl))).trans (turn_set (j := k * 5 + 1) (u := .int .i64 a1) (Or.inl rfl))).trans (turn_set (j := k * 5 + 2) (u := .slice ua2 x2.length uc2) (Or.inl rfl))).trans (turn_set (j := k * 5 + 3) (u := .slice ua3 x3.length uc3) (Or.inl rfl))).trans (turn_set (j := k * 5 + 4) (u := .slice ua4 x4.length uc4) (Or.inl rfl)))
      have hT2 : Turn (fun b => b = w.heap.size) w2 (((((w2.setCell ⟨w.heap.size, k * 5, none⟩ (.int .i64 a0)).setCell ⟨w.heap.size, k * 5 + 1, none⟩ (.int .i64 a1)).setCell ⟨w.heap.size, k * 5 + 2, none⟩ (.slice ua2 x2.length uc2)).setCell ⟨w.heap.size, k * 5 + 3, none⟩ (.slice ua3 x3.length uc3)).setCell ⟨w.heap.size, k * 5 + 4, none⟩ (.slice ua4 x4.length uc4)) := ((((((Turn.refl (fun b => b = w.heap.size) _).trans (turn_set (G := fun b => b = w.heap.size) (j := k * 5) (u := .int .i64 a0) rfl)).trans (turn_set (G := fun b => b = w.heap.size) (j := k * 5 + 1) (u := .int .i64 a1) rfl)).trans (turn_set (G := fun b => b = w.heap.size) (j := k * 5 + 2) (u := .slice ua2 x2.length uc2) rfl)).trans (turn_set (G := fun b => b = w.heap.size) (j := k * 5 + 3) (u := .slice ua3 x3.length uc3) rfl)).trans (turn_set (G := fun b => b = w.heap.size) (j := k * 5 + 4) (u := .slice ua4 x4.length uc4) rfl))
      have hO2 := tCharge_law.turn ow hT2 (fun b h1 h2 => by have := h1.1; simp only [since] at this; omega)
      have r9 := (World.ownsRow.stored (World.ownsRow.stored (World.ownsRow.stored (World.ownsRow.stored (World.ownsRow.stored r0 (k * 5) (.int .i64 a0)).1 (k * 5 + 1) (.int .i64 a1)).1 (k * 5 + 2) (.slice ua2 x2.length uc2)).1 (k * 5 + 3) (.slice ua3 x3.length uc3)).1 (k * 5 + 4) (.slice ua4 x4.length uc4)).1
      have hLl : Lc.length = xs.length * 5 := r0.1
      have hst := Lib.hid (hput (((((w2.setCell ⟨w.heap.size, k * 5, none⟩ (.int .i64 a0)).setCell ⟨w.heap.size, k * 5 + 1, none⟩ (.int .i64 a1)).setCell ⟨w.heap.size, k * 5 + 2, none⟩ (.slice ua2 x2.length uc2)).setCell ⟨w.heap.size, k * 5 + 3, none⟩ (.slice ua3 x3.length uc3)).setCell ⟨w.heap.size, k * 5 + 4, none⟩ (.slice ua4 x4.length uc4)) (((((Lc.set (k * 5) (.int .i64 a0)).set (k * 5 + 1) (.int .i64 a1)).set (k * 5 + 2) (.slice ua2 x2.length uc2)).set (k * 5 + 3) (.slice ua3 x3.length uc3)).set (k * 5 + 4) (.slice ua4 x4.length uc4)) [.int .i64 a0, .int .i64 a1, .slice ua2 x2.length uc2, .slice ua3 x3.length uc3, .slice ua4 x4.length uc4] _ (a0, a1, x2, x3, x4) (by rw [HLL.out]; exact r9) (fun p hp => by have hp2 : p < k * 5 ∨ k * 5 + 5 ≤ p := hp; rw [List.getElem?_set_ne (by omega)]; rw [List.getElem?_set_ne (by omega)]; rw [List.getElem?_set_ne (by omega)]; rw [List.getElem?_set_ne (by omega)]; rw [List.getElem?_set_ne (by omega)]) (fun i hi => by have hi' : i < 5 := hi; match i, hi' with | 0, _ => (show ((((((Lc.set (k * 5) (.int .i64 a0)).set (k * 5 + 1) (.int .i64 a1)).set (k * 5 + 2) (.slice ua2 x2.length uc2)).set (k * 5 + 3) (.slice ua3 x3.length uc3)).set (k * 5 + 4) (.slice ua4 x4.length uc4)))[k * 5]? = _; rw [List.getElem?_set_ne (by omega)]; rw [List.getElem?_set_ne (by omega)]; rw [List.getElem?_set_ne (by omega)]; rw [List.getElem?_set_ne (by omega)]; rw [List.getElem?_set_self (by first | omega | (simp only [List.length_set]; omega))]; rfl) | 1, _ => (show ((((((Lc.set (k * 5) (.int .i64 a0)).set (k * 5 + 1) (.int .i64 a1)).set (k * 5 + 2) (.slice ua2 x2.length uc2)).set (k * 5 + 3) (.slice ua3 x3.length uc3)).set (k * 5 + 4) (.slice ua4 x4.length uc4)))[k * 5 + 1]? = _; rw [List.getElem?_set_ne (by omega)]; rw [List.getElem?_set_ne (by omega)]; rw [List.getElem?_set_ne (by omega)]; rw [List.getElem?_set_self (by first | omega | (simp only [List.length_set]; omega))]; rfl) | 2, _ => (show ((((((Lc.set (k * 5) (.int .i64 a0)).set (k * 5 + 1) (.int .i64 a1)).set (k * 5 + 2) (.slice ua2 x2.length uc2)).set (k * 5 + 3) (.slice ua3 x3.length uc3)).set (k * 5 + 4) (.slice ua4 x4.length uc4)))[k * 5 + 2]? = _; rw [List.getElem?_set_ne (by omega)]; rw [List.getElem?_set_ne (by omega)]; rw [List.getElem?_set_self (by first | omega | (simp only [List.length_set]; omega))]; rfl) | 3, _ => (show ((((((Lc.set (k * 5) (.int .i64 a0)).set (k * 5 + 1) (.int .i64 a1)).set (k * 5 + 2) (.slice ua2 x2.length uc2)).set (k * 5 + 3) (.slice ua3 x3.length uc3)).set (k * 5 + 4) (.slice ua4 x4.length uc4)))[k * 5 + 3]? = _; rw [List.getElem?_set_ne (by omega)]; rw [List.getElem?_set_self (by first | omega | (simp only [List.length_set]; omega))]; rfl) | 4, _ => (show ((((((Lc.set (k * 5) (.int .i64 a0)).set (k * 5 + 1) (.int .i64 a1)).set (k * 5 + 2) (.slice ua2 x2.length uc2)).set (k * 5 + 3) (.slice ua3 x3.length uc3)).set (k * 5 + 4) (.slice ua4 x4.length uc4)))[k * 5 + 4]? = _; rw [List.getElem?_set_self (by first | omega | (simp only [List.length_set]; omega))]; rfl)) hO2 (fun b hb => ⟨Nat.le_trans hbel.size hb.1, Or.inr hb.1⟩) hT)
      have hst2 : SlO 37 tCharge (((((w2.setCell ⟨w.heap.size, k * 5, none⟩ (.int .i64 a0)).setCell ⟨w.heap.size, k * 5 + 1, none⟩ (.int .i64 a1)).setCell ⟨w.heap.size, k * 5 + 2, none⟩ (.slice ua2 x2.length uc2)).setCell ⟨w.heap.size, k * 5 + 3, none⟩ (.slice ua3 x3.length uc3)).setCell ⟨w.heap.size, k * 5 + 4, none⟩ (.slice ua4 x4.length uc4)) (since w) (.slice (some ⟨w.heap.size, 0, none⟩) xs.length xs.length) (xs.take (k + 1) ++ List.replicate (xs.length - (k + 1)) tCharge.d) := by have := hst.out; rw [HSET.out] at this; exact this
      have HST := Lib.hid hst2
      clear hst hst2 hT hT2 hO2 r9 r0 hrow hO hput hown hbel b2 ow b3 hLl hLc hFj
      go_wp2
      go_roundw
      case rel => exact ⟨k + 1, by omega, by go_num, HST.out, B3.out⟩
      case measure => simp [intOf]; omega
    · obtain rfl : k = xs.length := by omega
      have HE : Hid (xs.take xs.length ++ List.replicate (xs.length - xs.length) tCharge.d = xs) := Lib.hid (by simp)
      rw [HE.out] at hown
      go_wp2
      go_ret
      exact ⟨_, rfl, hown, hbel⟩
set_option maxHeartbeats 8000000 in
set_option maxRecDepth 100000 in
theorem eqChargeS_S (v u : Value) (xs : List (Int × Int × List Int × List Int × List Int)) (w : World) (h : SlR tCharge w v xs) (g : SlR tCharge w u xs) (hs : zL tCharge xs ≤ 1048576) :
    Calls Try.prog 11 #[v, u] w fun e w' => e = .returned (.bool true) ∧ Below w.heap.size w w' := by
  have H := Lib.hid h
  have G := Lib.hid g
  have HS := Lib.hid hs
  have hlen := zL_len hs
  obtain ⟨a, cap, rfl⟩ := slR_len h
  obtain ⟨a2, cap2, rfl⟩ := slR_len g
  clear h g hs
  go_enter Try.func11, Try.ntmps11
  go_wp2
  go_loopw [5] (fun i wr => ∃ k : Nat, k ≤ xs.length ∧ i = .int .i64 k ∧ Below w.heap.size w wr) (fun i _ => xs.length - (intOf i).toNat)
  case atStart => exact ⟨0, Nat.zero_le _, rfl, Below.refl _ _⟩
  case round =>
    obtain ⟨k, hk, rfl, hbel⟩ := hrel
    by_cases hlt : k < xs.length
    · obtain ⟨b, off, cap', cs, hv, hbl, hcs, hR⟩ := slR_at (slR_below tCharge_law H.out hbel) hlt
      simp only [Value.slice.injEq] at hv
      obtain ⟨rfl, _, rfl⟩ := hv
      obtain ⟨b2, off2, cap2', ds, hv2, hbl2, hds, hQ⟩ := slR_at (slR_below tCharge_law G.out hbel) hlt
      simp only [Value.slice.injEq] at hv2
      obtain ⟨rfl, _, rfl⟩ := hv2
      have hzx := zL_at HS.out hlt
      have i1 : (0 : Int) ≤ (k : Int) := by omega
      have i2 : (k : Int) < (xs.length : Int) := by omega
      generalize xs.getD k tCharge.d = x at *
      obtain ⟨a0, a1, x2, x3, x4⟩ := x
      obtain ⟨v2, v3, v4, hR'⟩ := tCharge_R hR
      obtain ⟨rfl, h2, h3, h4⟩ := hR'
      obtain ⟨u2, u3, u4, hQ'⟩ := tCharge_R hQ
      obtain ⟨rfl, g2, g3, g4⟩ := hQ'
      rw [tCharge_sz] at hzx
      have S2 := Lib.hid (show zL tInt x2 ≤ 1048576 by omega)
      have S3 := Lib.hid (show zL tInt x3 ≤ 1048576 by omega)
      have S4 := Lib.hid (show zL tInt x4 ≤ 1048576 by omega)
      have p0 : wr.cell? ⟨b, off + k * 5, none⟩ = some (Value.int .i64 a0) := hcs 0 (by decide)
      have q0 : wr.cell? ⟨b2, off2 + k * 5, none⟩ = some (Value.int .i64 a0) := hds 0 (by decide)
      have p1 : wr.cell? ⟨b, off + k * 5 + 1, none⟩ = some (Value.int .i64 a1) := hcs 1 (by decide)
      have q1 : wr.cell? ⟨b2, off2 + k * 5 + 1, none⟩ = some (Value.int .i64 a1) := hds 1 (by decide)
      have p2 : wr.cell? ⟨b, off + k * 5 + 2, none⟩ = some (v2) := hcs 2 (by decide)
      have q2 : wr.cell? ⟨b2, off2 + k * 5 + 2, none⟩ = some (u2) := hds 2 (by decide)
      have p3 : wr.cell? ⟨b, off + k * 5 + 3, none⟩ = some (v3) := hcs 3 (by decide)
      have q3 : wr.cell? ⟨b2, off2 + k * 5 + 3, none⟩ = some (u3) := hds 3 (by decide)
      have p4 : wr.cell? ⟨b, off + k * 5 + 4, none⟩ = some (v4) := hcs 4 (by decide)
      have q4 : wr.cell? ⟨b2, off2 + k * 5 + 4, none⟩ = some (u4) := hds 4 (by decide)
      clear hcs hds hzx
      go_wp2
      go_region_with (first | (go_at_call 17; refine (eqCharge_T a0 a1 v2 v3 v4 x2 x3 x4 u2 u3 u4 _ (by exact slR_same tInt_law h2 rfl rfl rfl rfl) (by exact slR_same tInt_law h3 rfl rfl rfl rfl) (by exact slR_same tInt_law h4 rfl rfl rfl rfl) (by exact slR_same tInt_law g2 rfl rfl rfl rfl) (by exact slR_same tInt_law g3 rfl rfl rfl rfl) (by exact slR_same tInt_law g4 rfl rfl rfl rfl) S2.out S3.out S4.out).mono ?_; rintro e w8 ⟨rfl, b9⟩; have b10 : Below wr.heap.size wr w8 := ⟨b9.os, b9.tape, b9.output, b9.size, b9.block⟩))
      all_goals
        have b11 := hbel.trans (b10.mono hbel.size)
        go_wp2
        go_roundw
        case rel => exact ⟨k + 1, by omega, by go_num, b11⟩
        case measure => simp [intOf]; omega
    · go_wp2
      go_ret
      exact ⟨rfl, hbel⟩
end Go.Proofs.Ytjeaimdnddelpaa
namespace Go.Proofs.Ytjeaimdnddelpaa
open Go.RowKit
set_option linter.unusedVariables false
set_option linter.unusedSimpArgs false
end Go.Proofs.Ytjeaimdnddelpaa
namespace Go.Proofs.Ytjeaimdnddelpaa
open Go.RowKit
set_option linter.unusedVariables false
set_option linter.unusedSimpArgs false
theorem chg_at {w : World} {v : Value} {l : List ChargeD} (h : SlR tCharge w v l) {k : Nat} (hk : k < l.length) :
    ∃ (b off cap : Nat) (p2 : Option Addr) (c2 : Nat) (p3 : Option Addr) (c3 : Nat) (p4 : Option Addr) (c4 : Nat), v = .slice (some ⟨b, off, none⟩) l.length cap ∧ b < w.heap.size ∧ w.cell? ⟨b, off + k * 5, none⟩ = some (.int .i64 (l.getD k x0D).1) ∧ w.cell? ⟨b, off + k * 5 + 1, none⟩ = some (.int .i64 (l.getD k x0D).2.1) ∧ w.cell? ⟨b, off + k * 5 + 2, none⟩ = some (.slice p2 (l.getD k x0D).2.2.1.length c2) ∧ w.cell? ⟨b, off + k * 5 + 3, none⟩ = some (.slice p3 (l.getD k x0D).2.2.2.1.length c3) ∧ w.cell? ⟨b, off + k * 5 + 4, none⟩ = some (.slice p4 (l.getD k x0D).2.2.2.2.length c4) ∧ SlR tInt w (.slice p2 (l.getD k x0D).2.2.1.length c2) (l.getD k x0D).2.2.1 ∧ SlR tInt w (.slice p3 (l.getD k x0D).2.2.2.1.length c3) (l.getD k x0D).2.2.2.1 ∧ SlR tInt w (.slice p4 (l.getD k x0D).2.2.2.2.length c4) (l.getD k x0D).2.2.2.2 := by
  obtain ⟨b, off, cap, cs, hv, hb, hc, hR⟩ := slR_at h hk
  change tCharge.R w cs (l.getD k x0D) at hR
  generalize l.getD k x0D = r at *
  obtain ⟨a0, a1, x2, x3, x4⟩ := r
  obtain ⟨v2, v3, v4, rfl, h2, h3, h4⟩ := tCharge_R hR
  obtain ⟨p2, c2, rfl⟩ := slR_len h2
  obtain ⟨p3, c3, rfl⟩ := slR_len h3
  obtain ⟨p4, c4, rfl⟩ := slR_len h4
  exact ⟨b, off, cap, p2, c2, p3, c3, p4, c4, hv, hb, hc 0 (by decide), hc 1 (by decide), hc 2 (by decide), hc 3 (by decide), hc 4 (by decide), h2, h3, h4⟩
theorem ret_n {a b : Int} (h : a = b) : Ending.returned (.int .i64 a) = .returned (.int .i64 b) := by rw [h]
end Go.Proofs.Ytjeaimdnddelpaa
namespace Go.Proofs.Ytjeaimdnddelpaa
open Go.RowKit
set_option linter.unusedVariables false
set_option linter.unusedSimpArgs false
end Go.Proofs.Ytjeaimdnddelpaa
namespace Go.Proofs.Ytjeaimdnddelpaa
open Go.RowKit
set_option linter.unusedVariables false
set_option linter.unusedSimpArgs false
end Go.Proofs.Ytjeaimdnddelpaa
namespace Go.Proofs.Ytjeaimdnddelpaa
open Go.RowKit
set_option linter.unusedVariables false
set_option linter.unusedSimpArgs false
end Go.Proofs.Ytjeaimdnddelpaa
namespace Go.Proofs.Ytjeaimdnddelpaa
open Go.RowKit
set_option linter.unusedVariables false
set_option linter.unusedSimpArgs false
end Go.Proofs.Ytjeaimdnddelpaa
namespace Go.Proofs.Ytjeaimdnddelpaa
open Go.RowKit
set_option linter.unusedVariables false
set_option linter.unusedSimpArgs false
theorem in_any (a l h : Int) (w : World) : Calls Try.prog 12 #[.int .i64 a, .int .i64 l, .int .i64 h] w fun e w' => e = .returned (.bool (decide (l ≤ a ∧ a ≤ h))) ∧ w' = w := by
  by_cases g : l ≤ a ∧ a ≤ h
  · rw [decide_eq_true g]; exact in_yes a l h w g.1 g.2
  · rw [decide_eq_false g]; exact in_no a l h w g
set_option maxHeartbeats 8000000 in
set_option maxRecDepth 100000 in
theorem specIsCharge (sg ba : Int) (iv tv rv : Value) (is ts rs : List Int) (w : World) (h2 : SlR tInt w iv is) (h3 : SlR tInt w tv ts) (h4 : SlR tInt w rv rs) (n2 : is.length ≤ 1048576) (n3 : ts.length ≤ 1048576) (n4 : rs.length ≤ 1048576) :
    Calls Try.prog 19 #[.agg #[.int .i64 sg, .int .i64 ba, iv, tv, rv]] w (fun e w' => e = .returned (.bool (chargeB (sg, ba, is, ts, rs))) ∧ Below w.heap.size w w') := by
  obtain ⟨ia, ic, rfl⟩ := slR_len h2
  obtain ⟨ta, tc, rfl⟩ := slR_len h3
  obtain ⟨ra, rc, rfl⟩ := slR_len h4
  have H2 := Lib.hid h2; have H3 := Lib.hid h3; have H4 := Lib.hid h4
  clear h2 h3 h4
  have d := Lib.hid (show Below w.heap.size w (w.alloc (.cells #[.int .i64 sg, .int .i64 ba, .slice ia is.length ic, .slice ta ts.length tc, .slice ra rs.length rc] 37)) from ((Below.refl _ w).alloc (Nat.le_refl _) _))
  have B0 : Hid ((w.alloc (.cells #[.int .i64 sg, .int .i64 ba, .slice ia is.length ic, .slice ta ts.length tc, .slice ra rs.length rc] 37)).heap[w.heap.size]? = some (.cells #[.int .i64 sg, .int .i64 ba, .slice ia is.length ic, .slice ta ts.length tc, .slice ra rs.length rc] 37 (0, 0))) := Lib.hid (by
    exact heap_alloc_new w _)
  have YW : Hid (w.heap.size + 1 ≤ (w.alloc (.cells #[.int .i64 sg, .int .i64 ba, .slice ia is.length ic, .slice ta ts.length tc, .slice ra rs.length rc] 37)).heap.size) := Lib.hid (by simp [World.size_alloc])
  go_enter Try.func19, Try.ntmps19
  go_wp2_with fail
  generalize (w.alloc (.cells #[.int .i64 sg, .int .i64 ba, .slice ia is.length ic, .slice ta ts.length tc, .slice ra rs.length rc] 37)) = W at *
  refine (specIsSet (.slice ia is.length ic) is W (slR_ints (slR_below tInt_law H2.out d.out)) n2).mono ?_
  rintro e W1 ⟨rfl, c⟩
  replace B0 := Lib.hid ((c.block w.heap.size (Array.getElem?_eq_some_iff.1 B0.out).1).trans B0.out)
  replace d := Lib.hid (d.out.trans (c.mono d.out.size))
  have Z_W1 := Lib.hid (show W.heap.size ≤ W1.heap.size from c.size)
  clear c
  rcases Bool.eq_false_or_eq_true (setB is) with hset | hset
  rotate_left
  · rw [hset]
    have HF := Lib.hid (charge_no1 (x := (sg, ba, is, ts, rs)) hset)
    clear hset
    have p_B0_0 := (cell_of_row W1 _ 0 _ _ _ B0.out).trans (show _ = some (Value.int .i64 sg) from rfl)
    have p_B0_1 := (cell_of_row W1 _ 1 _ _ _ B0.out).trans (show _ = some (Value.int .i64 ba) from rfl)
    have p_B0_2 := (cell_of_row W1 _ 2 _ _ _ B0.out).trans (show _ = some (Value.slice ia is.length ic) from rfl)
    have p_B0_3 := (cell_of_row W1 _ 3 _ _ _ B0.out).trans (show _ = some (Value.slice ta ts.length tc) from rfl)
    have p_B0_4 := (cell_of_row W1 _ 4 _ _ _ B0.out).trans (show _ = some (Value.slice ra rs.length rc) from rfl)
    go_wp2
    clear p_B0_0 p_B0_1 p_B0_2 p_B0_3 p_B0_4
    go_ret
    exact ⟨ret_b HF.out.symm, d.out⟩
  rw [hset]
  have HSET := Lib.hid hset
  clear hset
  by_cases hp1 : is.length ≠ 0
  rotate_left
  · have HF := Lib.hid (charge_no2 (x := (sg, ba, is, ts, rs)) (fun g => by have := g.1.1; simp only at this; omega))
    have f1 : ((is.length : Int) == 0) = true := by simpa using hp1
    clear hp1
    have p_B0_0 := (cell_of_row W1 _ 0 _ _ _ B0.out).trans (show _ = some (Value.int .i64 sg) from rfl)
    have p_B0_1 := (cell_of_row W1 _ 1 _ _ _ B0.out).trans (show _ = some (Value.int .i64 ba) from rfl)
    have p_B0_2 := (cell_of_row W1 _ 2 _ _ _ B0.out).trans (show _ = some (Value.slice ia is.length ic) from rfl)
    have p_B0_3 := (cell_of_row W1 _ 3 _ _ _ B0.out).trans (show _ = some (Value.slice ta ts.length tc) from rfl)
    have p_B0_4 := (cell_of_row W1 _ 4 _ _ _ B0.out).trans (show _ = some (Value.slice ra rs.length rc) from rfl)
    go_wp2
    clear p_B0_0 p_B0_1 p_B0_2 p_B0_3 p_B0_4
    go_ret
    exact ⟨ret_b HF.out.symm, d.out⟩
  have f1 : ((is.length : Int) == 0) = false := by simpa using hp1
  have HP1 := Lib.hid hp1
  clear hp1
  by_cases hp2 : ¬ 8 < is.length
  rotate_left
  · have HF := Lib.hid (charge_no2 (x := (sg, ba, is, ts, rs)) (fun g => by have := g.1.2; simp only at this; omega))
    have f2 : decide ((8 : Int) < (is.length : Int)) = true := decide_eq_true (by omega)
    clear hp2
    have p_B0_0 := (cell_of_row W1 _ 0 _ _ _ B0.out).trans (show _ = some (Value.int .i64 sg) from rfl)
    have p_B0_1 := (cell_of_row W1 _ 1 _ _ _ B0.out).trans (show _ = some (Value.int .i64 ba) from rfl)
    have p_B0_2 := (cell_of_row W1 _ 2 _ _ _ B0.out).trans (show _ = some (Value.slice ia is.length ic) from rfl)
    have p_B0_3 := (cell_of_row W1 _ 3 _ _ _ B0.out).trans (show _ = some (Value.slice ta ts.length tc) from rfl)
    have p_B0_4 := (cell_of_row W1 _ 4 _ _ _ B0.out).trans (show _ = some (Value.slice ra rs.length rc) from rfl)
    go_wp2
    clear p_B0_0 p_B0_1 p_B0_2 p_B0_3 p_B0_4
    go_ret
    exact ⟨ret_b HF.out.symm, d.out⟩
  have f2 : decide ((8 : Int) < (is.length : Int)) = false := decide_eq_false (by omega)
  have HP2 := Lib.hid hp2
  clear hp2
  by_cases hp3 : ts.length = is.length
  rotate_left
  · have HF := Lib.hid (charge_no2 (x := (sg, ba, is, ts, rs)) (fun g => hp3 g.2.1.1))
    have f3 : ((ts.length : Int) != (is.length : Int)) = true := by rw [bne_iff_ne]; omega
    clear hp3
    have p_B0_0 := (cell_of_row W1 _ 0 _ _ _ B0.out).trans (show _ = some (Value.int .i64 sg) from rfl)
    have p_B0_1 := (cell_of_row W1 _ 1 _ _ _ B0.out).trans (show _ = some (Value.int .i64 ba) from rfl)
    have p_B0_2 := (cell_of_row W1 _ 2 _ _ _ B0.out).trans (show _ = some (Value.slice ia is.length ic) from rfl)
    have p_B0_3 := (cell_of_row W1 _ 3 _ _ _ B0.out).trans (show _ = some (Value.slice ta ts.length tc) from rfl)
    have p_B0_4 := (cell_of_row W1 _ 4 _ _ _ B0.out).trans (show _ = some (Value.slice ra rs.length rc) from rfl)
    go_wp2
    clear p_B0_0 p_B0_1 p_B0_2 p_B0_3 p_B0_4
    go_ret
    exact ⟨ret_b HF.out.symm, d.out⟩
  have f3 : ((ts.length : Int) != (is.length : Int)) = false := by rw [bne_eq_false_iff_eq]; omega
  have HP3 := Lib.hid hp3
  clear hp3
  by_cases hp4 : rs.length = is.length
  rotate_left
  · have HF := Lib.hid (charge_no2 (x := (sg, ba, is, ts, rs)) (fun g => hp4 g.2.1.2))
    have f4 : ((rs.length : Int) != (is.length : Int)) = true := by rw [bne_iff_ne]; omega
    clear hp4
    have p_B0_0 := (cell_of_row W1 _ 0 _ _ _ B0.out).trans (show _ = some (Value.int .i64 sg) from rfl)
    have p_B0_1 := (cell_of_row W1 _ 1 _ _ _ B0.out).trans (show _ = some (Value.int .i64 ba) from rfl)
    have p_B0_2 := (cell_of_row W1 _ 2 _ _ _ B0.out).trans (show _ = some (Value.slice ia is.length ic) from rfl)
    have p_B0_3 := (cell_of_row W1 _ 3 _ _ _ B0.out).trans (show _ = some (Value.slice ta ts.length tc) from rfl)
    have p_B0_4 := (cell_of_row W1 _ 4 _ _ _ B0.out).trans (show _ = some (Value.slice ra rs.length rc) from rfl)
    go_wp2
    clear p_B0_0 p_B0_1 p_B0_2 p_B0_3 p_B0_4
    go_ret
    exact ⟨ret_b HF.out.symm, d.out⟩
  have f4 : ((rs.length : Int) != (is.length : Int)) = false := by rw [bne_eq_false_iff_eq]; omega
  have HP4 := Lib.hid hp4
  clear hp4
  have p_B0_0 := (cell_of_row W1 _ 0 _ _ _ B0.out).trans (show _ = some (Value.int .i64 sg) from rfl)
  have p_B0_1 := (cell_of_row W1 _ 1 _ _ _ B0.out).trans (show _ = some (Value.int .i64 ba) from rfl)
  have p_B0_2 := (cell_of_row W1 _ 2 _ _ _ B0.out).trans (show _ = some (Value.slice ia is.length ic) from rfl)
  have p_B0_3 := (cell_of_row W1 _ 3 _ _ _ B0.out).trans (show _ = some (Value.slice ta ts.length tc) from rfl)
  have p_B0_4 := (cell_of_row W1 _ 4 _ _ _ B0.out).trans (show _ = some (Value.slice ra rs.length rc) from rfl)
  go_wp2_with fail
  clear p_B0_0 p_B0_1 p_B0_2 p_B0_3 p_B0_4 f1 f2 f3 f4
  refine (in_any sg 0 7 _).mono ?_
  rintro e wx ⟨rfl, hwx⟩
  obtain rfl := hwx.symm
  rcases Bool.eq_false_or_eq_true (decide (0 ≤ sg ∧ sg ≤ 7)) with hp5 | hp5
  rotate_left
  · rw [hp5]
    have HF := Lib.hid (charge_no2 (x := (sg, ba, is, ts, rs)) (fun g => of_decide_eq_false hp5 g.2.2.1))
    clear hp5
    have p_B0_0 := (cell_of_row W1 _ 0 _ _ _ B0.out).trans (show _ = some (Value.int .i64 sg) from rfl)
    have p_B0_1 := (cell_of_row W1 _ 1 _ _ _ B0.out).trans (show _ = some (Value.int .i64 ba) from rfl)
    have p_B0_2 := (cell_of_row W1 _ 2 _ _ _ B0.out).trans (show _ = some (Value.slice ia is.length ic) from rfl)
    have p_B0_3 := (cell_of_row W1 _ 3 _ _ _ B0.out).trans (show _ = some (Value.slice ta ts.length tc) from rfl)
    have p_B0_4 := (cell_of_row W1 _ 4 _ _ _ B0.out).trans (show _ = some (Value.slice ra rs.length rc) from rfl)
    go_wp2
    clear p_B0_0 p_B0_1 p_B0_2 p_B0_3 p_B0_4
    go_ret
    exact ⟨ret_b HF.out.symm, d.out⟩
  rw [hp5]
  have HP5 := Lib.hid hp5
  clear hp5
  have p_B0_0 := (cell_of_row W1 _ 0 _ _ _ B0.out).trans (show _ = some (Value.int .i64 sg) from rfl)
  have p_B0_1 := (cell_of_row W1 _ 1 _ _ _ B0.out).trans (show _ = some (Value.int .i64 ba) from rfl)
  have p_B0_2 := (cell_of_row W1 _ 2 _ _ _ B0.out).trans (show _ = some (Value.slice ia is.length ic) from rfl)
  have p_B0_3 := (cell_of_row W1 _ 3 _ _ _ B0.out).trans (show _ = some (Value.slice ta ts.length tc) from rfl)
  have p_B0_4 := (cell_of_row W1 _ 4 _ _ _ B0.out).trans (show _ = some (Value.slice ra rs.length rc) from rfl)
  go_wp2_with fail
  clear p_B0_0 p_B0_1 p_B0_2 p_B0_3 p_B0_4
  refine (in_any ba 0 4 _).mono ?_
  rintro e wx ⟨rfl, hwx⟩
  obtain rfl := hwx.symm
  rcases Bool.eq_false_or_eq_true (decide (0 ≤ ba ∧ ba ≤ 4)) with hp6 | hp6
  rotate_left
  · rw [hp6]
    have HF := Lib.hid (charge_no2 (x := (sg, ba, is, ts, rs)) (fun g => of_decide_eq_false hp6 g.2.2.2))
    clear hp6
    have p_B0_0 := (cell_of_row W1 _ 0 _ _ _ B0.out).trans (show _ = some (Value.int .i64 sg) from rfl)
    have p_B0_1 := (cell_of_row W1 _ 1 _ _ _ B0.out).trans (show _ = some (Value.int .i64 ba) from rfl)
    have p_B0_2 := (cell_of_row W1 _ 2 _ _ _ B0.out).trans (show _ = some (Value.slice ia is.length ic) from rfl)
    have p_B0_3 := (cell_of_row W1 _ 3 _ _ _ B0.out).trans (show _ = some (Value.slice ta ts.length tc) from rfl)
    have p_B0_4 := (cell_of_row W1 _ 4 _ _ _ B0.out).trans (show _ = some (Value.slice ra rs.length rc) from rfl)
    go_wp2
    clear p_B0_0 p_B0_1 p_B0_2 p_B0_3 p_B0_4
    go_ret
    exact ⟨ret_b HF.out.symm, d.out⟩
  rw [hp6]
  have HP6 := Lib.hid hp6
  clear hp6
  have HH : Hid (chargeHP (sg, ba, is, ts, rs)) := Lib.hid ⟨⟨by have := HP1.out; show 1 ≤ is.length; omega, by have := HP2.out; show is.length ≤ 8; omega⟩, ⟨HP3.out, HP4.out⟩, of_decide_eq_true HP5.out, of_decide_eq_true HP6.out⟩
  have p_B0_0 := (cell_of_row W1 _ 0 _ _ _ B0.out).trans (show _ = some (Value.int .i64 sg) from rfl)
  have p_B0_1 := (cell_of_row W1 _ 1 _ _ _ B0.out).trans (show _ = some (Value.int .i64 ba) from rfl)
  have p_B0_2 := (cell_of_row W1 _ 2 _ _ _ B0.out).trans (show _ = some (Value.slice ia is.length ic) from rfl)
  have p_B0_3 := (cell_of_row W1 _ 3 _ _ _ B0.out).trans (show _ = some (Value.slice ta ts.length tc) from rfl)
  have p_B0_4 := (cell_of_row W1 _ 4 _ _ _ B0.out).trans (show _ = some (Value.slice ra rs.length rc) from rfl)
  go_wp2
  clear p_B0_0 p_B0_1 p_B0_2 p_B0_3 p_B0_4
  go_loopw [4] (fun i wr => ∃ k : Nat, k ≤ is.length ∧ i = .int .i64 k ∧ Hid (AllTo tenB 0 ts k ∧ AllTo (getB ba) 0 rs k) ∧ Below W1.heap.size W1 wr) (fun i _ => is.length - (intOf i).toNat)
  case atStart => exact ⟨0, Nat.zero_le _, rfl, Lib.hid (⟨allTo_zero _ _ _, allTo_zero _ _ _⟩), Below.refl _ _⟩
  case round =>
    obtain ⟨k, hk, rfl, hno, c⟩ := hrel
    have cw := Lib.hid c
    replace B0 := Lib.hid ((c.block w.heap.size (Array.getElem?_eq_some_iff.1 B0.out).1).trans B0.out)
    replace d := Lib.hid (d.out.trans (c.mono d.out.size))
    clear c
    by_cases hlt : k < is.length
    · have i1 : (0 : Int) ≤ (k : Int) := by omega
      have i2 : (k : Int) < (is.length : Int) := by omega
      have hlt3 : k < ts.length := by have := HP3.out; omega
      have hlt4 : k < rs.length := by have := HP4.out; omega
      have i3 : (k : Int) < (ts.length : Int) := by omega
      have i4 : (k : Int) < (rs.length : Int) := by omega
      obtain ⟨b, off, cap', hv, hbl, hc⟩ := ints_cell (slR_ints H3.out) (by omega)
      simp only [Value.slice.injEq] at hv
      obtain ⟨rfl, _, rfl⟩ := hv
      have hcell := hc k hlt3
      obtain ⟨b2, off2, cap2, hv, hbl2, hc2⟩ := ints_cell (slR_ints H4.out) (by omega)
      simp only [Value.slice.injEq] at hv
      obtain ⟨rfl, _, rfl⟩ := hv
      have hcell2 := hc2 k hlt4
      have N3 : Hid (tenB (ts.getD k 0) = false → chargeB (sg, ba, is, ts, rs) = false) := Lib.hid (fun g => charge_no3 (x := (sg, ba, is, ts, rs)) (allB_no 0 hlt3 g))
      have N4 : Hid (getB ba (rs.getD k 0) = false → chargeB (sg, ba, is, ts, rs) = false) := Lib.hid (fun g => charge_no4 (x := (sg, ba, is, ts, rs)) (allB_no 0 hlt4 g))
      have Y3 : Hid (tenB (ts.getD k 0) = true → AllTo tenB 0 ts (k + 1)) := Lib.hid (fun g => allTo_step hno.out.1 g)
      have Y4 : Hid (getB ba (rs.getD k 0) = true → AllTo (getB ba) 0 rs (k + 1)) := Lib.hid (fun g => allTo_step hno.out.2 g)
      have BL := Lib.hid hbl; have BL2 := Lib.hid hbl2
      clear hc hc2 hno hbl hbl2 hlt3 hlt4
      generalize ts.getD k 0 = y at *
      generalize rs.getD k 0 = z at *
      have T0 := Lib.hid hcell; have R0 := Lib.hid hcell2
      clear hcell hcell2
      by_cases ht : 0 ≤ y ∧ y ≤ 3
      · have HI := Lib.hid (fun W => in_yes y 0 3 W ht.1 ht.2)
        have HY3 := Lib.hid (Y3.out (decide_eq_true ht))
        clear ht
        by_cases hz : 0 ≤ z ∧ z ≤ ba
        · have HI2 := Lib.hid (fun W => in_yes z 0 ba W hz.1 hz.2)
          have HY4 := Lib.hid (Y4.out (decide_eq_true hz))
          clear hz N3 N4 Y3 Y4
          go_wp2
          have p_B0_0 := (cell_of_row wr _ 0 _ _ _ B0.out).trans (show _ = some (Value.int .i64 sg) from rfl)
          have p_B0_1 := (cell_of_row wr _ 1 _ _ _ B0.out).trans (show _ = some (Value.int .i64 ba) from rfl)
          have p_B0_2 := (cell_of_row wr _ 2 _ _ _ B0.out).trans (show _ = some (Value.slice ia is.length ic) from rfl)
          have p_B0_3 := (cell_of_row wr _ 3 _ _ _ B0.out).trans (show _ = some (Value.slice (some ⟨b, off, none⟩) ts.length tc) from rfl)
          have p_B0_4 := (cell_of_row wr _ 4 _ _ _ B0.out).trans (show _ = some (Value.slice (some ⟨b2, off2, none⟩) rs.length rc) from rfl)
          have p_T0 := (d.out.cell (p := ⟨b, off + k, none⟩) BL.out).trans T0.out
          have p_R0 := (d.out.cell (p := ⟨b2, off2 + k, none⟩) BL2.out).trans R0.out
          refine wp_region_held_drew (S := fun w' => w'.cell? ⟨w.heap.size, 0, none⟩ = some (Value.int .i64 sg) ∧ w'.cell? ⟨w.heap.size, 1, none⟩ = some (Value.int .i64 ba) ∧ w'.cell? ⟨w.heap.size, 2, none⟩ = some (Value.slice ia is.length ic) ∧ w'.cell? ⟨w.heap.size, 3, none⟩ = some (Value.slice (some ⟨b, off, none⟩) ts.length tc) ∧ w'.cell? ⟨w.heap.size, 4, none⟩ = some (Value.slice (some ⟨b2, off2, none⟩) rs.length rc) ∧ w'.cell? ⟨b, off + k, none⟩ = some (Value.int .i64 y) ∧ w'.cell? ⟨b2, off2 + k, none⟩ = some (Value.int .i64 z)) (by kernel_rfl) ⟨p_B0_0, p_B0_1, p_B0_2, p_B0_3, p_B0_4, p_T0, p_R0⟩ (fun hHeld => ?_)
          clear p_B0_0 p_B0_1 p_B0_2 p_B0_3 p_B0_4 p_T0 p_R0
          have cdr : Below wr.heap.size wr wr.drew := below_drew (Below.refl _ _)
          replace B0 := Lib.hid ((cdr.block w.heap.size (Array.getElem?_eq_some_iff.1 B0.out).1).trans B0.out)
          replace d := Lib.hid (d.out.trans (cdr.mono d.out.size))
          clear cdr
          refine take_runs (i := 0) (v := ?_) (by simp only [List.getElem?_toArray, List.getElem?_cons_succ, List.getElem?_cons_zero]; rfl) (by kernel_rfl) (by kernel_rfl) (by kernel_rfl) rfl (by exact fun _ _ _ h => h) (by rfl) ?_ (by assumption) ?_
          rotate_left
          · intro w hSw; (try dsimp only at hSw); go_simp; try (with_reducible rfl)
          try simp only [Act.put, List.setIfInBounds_toArray, List.set_cons_zero, List.set_cons_succ]
          refine take_runs (i := 1) (v := ?_) (by simp only [List.getElem?_toArray, List.getElem?_cons_succ, List.getElem?_cons_zero]; rfl) (by kernel_rfl) (by kernel_rfl) (by kernel_rfl) rfl (by exact fun _ _ _ h => h) (by rfl) ?_ (by assumption) ?_
          rotate_left
          · intro w hSw; (try dsimp only at hSw); go_simp; try (with_reducible rfl)
          try simp only [Act.put, List.setIfInBounds_toArray, List.set_cons_zero, List.set_cons_succ]
          refine take_runs (i := 2) (v := ?_) (by simp only [List.getElem?_toArray, List.getElem?_cons_succ, List.getElem?_cons_zero]; rfl) (by kernel_rfl) (by kernel_rfl) (by kernel_rfl) rfl (by exact fun _ _ _ h => h) (by rfl) ?_ (by assumption) ?_
          rotate_left
          · intro w hSw; (try dsimp only at hSw); go_simp; try (with_reducible rfl)
          try simp only [Act.put, List.setIfInBounds_toArray, List.set_cons_zero, List.set_cons_succ]
          refine take_runs (i := 3) (v := ?_) (by simp only [List.getElem?_toArray, List.getElem?_cons_succ, List.getElem?_cons_zero]; rfl) (by kernel_rfl) (by kernel_rfl) (by kernel_rfl) rfl (by exact fun _ _ _ h => h) (by rfl) ?_ (by assumption) ?_
          rotate_left
          · intro w hSw; (try dsimp only at hSw); go_simp; try (with_reducible rfl)
          try simp only [Act.put, List.setIfInBounds_toArray, List.set_cons_zero, List.set_cons_succ]
          refine take_runs (i := 4) (v := ?_) (by simp only [List.getElem?_toArray, List.getElem?_cons_succ, List.getElem?_cons_zero]; rfl) (by kernel_rfl) (by kernel_rfl) (by kernel_rfl) rfl (by exact fun _ _ _ h => h) (by rfl) ?_ (by assumption) ?_
          rotate_left
          · intro w hSw; (try dsimp only at hSw); go_simp; try (with_reducible rfl)
          try simp only [Act.put, List.setIfInBounds_toArray, List.set_cons_zero, List.set_cons_succ]
          refine wpAnyH_ready (rs := [5]) (by kernel_rfl) (by simp) ?_
          refine (AllReadyH.cons (o := _) (by simp only [List.getElem?_toArray, List.getElem?_cons_succ, List.getElem?_cons_zero]; rfl) (fun K hK => ?_) AllReadyH.nil)
          go_simp
          refine (HI.out _).mono ?_
          rintro e wx ⟨rfl, hwx⟩
          obtain rfl := hwx.symm
          have p_B0_0 := (cell_of_row (wr.drew) _ 0 _ _ _ B0.out).trans (show _ = some (Value.int .i64 sg) from rfl)
          have p_B0_1 := (cell_of_row (wr.drew) _ 1 _ _ _ B0.out).trans (show _ = some (Value.int .i64 ba) from rfl)
          have p_B0_2 := (cell_of_row (wr.drew) _ 2 _ _ _ B0.out).trans (show _ = some (Value.slice ia is.length ic) from rfl)
          have p_B0_3 := (cell_of_row (wr.drew) _ 3 _ _ _ B0.out).trans (show _ = some (Value.slice (some ⟨b, off, none⟩) ts.length tc) from rfl)
          have p_B0_4 := (cell_of_row (wr.drew) _ 4 _ _ _ B0.out).trans (show _ = some (Value.slice (some ⟨b2, off2, none⟩) rs.length rc) from rfl)
          have p_T0 := (d.out.cell (p := ⟨b, off + k, none⟩) BL.out).trans T0.out
          have p_R0 := (d.out.cell (p := ⟨b2, off2 + k, none⟩) BL2.out).trans R0.out
          refine hK.out _ _ ⟨p_B0_0, p_B0_1, p_B0_2, p_B0_3, p_B0_4, p_T0, p_R0⟩ (fun hHeld => ?_)
          clear p_B0_0 p_B0_1 p_B0_2 p_B0_3 p_B0_4 p_T0 p_R0
          clear hK K
          try simp only [Act.put, List.setIfInBounds_toArray, List.set_cons_zero, List.set_cons_succ]
          refine take_runs (i := 6) (v := ?_) (by simp only [List.getElem?_toArray, List.getElem?_cons_succ, List.getElem?_cons_zero]; rfl) (by kernel_rfl) (by kernel_rfl) (by kernel_rfl) rfl (by exact fun _ _ _ h => h) (by rfl) ?_ (by assumption) ?_
          rotate_left
          · intro w hSw; (try dsimp only at hSw); go_simp; try (with_reducible rfl)
          try simp only [Act.put, List.setIfInBounds_toArray, List.set_cons_zero, List.set_cons_succ]
          refine take_runs (i := 7) (v := ?_) (by simp only [List.getElem?_toArray, List.getElem?_cons_succ, List.getElem?_cons_zero]; rfl) (by kernel_rfl) (by kernel_rfl) (by kernel_rfl) rfl (by exact fun _ _ _ h => h) (by rfl) ?_ (by assumption) ?_
          rotate_left
          · intro w hSw; (try dsimp only at hSw); go_simp; try (with_reducible rfl)
          try simp only [Act.put, List.setIfInBounds_toArray, List.set_cons_zero, List.set_cons_succ]
          refine take_runs (i := 8) (v := ?_) (by simp only [List.getElem?_toArray, List.getElem?_cons_succ, List.getElem?_cons_zero]; rfl) (by kernel_rfl) (by kernel_rfl) (by kernel_rfl) rfl (by exact fun _ _ _ h => h) (by rfl) ?_ (by assumption) ?_
          rotate_left
          · intro w hSw; (try dsimp only at hSw); go_simp; try (with_reducible rfl)
          try simp only [Act.put, List.setIfInBounds_toArray, List.set_cons_zero, List.set_cons_succ]
          refine take_runs (i := 9) (v := ?_) (by simp only [List.getElem?_toArray, List.getElem?_cons_succ, List.getElem?_cons_zero]; rfl) (by kernel_rfl) (by kernel_rfl) (by kernel_rfl) rfl (by exact fun _ _ _ h => h) (by rfl) ?_ (by assumption) ?_
          rotate_left
          · intro w hSw; (try dsimp only at hSw); go_simp; try (with_reducible rfl)
          try simp only [Act.put, List.setIfInBounds_toArray, List.set_cons_zero, List.set_cons_succ]
          refine take_runs (i := 10) (v := ?_) (by simp only [List.getElem?_toArray, List.getElem?_cons_succ, List.getElem?_cons_zero]; rfl) (by kernel_rfl) (by kernel_rfl) (by kernel_rfl) rfl (by exact fun _ _ _ h => h) (by rfl) ?_ (by assumption) ?_
          rotate_left
          · intro w hSw; (try dsimp only at hSw); go_simp; try (with_reducible rfl)
          try simp only [Act.put, List.setIfInBounds_toArray, List.set_cons_zero, List.set_cons_succ]
          refine take_runs (i := 11) (v := ?_) (by simp only [List.getElem?_toArray, List.getElem?_cons_succ, List.getElem?_cons_zero]; rfl) (by kernel_rfl) (by kernel_rfl) (by kernel_rfl) rfl (by exact fun _ _ _ h => h) (by rfl) ?_ (by assumption) ?_
          rotate_left
          · intro w hSw; (try dsimp only at hSw); go_simp; try (with_reducible rfl)
          try simp only [Act.put, List.setIfInBounds_toArray, List.set_cons_zero, List.set_cons_succ]
          refine take_runs (i := 12) (v := ?_) (by simp only [List.getElem?_toArray, List.getElem?_cons_succ, List.getElem?_cons_zero]; rfl) (by kernel_rfl) (by kernel_rfl) (by kernel_rfl) rfl (by exact fun _ _ _ h => h) (by rfl) ?_ (by assumption) ?_
          rotate_left
          · intro w hSw; (try dsimp only at hSw); go_simp; try (with_reducible rfl)
          try simp only [Act.put, List.setIfInBounds_toArray, List.set_cons_zero, List.set_cons_succ]
          refine take_runs (i := 13) (v := ?_) (by simp only [List.getElem?_toArray, List.getElem?_cons_succ, List.getElem?_cons_zero]; rfl) (by kernel_rfl) (by kernel_rfl) (by kernel_rfl) rfl (by exact fun _ _ _ h => h) (by rfl) ?_ (by assumption) ?_
          rotate_left
          · intro w hSw; (try dsimp only at hSw); go_simp; try (with_reducible rfl)
          try simp only [Act.put, List.setIfInBounds_toArray, List.set_cons_zero, List.set_cons_succ]
          refine take_runs (i := 14) (v := ?_) (by simp only [List.getElem?_toArray, List.getElem?_cons_succ, List.getElem?_cons_zero]; rfl) (by kernel_rfl) (by kernel_rfl) (by kernel_rfl) rfl (by exact fun _ _ _ h => h) (by rfl) ?_ (by assumption) ?_
          rotate_left
          · intro w hSw; (try dsimp only at hSw); go_simp; try (with_reducible rfl)
          try simp only [Act.put, List.setIfInBounds_toArray, List.set_cons_zero, List.set_cons_succ]
          refine wpAnyH_ready (rs := [15]) (by kernel_rfl) (by simp) ?_
          refine (AllReadyH.cons (o := _) (by simp only [List.getElem?_toArray, List.getElem?_cons_succ, List.getElem?_cons_zero]; rfl) (fun K hK => ?_) AllReadyH.nil)
          go_simp
          refine (HI2.out _).mono ?_
          rintro e wx ⟨rfl, hwx⟩
          obtain rfl := hwx.symm
          have p_B0_0 := (cell_of_row (wr.drew) _ 0 _ _ _ B0.out).trans (show _ = some (Value.int .i64 sg) from rfl)
          have p_B0_1 := (cell_of_row (wr.drew) _ 1 _ _ _ B0.out).trans (show _ = some (Value.int .i64 ba) from rfl)
          have p_B0_2 := (cell_of_row (wr.drew) _ 2 _ _ _ B0.out).trans (show _ = some (Value.slice ia is.length ic) from rfl)
          have p_B0_3 := (cell_of_row (wr.drew) _ 3 _ _ _ B0.out).trans (show _ = some (Value.slice (some ⟨b, off, none⟩) ts.length tc) from rfl)
          have p_B0_4 := (cell_of_row (wr.drew) _ 4 _ _ _ B0.out).trans (show _ = some (Value.slice (some ⟨b2, off2, none⟩) rs.length rc) from rfl)
          have p_T0 := (d.out.cell (p := ⟨b, off + k, none⟩) BL.out).trans T0.out
          have p_R0 := (d.out.cell (p := ⟨b2, off2 + k, none⟩) BL2.out).trans R0.out
          refine hK.out _ _ ⟨p_B0_0, p_B0_1, p_B0_2, p_B0_3, p_B0_4, p_T0, p_R0⟩ (fun hHeld => ?_)
          clear p_B0_0 p_B0_1 p_B0_2 p_B0_3 p_B0_4 p_T0 p_R0
          clear hK K
          try simp only [Act.put, List.setIfInBounds_toArray, List.set_cons_zero, List.set_cons_succ]
          refine take_runs (i := 16) (v := ?_) (by simp only [List.getElem?_toArray, List.getElem?_cons_succ, List.getElem?_cons_zero]; rfl) (by kernel_rfl) (by kernel_rfl) (by kernel_rfl) rfl (by exact fun _ _ _ h => h) (by rfl) ?_ (by assumption) ?_
          rotate_left
          · intro w hSw; (try dsimp only at hSw); go_simp; try (with_reducible rfl)
          try simp only [Act.put, List.setIfInBounds_toArray, List.set_cons_zero, List.set_cons_succ]
          refine take_runs (i := 17) (v := ?_) (by simp only [List.getElem?_toArray, List.getElem?_cons_succ, List.getElem?_cons_zero]; rfl) (by kernel_rfl) (by kernel_rfl) (by kernel_rfl) rfl (by exact fun _ _ _ h => h) (by rfl) ?_ (by assumption) ?_
          rotate_left
          · intro w hSw; (try dsimp only at hSw); go_simp; try (with_reducible rfl)
          try simp only [Act.put, List.setIfInBounds_toArray, List.set_cons_zero, List.set_cons_succ]
          refine wpAnyH_done (by kernel_rfl) ?_ _
          clear hHeld
          go_wp2
          go_roundw
          case rel => exact ⟨k + 1, by omega, by go_num, Lib.hid ⟨HY3.out, HY4.out⟩, below_same cw.out rfl rfl rfl rfl⟩
          case measure => simp [intOf]; omega
        · have HI2 := Lib.hid (fun W => in_no z 0 ba W hz)
          have HF := Lib.hid (N4.out (decide_eq_false hz))
          clear hz N3 N4 Y3 Y4
          go_wp2
          have p_B0_0 := (cell_of_row wr _ 0 _ _ _ B0.out).trans (show _ = some (Value.int .i64 sg) from rfl)
          have p_B0_1 := (cell_of_row wr _ 1 _ _ _ B0.out).trans (show _ = some (Value.int .i64 ba) from rfl)
          have p_B0_2 := (cell_of_row wr _ 2 _ _ _ B0.out).trans (show _ = some (Value.slice ia is.length ic) from rfl)
          have p_B0_3 := (cell_of_row wr _ 3 _ _ _ B0.out).trans (show _ = some (Value.slice (some ⟨b, off, none⟩) ts.length tc) from rfl)
          have p_B0_4 := (cell_of_row wr _ 4 _ _ _ B0.out).trans (show _ = some (Value.slice (some ⟨b2, off2, none⟩) rs.length rc) from rfl)
          have p_T0 := (d.out.cell (p := ⟨b, off + k, none⟩) BL.out).trans T0.out
          have p_R0 := (d.out.cell (p := ⟨b2, off2 + k, none⟩) BL2.out).trans R0.out
          refine wp_region_held_drew (S := fun w' => w'.cell? ⟨w.heap.size, 0, none⟩ = some (Value.int .i64 sg) ∧ w'.cell? ⟨w.heap.size, 1, none⟩ = some (Value.int .i64 ba) ∧ w'.cell? ⟨w.heap.size, 2, none⟩ = some (Value.slice ia is.length ic) ∧ w'.cell? ⟨w.heap.size, 3, none⟩ = some (Value.slice (some ⟨b, off, none⟩) ts.length tc) ∧ w'.cell? ⟨w.heap.size, 4, none⟩ = some (Value.slice (some ⟨b2, off2, none⟩) rs.length rc) ∧ w'.cell? ⟨b, off + k, none⟩ = some (Value.int .i64 y) ∧ w'.cell? ⟨b2, off2 + k, none⟩ = some (Value.int .i64 z)) (by kernel_rfl) ⟨p_B0_0, p_B0_1, p_B0_2, p_B0_3, p_B0_4, p_T0, p_R0⟩ (fun hHeld => ?_)
          clear p_B0_0 p_B0_1 p_B0_2 p_B0_3 p_B0_4 p_T0 p_R0
          have cdr : Below wr.heap.size wr wr.drew := below_drew (Below.refl _ _)
          replace B0 := Lib.hid ((cdr.block w.heap.size (Array.getElem?_eq_some_iff.1 B0.out).1).trans B0.out)
          replace d := Lib.hid (d.out.trans (cdr.mono d.out.size))
          clear cdr
          refine take_runs (i := 0) (v := ?_) (by simp only [List.getElem?_toArray, List.getElem?_cons_succ, List.getElem?_cons_zero]; rfl) (by kernel_rfl) (by kernel_rfl) (by kernel_rfl) rfl (by exact fun _ _ _ h => h) (by rfl) ?_ (by assumption) ?_
          rotate_left
          · intro w hSw; (try dsimp only at hSw); go_simp; try (with_reducible rfl)
          try simp only [Act.put, List.setIfInBounds_toArray, List.set_cons_zero, List.set_cons_succ]
          refine take_runs (i := 1) (v := ?_) (by simp only [List.getElem?_toArray, List.getElem?_cons_succ, List.getElem?_cons_zero]; rfl) (by kernel_rfl) (by kernel_rfl) (by kernel_rfl) rfl (by exact fun _ _ _ h => h) (by rfl) ?_ (by assumption) ?_
          rotate_left
          · intro w hSw; (try dsimp only at hSw); go_simp; try (with_reducible rfl)
          try simp only [Act.put, List.setIfInBounds_toArray, List.set_cons_zero, List.set_cons_succ]
          refine take_runs (i := 2) (v := ?_) (by simp only [List.getElem?_toArray, List.getElem?_cons_succ, List.getElem?_cons_zero]; rfl) (by kernel_rfl) (by kernel_rfl) (by kernel_rfl) rfl (by exact fun _ _ _ h => h) (by rfl) ?_ (by assumption) ?_
          rotate_left
          · intro w hSw; (try dsimp only at hSw); go_simp; try (with_reducible rfl)
          try simp only [Act.put, List.setIfInBounds_toArray, List.set_cons_zero, List.set_cons_succ]
          refine take_runs (i := 3) (v := ?_) (by simp only [List.getElem?_toArray, List.getElem?_cons_succ, List.getElem?_cons_zero]; rfl) (by kernel_rfl) (by kernel_rfl) (by kernel_rfl) rfl (by exact fun _ _ _ h => h) (by rfl) ?_ (by assumption) ?_
          rotate_left
          · intro w hSw; (try dsimp only at hSw); go_simp; try (with_reducible rfl)
          try simp only [Act.put, List.setIfInBounds_toArray, List.set_cons_zero, List.set_cons_succ]
          refine take_runs (i := 4) (v := ?_) (by simp only [List.getElem?_toArray, List.getElem?_cons_succ, List.getElem?_cons_zero]; rfl) (by kernel_rfl) (by kernel_rfl) (by kernel_rfl) rfl (by exact fun _ _ _ h => h) (by rfl) ?_ (by assumption) ?_
          rotate_left
          · intro w hSw; (try dsimp only at hSw); go_simp; try (with_reducible rfl)
          try simp only [Act.put, List.setIfInBounds_toArray, List.set_cons_zero, List.set_cons_succ]
          refine wpAnyH_ready (rs := [5]) (by kernel_rfl) (by simp) ?_
          refine (AllReadyH.cons (o := _) (by simp only [List.getElem?_toArray, List.getElem?_cons_succ, List.getElem?_cons_zero]; rfl) (fun K hK => ?_) AllReadyH.nil)
          go_simp
          refine (HI.out _).mono ?_
          rintro e wx ⟨rfl, hwx⟩
          obtain rfl := hwx.symm
          have p_B0_0 := (cell_of_row (wr.drew) _ 0 _ _ _ B0.out).trans (show _ = some (Value.int .i64 sg) from rfl)
          have p_B0_1 := (cell_of_row (wr.drew) _ 1 _ _ _ B0.out).trans (show _ = some (Value.int .i64 ba) from rfl)
          have p_B0_2 := (cell_of_row (wr.drew) _ 2 _ _ _ B0.out).trans (show _ = some (Value.slice ia is.length ic) from rfl)
          have p_B0_3 := (cell_of_row (wr.drew) _ 3 _ _ _ B0.out).trans (show _ = some (Value.slice (some ⟨b, off, none⟩) ts.length tc) from rfl)
          have p_B0_4 := (cell_of_row (wr.drew) _ 4 _ _ _ B0.out).trans (show _ = some (Value.slice (some ⟨b2, off2, none⟩) rs.length rc) from rfl)
          have p_T0 := (d.out.cell (p := ⟨b, off + k, none⟩) BL.out).trans T0.out
          have p_R0 := (d.out.cell (p := ⟨b2, off2 + k, none⟩) BL2.out).trans R0.out
          refine hK.out _ _ ⟨p_B0_0, p_B0_1, p_B0_2, p_B0_3, p_B0_4, p_T0, p_R0⟩ (fun hHeld => ?_)
          clear p_B0_0 p_B0_1 p_B0_2 p_B0_3 p_B0_4 p_T0 p_R0
          clear hK K
          try simp only [Act.put, List.setIfInBounds_toArray, List.set_cons_zero, List.set_cons_succ]
          refine take_runs (i := 6) (v := ?_) (by simp only [List.getElem?_toArray, List.getElem?_cons_succ, List.getElem?_cons_zero]; rfl) (by kernel_rfl) (by kernel_rfl) (by kernel_rfl) rfl (by exact fun _ _ _ h => h) (by rfl) ?_ (by assumption) ?_
          rotate_left
          · intro w hSw; (try dsimp only at hSw); go_simp; try (with_reducible rfl)
          try simp only [Act.put, List.setIfInBounds_toArray, List.set_cons_zero, List.set_cons_succ]
          refine take_runs (i := 7) (v := ?_) (by simp only [List.getElem?_toArray, List.getElem?_cons_succ, List.getElem?_cons_zero]; rfl) (by kernel_rfl) (by kernel_rfl) (by kernel_rfl) rfl (by exact fun _ _ _ h => h) (by rfl) ?_ (by assumption) ?_
          rotate_left
          · intro w hSw; (try dsimp only at hSw); go_simp; try (with_reducible rfl)
          try simp only [Act.put, List.setIfInBounds_toArray, List.set_cons_zero, List.set_cons_succ]
          refine take_runs (i := 8) (v := ?_) (by simp only [List.getElem?_toArray, List.getElem?_cons_succ, List.getElem?_cons_zero]; rfl) (by kernel_rfl) (by kernel_rfl) (by kernel_rfl) rfl (by exact fun _ _ _ h => h) (by rfl) ?_ (by assumption) ?_
          rotate_left
          · intro w hSw; (try dsimp only at hSw); go_simp; try (with_reducible rfl)
          try simp only [Act.put, List.setIfInBounds_toArray, List.set_cons_zero, List.set_cons_succ]
          refine take_runs (i := 9) (v := ?_) (by simp only [List.getElem?_toArray, List.getElem?_cons_succ, List.getElem?_cons_zero]; rfl) (by kernel_rfl) (by kernel_rfl) (by kernel_rfl) rfl (by exact fun _ _ _ h => h) (by rfl) ?_ (by assumption) ?_
          rotate_left
          · intro w hSw; (try dsimp only at hSw); go_simp; try (with_reducible rfl)
          try simp only [Act.put, List.setIfInBounds_toArray, List.set_cons_zero, List.set_cons_succ]
          refine take_runs (i := 10) (v := ?_) (by simp only [List.getElem?_toArray, List.getElem?_cons_succ, List.getElem?_cons_zero]; rfl) (by kernel_rfl) (by kernel_rfl) (by kernel_rfl) rfl (by exact fun _ _ _ h => h) (by rfl) ?_ (by assumption) ?_
          rotate_left
          · intro w hSw; (try dsimp only at hSw); go_simp; try (with_reducible rfl)
          try simp only [Act.put, List.setIfInBounds_toArray, List.set_cons_zero, List.set_cons_succ]
          refine take_runs (i := 11) (v := ?_) (by simp only [List.getElem?_toArray, List.getElem?_cons_succ, List.getElem?_cons_zero]; rfl) (by kernel_rfl) (by kernel_rfl) (by kernel_rfl) rfl (by exact fun _ _ _ h => h) (by rfl) ?_ (by assumption) ?_
          rotate_left
          · intro w hSw; (try dsimp only at hSw); go_simp; try (with_reducible rfl)
          try simp only [Act.put, List.setIfInBounds_toArray, List.set_cons_zero, List.set_cons_succ]
          refine take_runs (i := 12) (v := ?_) (by simp only [List.getElem?_toArray, List.getElem?_cons_succ, List.getElem?_cons_zero]; rfl) (by kernel_rfl) (by kernel_rfl) (by kernel_rfl) rfl (by exact fun _ _ _ h => h) (by rfl) ?_ (by assumption) ?_
          rotate_left
          · intro w hSw; (try dsimp only at hSw); go_simp; try (with_reducible rfl)
          try simp only [Act.put, List.setIfInBounds_toArray, List.set_cons_zero, List.set_cons_succ]
          refine take_runs (i := 13) (v := ?_) (by simp only [List.getElem?_toArray, List.getElem?_cons_succ, List.getElem?_cons_zero]; rfl) (by kernel_rfl) (by kernel_rfl) (by kernel_rfl) rfl (by exact fun _ _ _ h => h) (by rfl) ?_ (by assumption) ?_
          rotate_left
          · intro w hSw; (try dsimp only at hSw); go_simp; try (with_reducible rfl)
          try simp only [Act.put, List.setIfInBounds_toArray, List.set_cons_zero, List.set_cons_succ]
          refine take_runs (i := 14) (v := ?_) (by simp only [List.getElem?_toArray, List.getElem?_cons_succ, List.getElem?_cons_zero]; rfl) (by kernel_rfl) (by kernel_rfl) (by kernel_rfl) rfl (by exact fun _ _ _ h => h) (by rfl) ?_ (by assumption) ?_
          rotate_left
          · intro w hSw; (try dsimp only at hSw); go_simp; try (with_reducible rfl)
          try simp only [Act.put, List.setIfInBounds_toArray, List.set_cons_zero, List.set_cons_succ]
          refine wpAnyH_ready (rs := [15]) (by kernel_rfl) (by simp) ?_
          refine (AllReadyH.cons (o := _) (by simp only [List.getElem?_toArray, List.getElem?_cons_succ, List.getElem?_cons_zero]; rfl) (fun K hK => ?_) AllReadyH.nil)
          go_simp
          refine (HI2.out _).mono ?_
          rintro e wx ⟨rfl, hwx⟩
          obtain rfl := hwx.symm
          have p_B0_0 := (cell_of_row (wr.drew) _ 0 _ _ _ B0.out).trans (show _ = some (Value.int .i64 sg) from rfl)
          have p_B0_1 := (cell_of_row (wr.drew) _ 1 _ _ _ B0.out).trans (show _ = some (Value.int .i64 ba) from rfl)
          have p_B0_2 := (cell_of_row (wr.drew) _ 2 _ _ _ B0.out).trans (show _ = some (Value.slice ia is.length ic) from rfl)
          have p_B0_3 := (cell_of_row (wr.drew) _ 3 _ _ _ B0.out).trans (show _ = some (Value.slice (some ⟨b, off, none⟩) ts.length tc) from rfl)
          have p_B0_4 := (cell_of_row (wr.drew) _ 4 _ _ _ B0.out).trans (show _ = some (Value.slice (some ⟨b2, off2, none⟩) rs.length rc) from rfl)
          have p_T0 := (d.out.cell (p := ⟨b, off + k, none⟩) BL.out).trans T0.out
          have p_R0 := (d.out.cell (p := ⟨b2, off2 + k, none⟩) BL2.out).trans R0.out
          refine hK.out _ _ ⟨p_B0_0, p_B0_1, p_B0_2, p_B0_3, p_B0_4, p_T0, p_R0⟩ (fun hHeld => ?_)
          clear p_B0_0 p_B0_1 p_B0_2 p_B0_3 p_B0_4 p_T0 p_R0
          clear hK K
          try simp only [Act.put, List.setIfInBounds_toArray, List.set_cons_zero, List.set_cons_succ]
          refine take_runs (i := 16) (v := ?_) (by simp only [List.getElem?_toArray, List.getElem?_cons_succ, List.getElem?_cons_zero]; rfl) (by kernel_rfl) (by kernel_rfl) (by kernel_rfl) rfl (by exact fun _ _ _ h => h) (by rfl) ?_ (by assumption) ?_
          rotate_left
          · intro w hSw; (try dsimp only at hSw); go_simp; try (with_reducible rfl)
          try simp only [Act.put, List.setIfInBounds_toArray, List.set_cons_zero, List.set_cons_succ]
          refine take_runs (i := 17) (v := ?_) (by simp only [List.getElem?_toArray, List.getElem?_cons_succ, List.getElem?_cons_zero]; rfl) (by kernel_rfl) (by kernel_rfl) (by kernel_rfl) rfl (by exact fun _ _ _ h => h) (by rfl) ?_ (by assumption) ?_
          rotate_left
          · intro w hSw; (try dsimp only at hSw); go_simp; try (with_reducible rfl)
          try simp only [Act.put, List.setIfInBounds_toArray, List.set_cons_zero, List.set_cons_succ]
          refine wpAnyH_done (by kernel_rfl) ?_ _
          clear hHeld
          go_wp2
          go_ret
          exact ⟨ret_b HF.out.symm, d.out⟩
      · have HI := Lib.hid (fun W => in_no y 0 3 W ht)
        have HF := Lib.hid (N3.out (decide_eq_false ht))
        clear ht N3 N4 Y3 Y4
        go_wp2
        have p_B0_0 := (cell_of_row wr _ 0 _ _ _ B0.out).trans (show _ = some (Value.int .i64 sg) from rfl)
        have p_B0_1 := (cell_of_row wr _ 1 _ _ _ B0.out).trans (show _ = some (Value.int .i64 ba) from rfl)
        have p_B0_2 := (cell_of_row wr _ 2 _ _ _ B0.out).trans (show _ = some (Value.slice ia is.length ic) from rfl)
        have p_B0_3 := (cell_of_row wr _ 3 _ _ _ B0.out).trans (show _ = some (Value.slice (some ⟨b, off, none⟩) ts.length tc) from rfl)
        have p_B0_4 := (cell_of_row wr _ 4 _ _ _ B0.out).trans (show _ = some (Value.slice (some ⟨b2, off2, none⟩) rs.length rc) from rfl)
        have p_T0 := (d.out.cell (p := ⟨b, off + k, none⟩) BL.out).trans T0.out
        have p_R0 := (d.out.cell (p := ⟨b2, off2 + k, none⟩) BL2.out).trans R0.out
        refine wp_region_held_drew (S := fun w' => w'.cell? ⟨w.heap.size, 0, none⟩ = some (Value.int .i64 sg) ∧ w'.cell? ⟨w.heap.size, 1, none⟩ = some (Value.int .i64 ba) ∧ w'.cell? ⟨w.heap.size, 2, none⟩ = some (Value.slice ia is.length ic) ∧ w'.cell? ⟨w.heap.size, 3, none⟩ = some (Value.slice (some ⟨b, off, none⟩) ts.length tc) ∧ w'.cell? ⟨w.heap.size, 4, none⟩ = some (Value.slice (some ⟨b2, off2, none⟩) rs.length rc) ∧ w'.cell? ⟨b, off + k, none⟩ = some (Value.int .i64 y) ∧ w'.cell? ⟨b2, off2 + k, none⟩ = some (Value.int .i64 z)) (by kernel_rfl) ⟨p_B0_0, p_B0_1, p_B0_2, p_B0_3, p_B0_4, p_T0, p_R0⟩ (fun hHeld => ?_)
        clear p_B0_0 p_B0_1 p_B0_2 p_B0_3 p_B0_4 p_T0 p_R0
        have cdr : Below wr.heap.size wr wr.drew := below_drew (Below.refl _ _)
        replace B0 := Lib.hid ((cdr.block w.heap.size (Array.getElem?_eq_some_iff.1 B0.out).1).trans B0.out)
        replace d := Lib.hid (d.out.trans (cdr.mono d.out.size))
        clear cdr
        refine take_runs (i := 0) (v := ?_) (by simp only [List.getElem?_toArray, List.getElem?_cons_succ, List.getElem?_cons_zero]; rfl) (by kernel_rfl) (by kernel_rfl) (by kernel_rfl) rfl (by exact fun _ _ _ h => h) (by rfl) ?_ (by assumption) ?_
        rotate_left
        · intro w hSw; (try dsimp only at hSw); go_simp; try (with_reducible rfl)
        try simp only [Act.put, List.setIfInBounds_toArray, List.set_cons_zero, List.set_cons_succ]
        refine take_runs (i := 1) (v := ?_) (by simp only [List.getElem?_toArray, List.getElem?_cons_succ, List.getElem?_cons_zero]; rfl) (by kernel_rfl) (by kernel_rfl) (by kernel_rfl) rfl (by exact fun _ _ _ h => h) (by rfl) ?_ (by assumption) ?_
        rotate_left
        · intro w hSw; (try dsimp only at hSw); go_simp; try (with_reducible rfl)
        try simp only [Act.put, List.setIfInBounds_toArray, List.set_cons_zero, List.set_cons_succ]
        refine take_runs (i := 2) (v := ?_) (by simp only [List.getElem?_toArray, List.getElem?_cons_succ, List.getElem?_cons_zero]; rfl) (by kernel_rfl) (by kernel_rfl) (by kernel_rfl) rfl (by exact fun _ _ _ h => h) (by rfl) ?_ (by assumption) ?_
        rotate_left
        · intro w hSw; (try dsimp only at hSw); go_simp; try (with_reducible rfl)
        try simp only [Act.put, List.setIfInBounds_toArray, List.set_cons_zero, List.set_cons_succ]
        refine take_runs (i := 3) (v := ?_) (by simp only [List.getElem?_toArray, List.getElem?_cons_succ, List.getElem?_cons_zero]; rfl) (by kernel_rfl) (by kernel_rfl) (by kernel_rfl) rfl (by exact fun _ _ _ h => h) (by rfl) ?_ (by assumption) ?_
        rotate_left
        · intro w hSw; (try dsimp only at hSw); go_simp; try (with_reducible rfl)
        try simp only [Act.put, List.setIfInBounds_toArray, List.set_cons_zero, List.set_cons_succ]
        refine take_runs (i := 4) (v := ?_) (by simp only [List.getElem?_toArray, List.getElem?_cons_succ, List.getElem?_cons_zero]; rfl) (by kernel_rfl) (by kernel_rfl) (by kernel_rfl) rfl (by exact fun _ _ _ h => h) (by rfl) ?_ (by assumption) ?_
        rotate_left
        · intro w hSw; (try dsimp only at hSw); go_simp; try (with_reducible rfl)
        try simp only [Act.put, List.setIfInBounds_toArray, List.set_cons_zero, List.set_cons_succ]
        refine wpAnyH_ready (rs := [5]) (by kernel_rfl) (by simp) ?_
        refine (AllReadyH.cons (o := _) (by simp only [List.getElem?_toArray, List.getElem?_cons_succ, List.getElem?_cons_zero]; rfl) (fun K hK => ?_) AllReadyH.nil)
        go_simp
        refine (HI.out _).mono ?_
        rintro e wx ⟨rfl, hwx⟩
        obtain rfl := hwx.symm
        have p_B0_0 := (cell_of_row (wr.drew) _ 0 _ _ _ B0.out).trans (show _ = some (Value.int .i64 sg) from rfl)
        have p_B0_1 := (cell_of_row (wr.drew) _ 1 _ _ _ B0.out).trans (show _ = some (Value.int .i64 ba) from rfl)
        have p_B0_2 := (cell_of_row (wr.drew) _ 2 _ _ _ B0.out).trans (show _ = some (Value.slice ia is.length ic) from rfl)
        have p_B0_3 := (cell_of_row (wr.drew) _ 3 _ _ _ B0.out).trans (show _ = some (Value.slice (some ⟨b, off, none⟩) ts.length tc) from rfl)
        have p_B0_4 := (cell_of_row (wr.drew) _ 4 _ _ _ B0.out).trans (show _ = some (Value.slice (some ⟨b2, off2, none⟩) rs.length rc) from rfl)
        have p_T0 := (d.out.cell (p := ⟨b, off + k, none⟩) BL.out).trans T0.out
        have p_R0 := (d.out.cell (p := ⟨b2, off2 + k, none⟩) BL2.out).trans R0.out
        refine hK.out _ _ ⟨p_B0_0, p_B0_1, p_B0_2, p_B0_3, p_B0_4, p_T0, p_R0⟩ (fun hHeld => ?_)
        clear p_B0_0 p_B0_1 p_B0_2 p_B0_3 p_B0_4 p_T0 p_R0
        clear hK K
        try simp only [Act.put, List.setIfInBounds_toArray, List.set_cons_zero, List.set_cons_succ]
        refine take_runs (i := 6) (v := ?_) (by simp only [List.getElem?_toArray, List.getElem?_cons_succ, List.getElem?_cons_zero]; rfl) (by kernel_rfl) (by kernel_rfl) (by kernel_rfl) rfl (by exact fun _ _ _ h => h) (by rfl) ?_ (by assumption) ?_
        rotate_left
        · intro w hSw; (try dsimp only at hSw); go_simp; try (with_reducible rfl)
        try simp only [Act.put, List.setIfInBounds_toArray, List.set_cons_zero, List.set_cons_succ]
        refine take_runs (i := 7) (v := ?_) (by simp only [List.getElem?_toArray, List.getElem?_cons_succ, List.getElem?_cons_zero]; rfl) (by kernel_rfl) (by kernel_rfl) (by kernel_rfl) rfl (by exact fun _ _ _ h => h) (by rfl) ?_ (by assumption) ?_
        rotate_left
        · intro w hSw; (try dsimp only at hSw); go_simp; try (with_reducible rfl)
        try simp only [Act.put, List.setIfInBounds_toArray, List.set_cons_zero, List.set_cons_succ]
        refine take_over (i := 8) (by simp only [List.getElem?_toArray, List.getElem?_cons_succ, List.getElem?_cons_zero]; rfl) (by kernel_rfl) (by kernel_rfl) (by kernel_rfl) rfl (by exact fun _ _ _ h => h) (by rfl) (by assumption) ?_
        try simp only [Act.put, List.setIfInBounds_toArray, List.set_cons_zero, List.set_cons_succ]
        refine take_over (i := 9) (by simp only [List.getElem?_toArray, List.getElem?_cons_succ, List.getElem?_cons_zero]; rfl) (by kernel_rfl) (by kernel_rfl) (by kernel_rfl) rfl (by exact fun _ _ _ h => h) (by rfl) (by assumption) ?_
        try simp only [Act.put, List.setIfInBounds_toArray, List.set_cons_zero, List.set_cons_succ]
        refine take_over (i := 10) (by simp only [List.getElem?_toArray, List.getElem?_cons_succ, List.getElem?_cons_zero]; rfl) (by kernel_rfl) (by kernel_rfl) (by kernel_rfl) rfl (by exact fun _ _ _ h => h) (by rfl) (by assumption) ?_
        try simp only [Act.put, List.setIfInBounds_toArray, List.set_cons_zero, List.set_cons_succ]
        refine take_over (i := 11) (by simp only [List.getElem?_toArray, List.getElem?_cons_succ, List.getElem?_cons_zero]; rfl) (by kernel_rfl) (by kernel_rfl) (by kernel_rfl) rfl (by exact fun _ _ _ h => h) (by rfl) (by assumption) ?_
        try simp only [Act.put, List.setIfInBounds_toArray, List.set_cons_zero, List.set_cons_succ]
        refine take_over (i := 12) (by simp only [List.getElem?_toArray, List.getElem?_cons_succ, List.getElem?_cons_zero]; rfl) (by kernel_rfl) (by kernel_rfl) (by kernel_rfl) rfl (by exact fun _ _ _ h => h) (by rfl) (by assumption) ?_
        try simp only [Act.put, List.setIfInBounds_toArray, List.set_cons_zero, List.set_cons_succ]
        refine take_over (i := 13) (by simp only [List.getElem?_toArray, List.getElem?_cons_succ, List.getElem?_cons_zero]; rfl) (by kernel_rfl) (by kernel_rfl) (by kernel_rfl) rfl (by exact fun _ _ _ h => h) (by rfl) (by assumption) ?_
        try simp only [Act.put, List.setIfInBounds_toArray, List.set_cons_zero, List.set_cons_succ]
        refine take_over (i := 14) (by simp only [List.getElem?_toArray, List.getElem?_cons_succ, List.getElem?_cons_zero]; rfl) (by kernel_rfl) (by kernel_rfl) (by kernel_rfl) rfl (by exact fun _ _ _ h => h) (by rfl) (by assumption) ?_
        try simp only [Act.put, List.setIfInBounds_toArray, List.set_cons_zero, List.set_cons_succ]
        refine take_over (i := 15) (by simp only [List.getElem?_toArray, List.getElem?_cons_succ, List.getElem?_cons_zero]; rfl) (by kernel_rfl) (by kernel_rfl) (by kernel_rfl) rfl (by exact fun _ _ _ h => h) (by rfl) (by assumption) ?_
        try simp only [Act.put, List.setIfInBounds_toArray, List.set_cons_zero, List.set_cons_succ]
        refine take_over (i := 16) (by simp only [List.getElem?_toArray, List.getElem?_cons_succ, List.getElem?_cons_zero]; rfl) (by kernel_rfl) (by kernel_rfl) (by kernel_rfl) rfl (by exact fun _ _ _ h => h) (by rfl) (by assumption) ?_
        try simp only [Act.put, List.setIfInBounds_toArray, List.set_cons_zero, List.set_cons_succ]
        refine take_runs (i := 17) (v := ?_) (by simp only [List.getElem?_toArray, List.getElem?_cons_succ, List.getElem?_cons_zero]; rfl) (by kernel_rfl) (by kernel_rfl) (by kernel_rfl) rfl (by exact fun _ _ _ h => h) (by rfl) ?_ (by assumption) ?_
        rotate_left
        · intro w hSw; (try dsimp only at hSw); go_simp; try (with_reducible rfl)
        try simp only [Act.put, List.setIfInBounds_toArray, List.set_cons_zero, List.set_cons_succ]
        refine wpAnyH_done (by kernel_rfl) ?_ _
        clear hHeld
        go_wp2
        go_ret
        exact ⟨ret_b HF.out.symm, d.out⟩
    · obtain rfl : k = is.length := by omega
      have HT : Hid (chargeB (sg, ba, is, ts, rs) = true) := Lib.hid (charge_yes HSET.out HH.out (allB_yes 0 (by have := hno.out.1; have e := HP3.out; simp only; rw [e]; exact this)) (allB_yes 0 (by have := hno.out.2; have e := HP4.out; simp only; rw [e]; exact this)))
      clear hno
      have p_B0_0 := (cell_of_row wr _ 0 _ _ _ B0.out).trans (show _ = some (Value.int .i64 sg) from rfl)
      have p_B0_1 := (cell_of_row wr _ 1 _ _ _ B0.out).trans (show _ = some (Value.int .i64 ba) from rfl)
      have p_B0_2 := (cell_of_row wr _ 2 _ _ _ B0.out).trans (show _ = some (Value.slice ia is.length ic) from rfl)
      have p_B0_3 := (cell_of_row wr _ 3 _ _ _ B0.out).trans (show _ = some (Value.slice ta ts.length tc) from rfl)
      have p_B0_4 := (cell_of_row wr _ 4 _ _ _ B0.out).trans (show _ = some (Value.slice ra rs.length rc) from rfl)
      go_wp2
      clear p_B0_0 p_B0_1 p_B0_2 p_B0_3 p_B0_4
      go_ret
      exact ⟨ret_b HT.out.symm, d.out⟩
end Go.Proofs.Ytjeaimdnddelpaa
namespace Go.Proofs.Ytjeaimdnddelpaa
open Go.RowKit
set_option linter.unusedVariables false
end Go.Proofs.Ytjeaimdnddelpaa
namespace Go.Proofs.Ytjeaimdnddelpaa
open Go.RowKit
set_option linter.unusedVariables false
set_option linter.unusedSimpArgs false
set_option maxHeartbeats 8000000 in
set_option maxRecDepth 100000 in
theorem specWorkDone (sg ba : Int) (v2 v3 v4 : Value) (x2 x3 x4 : List Int) (w : World) (h2 : SlR tInt w v2 x2) (h3 : SlR tInt w v3 x3) (h4 : SlR tInt w v4 x4) (n2 : x2.length ≤ 1048576) (n3 : x3.length ≤ 1048576) (n4 : x4.length ≤ 1048576) :
    Calls Try.prog 14 #[.agg #[.int .i64 sg, .int .i64 ba, v2, v3, v4]] w (fun e w' => e = .returned (.int .i64 (workX (sg, ba, x2, x3, x4))) ∧ Below w.heap.size w w') := by
  obtain ⟨p2, c2, rfl⟩ := slR_len h2
  have H2 := Lib.hid h2
  obtain ⟨p3, c3, rfl⟩ := slR_len h3
  have H3 := Lib.hid h3
  obtain ⟨p4, c4, rfl⟩ := slR_len h4
  have H4 := Lib.hid h4
  clear h2 h3 h4
  have d := Lib.hid (show Below w.heap.size w (w.alloc (.cells #[.int .i64 sg, .int .i64 ba, .slice p2 x2.length c2, .slice p3 x3.length c3, .slice p4 x4.length c4] 37)) from ((Below.refl _ w).alloc (Nat.le_refl _) _))
  have B0 : Hid ((w.alloc (.cells #[.int .i64 sg, .int .i64 ba, .slice p2 x2.length c2, .slice p3 x3.length c3, .slice p4 x4.length c4] 37)).heap[w.heap.size]? = some (.cells #[.int .i64 sg, .int .i64 ba, .slice p2 x2.length c2, .slice p3 x3.length c3, .slice p4 x4.length c4] 37 (0, 0))) := Lib.hid (by
    exact heap_alloc_new w _)
  have YW : Hid (w.heap.size + 1 ≤ (w.alloc (.cells #[.int .i64 sg, .int .i64 ba, .slice p2 x2.length c2, .slice p3 x3.length c3, .slice p4 x4.length c4] 37)).heap.size) := Lib.hid (by simp [World.size_alloc])
  go_enter Try.func14, Try.ntmps14
  go_wp2_with fail
  generalize (w.alloc (.cells #[.int .i64 sg, .int .i64 ba, .slice p2 x2.length c2, .slice p3 x3.length c3, .slice p4 x4.length c4] 37)) = W at *
  refine (specIsCharge sg ba (.slice p2 x2.length c2) (.slice p3 x3.length c3) (.slice p4 x4.length c4) x2 x3 x4 W (slR_below tInt_law H2.out d.out) (slR_below tInt_law H3.out d.out) (slR_below tInt_law H4.out d.out) n2 n3 n4).mono ?_
  rintro e W1 ⟨rfl, c⟩
  replace B0 := Lib.hid ((c.block w.heap.size (Array.getElem?_eq_some_iff.1 B0.out).1).trans B0.out)
  replace d := Lib.hid (d.out.trans (c.mono d.out.size))
  have Z_W1 := Lib.hid (show W.heap.size ≤ W1.heap.size from c.size)
  clear c
  rcases Bool.eq_false_or_eq_true (chargeB (sg, ba, x2, x3, x4)) with hch | hch
  rotate_left
  · rw [hch]
    have HF := Lib.hid (workX_no hch)
    clear hch
    have p_B0_0 := (cell_of_row W1 _ 0 _ _ _ B0.out).trans (show _ = some (Value.int .i64 sg) from rfl)
    have p_B0_1 := (cell_of_row W1 _ 1 _ _ _ B0.out).trans (show _ = some (Value.int .i64 ba) from rfl)
    have p_B0_2 := (cell_of_row W1 _ 2 _ _ _ B0.out).trans (show _ = some (Value.slice p2 x2.length c2) from rfl)
    have p_B0_3 := (cell_of_row W1 _ 3 _ _ _ B0.out).trans (show _ = some (Value.slice p3 x3.length c3) from rfl)
    have p_B0_4 := (cell_of_row W1 _ 4 _ _ _ B0.out).trans (show _ = some (Value.slice p4 x4.length c4) from rfl)
    go_wp2
    clear p_B0_0 p_B0_1 p_B0_2 p_B0_3 p_B0_4
    go_ret
    exact ⟨ret_n HF.out.symm, d.out⟩
  rw [hch]
  have HCH := Lib.hid hch
  have HP := Lib.hid (charge_iff hch).2.1
  clear hch
  have p_B0_0 := (cell_of_row W1 _ 0 _ _ _ B0.out).trans (show _ = some (Value.int .i64 sg) from rfl)
  have p_B0_1 := (cell_of_row W1 _ 1 _ _ _ B0.out).trans (show _ = some (Value.int .i64 ba) from rfl)
  have p_B0_2 := (cell_of_row W1 _ 2 _ _ _ B0.out).trans (show _ = some (Value.slice p2 x2.length c2) from rfl)
  have p_B0_3 := (cell_of_row W1 _ 3 _ _ _ B0.out).trans (show _ = some (Value.slice p3 x3.length c3) from rfl)
  have p_B0_4 := (cell_of_row W1 _ 4 _ _ _ B0.out).trans (show _ = some (Value.slice p4 x4.length c4) from rfl)
  go_wp2
  go_loop [3, 4] (fun n i => ∃ (k : Nat) (s : Int), k ≤ x4.length ∧ i = .int .i64 k ∧ n = .int .i64 s ∧ Hid (s = ba + accN (rowI (sg, ba, x2, x3, x4)) k)) (fun _ i => x4.length - (intOf i).toNat)
  case atStart => exact ⟨0, ba, Nat.zero_le _, rfl, rfl, Lib.hid (Int.add_zero ba).symm⟩
  case round =>
    obtain ⟨k, s, hk, rfl, rfl, hs⟩ := hrel
    have s1 : 0 ≤ s ∧ s ≤ 100 := by
      have q1 := rows_sum HCH.out hk
      have q2 := HP.out
      have q3 := hs.out
      obtain ⟨⟨_, q4⟩, ⟨_, q5⟩, _, q6, q7⟩ := q2
      simp only at q4 q5 q6 q7 q1 hk
      omega
    obtain ⟨s1, s2⟩ := s1
    by_cases hlt : k < x4.length
    · have i1 : (0 : Int) ≤ (k : Int) := by omega
      have i2 : (k : Int) < (x4.length : Int) := by omega
      have HY := chg_row (x := (sg, ba, x2, x3, x4)) HCH.out hlt
      have hba : ba ≤ 4 := HP.out.2.2.2.2
      have HN : Hid (s + x4.getD k 0 = ba + accN (rowI (sg, ba, x2, x3, x4)) (k + 1)) := Lib.hid (by
        have := hs.out
        show s + x4.getD k 0 = ba + (accN (rowI (sg, ba, x2, x3, x4)) k + x4.getD k 0)
        omega)
      simp only at HY
      obtain ⟨y1, y2⟩ := HY
      clear hs
      obtain ⟨be0, offe0, cape0, hv, hbl, hc⟩ := ints_cell (slR_ints (slR_below tInt_law H4.out d.out)) (by omega)
      simp only [Value.slice.injEq] at hv
      obtain ⟨rfl, _, rfl⟩ := hv
      have e0 := hc k (by omega)
      clear hc hbl
      generalize x4.getD k 0 = y at *
      have y3 : y ≤ 100 := by omega
      clear y2 hba
      go_wp2
      go_round
      case rel => exact ⟨k + 1, s + y, by omega, by go_num, rfl, HN⟩
      case measure => simp [intOf]; omega
    · obtain rfl : k = x4.length := by omega
      have HT : Hid (s = workX (sg, ba, x2, x3, x4)) := Lib.hid (by rw [workX_yes HCH.out]; exact hs.out)
      clear hs
      go_wp2
      go_ret
      exact ⟨ret_n HT.out, d.out⟩
end Go.Proofs.Ytjeaimdnddelpaa
namespace Go.Proofs.Ytjeaimdnddelpaa
open Go.RowKit
set_option linter.unusedVariables false
set_option linter.unusedSimpArgs false
end Go.Proofs.Ytjeaimdnddelpaa
namespace Go.Proofs.Ytjeaimdnddelpaa
open Go.RowKit
set_option linter.unusedVariables false
set_option linter.unusedSimpArgs false
section
variable {α : Type} {T : Ty α}
end
end Go.Proofs.Ytjeaimdnddelpaa
namespace Go.Proofs.Ytjeaimdnddelpaa
open Go.RowKit
set_option linter.unusedVariables false
set_option linter.unusedSimpArgs false
end Go.Proofs.Ytjeaimdnddelpaa
namespace Go.Proofs.Ytjeaimdnddelpaa
open Go.RowKit
set_option linter.unusedVariables false
set_option linter.unusedSimpArgs false
end Go.Proofs.Ytjeaimdnddelpaa
namespace Go.Proofs.Ytjeaimdnddelpaa
open Go.RowKit
set_option linter.unusedVariables false
set_option linter.unusedSimpArgs false
end Go.Proofs.Ytjeaimdnddelpaa
namespace Go.Proofs.Ytjeaimdnddelpaa
open Go.RowKit
set_option linter.unusedVariables false
set_option linter.unusedSimpArgs false
end Go.Proofs.Ytjeaimdnddelpaa
namespace Go.Proofs.Ytjeaimdnddelpaa
open Go.RowKit
set_option linter.unusedVariables false
set_option linter.unusedSimpArgs false
end Go.Proofs.Ytjeaimdnddelpaa
namespace Go.Proofs.Ytjeaimdnddelpaa
open Go.RowKit
set_option linter.unusedVariables false
set_option linter.unusedSimpArgs false
end Go.Proofs.Ytjeaimdnddelpaa
namespace Go.Proofs.Ytjeaimdnddelpaa
open Go.RowKit
set_option linter.unusedVariables false
set_option linter.unusedSimpArgs false
end Go.Proofs.Ytjeaimdnddelpaa
namespace Go.Proofs.Ytjeaimdnddelpaa
open Go.RowKit
set_option linter.unusedVariables false
set_option linter.unusedSimpArgs false
end Go.Proofs.Ytjeaimdnddelpaa
namespace Go.Proofs.Ytjeaimdnddelpaa
open Go.RowKit
set_option linter.unusedVariables false
set_option linter.unusedSimpArgs false
theorem isTenant_yes (n : Int) (w : World) (h1 : 0 ≤ n) (h2 : n < 4) : Calls Try.prog 26 #[.int .i64 n] w fun e w' => e = .returned (.bool true) ∧ w' = w := by
  go_enter Try.func26, Try.ntmps26
  go_wp2
  go_ret
  exact ⟨rfl, rfl⟩
theorem isTenant_no (n : Int) (w : World) (h : ¬ (0 ≤ n ∧ n < 4)) : Calls Try.prog 26 #[.int .i64 n] w fun e w' => e = .returned (.bool false) ∧ w' = w := by
  by_cases h1 : 0 ≤ n
  · have h2 : ¬ n < 4 := fun g => h ⟨h1, g⟩
    clear h
    go_enter Try.func26, Try.ntmps26
    go_wp2
    go_ret
    exact ⟨rfl, rfl⟩
  · clear h
    go_enter Try.func26, Try.ntmps26
    go_wp2
    go_ret
    exact ⟨rfl, rfl⟩
end Go.Proofs.Ytjeaimdnddelpaa
namespace Go.Proofs.Ytjeaimdnddelpaa
set_option linter.unusedVariables false
/-- The mask of the first k numbers. -/
def maskTo (l : List Int) (k : Nat) : Nat := (l.take k).foldl (fun m x => m ||| 2 ^ x.toNat) 0
theorem maskTo_zero (l : List Int) : maskTo l 0 = 0 := by simp [maskTo]
theorem maskTo_step {l : List Int} {k : Nat} (hk : k < l.length) : maskTo l (k + 1) = maskTo l k ||| 2 ^ (l.getD k 0).toNat := by
  unfold maskTo
  have e : l.getD k 0 = l[k] := by simp [List.getD, hk]
  rw [e, List.take_succ_eq_append_getElem hk, List.foldl_append]
  rfl
theorem setTo_pred {l : List Int} {k : Nat} (h : SetTo l (k + 1)) : SetTo l k := ⟨fun i hi => h.1 i (by omega), fun i hi => h.2 i (by omega)⟩
theorem bit_maskTo {l : List Int} : ∀ {k : Nat}, k ≤ l.length → SetTo l k → ∀ i : Nat, (maskTo l k).testBit i = true ↔ ∃ j, j < k ∧ l.getD j 0 = (i : Int) := by
  intro k
  induction k with
  | zero => intro _ _ i; simp [maskTo_zero]
  | succ k ih =>
    intro hk hs i
    rw [maskTo_step (by omega), Nat.testBit_or, Bool.or_eq_true, ih (by omega) (setTo_pred hs), Nat.testBit_two_pow]
    have h0 := hs.1 k (by omega)
    constructor
    · rintro (⟨j, hj, e⟩ | h)
      · exact ⟨j, by omega, e⟩
      · have := of_decide_eq_true h
        exact ⟨k, by omega, by omega⟩
    · rintro ⟨j, hj, e⟩
      by_cases ej : j = k
      · subst ej; right; rw [decide_eq_true_eq]; omega
      · exact Or.inl ⟨j, by omega, e⟩
theorem maskTo_lt {l : List Int} {k : Nat} (hk : k ≤ l.length) (hs : SetTo l k) (x : Nat) (h : ∀ j, j < k → l.getD j 0 < (x : Int)) : maskTo l k < 2 ^ x := by
  refine Nat.lt_pow_two_of_testBit _ fun i hi => ?_
  rw [Bool.eq_false_iff]
  intro g
  obtain ⟨j, hj, e⟩ := (bit_maskTo hk hs i).1 g
  have := h j hj
  omega
theorem maskTo_lt24 {l : List Int} {k : Nat} (hk : k ≤ l.length) (hs : SetTo l k) : maskTo l k < 16777216 :=
  maskTo_lt hk hs 24 (fun j hj => by have := (hs.1 j hj).2; omega)
theorem maskTo_ge {l : List Int} {k : Nat} (hk : k ≤ l.length) (hs : SetTo l k) {x : Nat} {j : Nat} (hj : j < k) (h : (x : Int) ≤ l.getD j 0) : 2 ^ x ≤ maskTo l k := by
  have h0 := (hs.1 j hj).1
  have := (bit_maskTo hk hs (l.getD j 0).toNat).2 ⟨j, hj, by omega⟩
  exact Nat.le_trans (Nat.pow_le_pow_right (by omega) (by omega)) (Nat.ge_two_pow_of_testBit this)
theorem setTo_mono {l : List Int} {k : Nat} (h : SetTo l k) : ∀ {i j : Nat}, i < j → j < k → l.getD i 0 < l.getD j 0 := by
  intro i j hij
  obtain ⟨d, rfl⟩ : ∃ d, j = i + d + 1 := ⟨j - i - 1, by omega⟩
  clear hij
  induction d with
  | zero => intro hj; exact h.2 i hj
  | succ d ih => intro hj; exact Int.lt_trans (ih (by omega)) (h.2 (i + d + 1) hj)
/-- The bit test of maskOf: no bit from x on, just where x goes on the ascent. -/
theorem maskTo_next {l : List Int} {k : Nat} (hk : k < l.length) (hs : SetTo l k) {x : Nat} (hx : l.getD k 0 = (x : Int)) (hx23 : x ≤ 23) : maskTo l k / 2 ^ x = 0 ↔ SetTo l (k + 1) := by
  rw [Nat.div_eq_zero_iff]
  constructor
  · rintro (h | h)
    · exact absurd h (Nat.ne_of_gt (Nat.two_pow_pos x))
    · refine setTo_step hs (by omega) (by omega) fun h0 => ?_
      apply Int.not_le.1
      intro g
      rw [hx] at g
      have := maskTo_ge (Nat.le_of_lt hk) hs (j := k - 1) (by omega) g
      omega
  · intro h
    right
    refine maskTo_lt (Nat.le_of_lt hk) hs x fun j hj => ?_
    rw [← hx]
    exact setTo_mono h hj (by omega)
/-- The mask of a set, 0 of any other list. -/
def maskL (l : List Int) : Nat := if setB l = true then maskTo l l.length else 0
theorem maskL_yes {l : List Int} (h : SetL l) : maskL l = maskTo l l.length := by unfold maskL; rw [if_pos ((setB_iff l).2 h)]
theorem maskL_no {l : List Int} (h : setB l = false) : maskL l = 0 := by unfold maskL; rw [h]; rfl
end Go.Proofs.Ytjeaimdnddelpaa
namespace Go.Proofs.Ytjeaimdnddelpaa
open Go.RowKit
set_option linter.unusedVariables false
theorem nat_u32 (a : Nat) (ha : a < 4294967296) : (BitVec.ofInt 32 (a : Int)).toNat = a := by
  rw [BitVec.ofInt_natCast, BitVec.toNat_ofNat]; exact Nat.mod_eq_of_lt (by omega)
theorem or_u32 (a b : Nat) (ha : a < 4294967296) (hb : b < 4294967296) : bits .or .u32 (a : Int) (b : Int) = ((a ||| b : Nat) : Int) := by
  have hx : a ||| b < 2 ^ 32 := Nat.or_lt_two_pow (by omega) (by omega)
  show IntKind.u32.wrap ((BitVec.ofInt 32 (a : Int) ||| BitVec.ofInt 32 (b : Int)).toNat : Int) = _
  rw [BitVec.toNat_or, nat_u32 a ha, nat_u32 b hb, IntKind.wrap_u32]
  omega
theorem isQuery (x : Int) (w : World) : Calls Try.prog 29 #[.int .i64 x] w fun e w' => e = .returned (.bool (decide (0 ≤ x ∧ x ≤ 23))) ∧ w' = w := by
  by_cases h0 : 0 ≤ x
  · by_cases h1 : x ≤ 23
    · rw [decide_eq_true (show 0 ≤ x ∧ x ≤ 23 from ⟨h0, h1⟩)]
      have h2 : x < 24 := by omega
      go_enter Try.func29, Try.ntmps29
      go_wp2
      go_ret
      exact ⟨rfl, rfl⟩
    · rw [decide_eq_false (show ¬ (0 ≤ x ∧ x ≤ 23) by omega)]
      have h2 : ¬ x < 24 := by omega
      go_enter Try.func29, Try.ntmps29
      go_wp2
      go_ret
      exact ⟨rfl, rfl⟩
  · rw [decide_eq_false (show ¬ (0 ≤ x ∧ x ≤ 23) by omega)]
    go_enter Try.func29, Try.ntmps29
    go_wp2
    go_ret
    exact ⟨rfl, rfl⟩
theorem pair_eq {a b : Nat} {x y : Bool} (h1 : a = b) (h2 : x = y) : Ending.returned (.tuple #[.int .u32 (a : Int), .bool x]) = .returned (.tuple #[.int .u32 (b : Int), .bool y]) := by rw [h1, h2]
set_option maxHeartbeats 2000000 in
set_option maxRecDepth 100000 in
theorem implMaskOf (va : Value) (a : List Int) (w : World) (h : Ints w va a) (hn : a.length ≤ 1073741824) :
    Calls Try.prog 28 #[va] w fun e w' => e = .returned (.tuple #[.int .u32 (maskL a : Nat), .bool (setB a)]) ∧ Below w.heap.size w w' := by
  obtain ⟨ap, cap, hva⟩ := ints_len h
  have HA := Lib.hid h
  have HN := Lib.hid hn
  clear h hn
  subst hva
  go_enter Try.func28, Try.ntmps28
  go_wp2
  go_loopw [4, 9] (fun m i wr => ∃ k : Nat, k ≤ a.length ∧ i = .int .i64 k ∧ Hid (SetTo a k) ∧ m = .int .u32 (maskTo a k : Nat) ∧ wr = w) (fun _ i _ => a.length - (intOf i).toNat)
  case atStart => exact ⟨0, Nat.zero_le _, rfl, Lib.hid ⟨fun i hi => by omega, fun i hi => by omega⟩, by rw [maskTo_zero]; rfl, rfl⟩
  case round =>
    obtain ⟨k, hk, rfl, hset, rfl, rfl⟩ := hrel
    by_cases hlt : k < a.length
    · obtain ⟨b, off, cap', hv, hbl, hc⟩ := ints_cell HA.out (by omega)
      simp only [Value.slice.injEq] at hv
      obtain ⟨rfl, _, rfl⟩ := hv
      have hcell := hc k hlt
      have i1 : (0 : Int) ≤ (k : Int) := by omega
      have i2 : (k : Int) < (a.length : Int) := by omega
      clear hc
      by_cases hr : 0 ≤ a.getD k 0 ∧ a.getD k 0 ≤ 23
      · obtain ⟨x, hx⟩ : ∃ x : Nat, a.getD k 0 = (x : Int) := ⟨(a.getD k 0).toNat, by omega⟩
        have hx23 : x ≤ 23 := by omega
        have HQ := Lib.hid (show decide (0 ≤ (x : Int) ∧ (x : Int) ≤ 23) = true from decide_eq_true (by omega))
        have hnext := maskTo_next hlt hset.out hx hx23
        have HST := Lib.hid (maskTo_step hlt)
        rw [hx] at hcell HST
        have HM0 := Lib.hid (maskTo_lt24 (Nat.le_of_lt hlt) hset.out)
        have hdiv : ((maskTo a k : Nat) : Int) / 2 ^ x = ((maskTo a k / 2 ^ x : Nat) : Int) := by norm_cast
        by_cases hz : maskTo a k / 2 ^ x = 0
        · have HS1 := Lib.hid (hnext.1 hz)
          have HB : ((maskTo a k : Int) / 2 ^ x != 0) = false := by rw [hdiv, hz]; rfl
          have HP : Hid (2 ^ x < 16777216 ∧ ((2 : Int) ^ x % 4294967296 = ((2 ^ x : Nat) : Int))) := by
            have h2 : 2 ^ x < 2 ^ 24 := Nat.pow_lt_pow_right (by omega) (show x < 24 by omega)
            have h3 : (2 : Int) ^ x = ((2 ^ x : Nat) : Int) := by norm_cast
            exact Lib.hid ⟨h2, by rw [h3]; clear h3; generalize 2 ^ x = q at *; omega⟩
          have HK := Lib.hid hlt
          clear hr hnext hx hz hset hk hlt hdiv
          generalize maskTo a k = m at *
          go_wp2_with fail
          refine (isQuery _ _).mono ?_
          rintro e w1 ⟨rfl, rfl⟩
          rw [HQ.out]
          have hn := HN.out
          go_wp2
          go_roundw
          case rel => exact ⟨k + 1, HK.out, by go_num, HS1, by rw [HP.out.2, or_u32 m _ (by have := HM0.out; omega) (by have := HP.out.1; omega), HST.out]; rfl, by first | rfl | trivial⟩
          case measure => have := HK.out; simp [intOf]; omega
        · have HF := Lib.hid (setB_no (l := a) (fun g => hz (hnext.2 ⟨fun i hi => g.1 i (by omega), fun i hi => g.2 i (by omega)⟩)))
          have HB : ((maskTo a k : Int) / 2 ^ x != 0) = true := by rw [hdiv, bne_iff_ne]; omega
          clear hr hnext hx hz hset hk hlt hdiv
          generalize maskTo a k = m at *
          go_wp2_with fail
          refine (isQuery _ _).mono ?_
          rintro e w1 ⟨rfl, rfl⟩
          rw [HQ.out]
          go_wp2
          go_ret2
          exact ⟨pair_eq (a := 0) (maskL_no HF.out).symm HF.out.symm, Below.refl _ _⟩
      · have HF := Lib.hid (setB_no (not_set_range hlt hr))
        have HQ := Lib.hid (show decide (0 ≤ a.getD k 0 ∧ a.getD k 0 ≤ 23) = false from decide_eq_false hr)
        clear hr hset hk hlt
        generalize maskTo a k = m at *
        generalize a.getD k 0 = x at *
        go_wp2_with fail
        refine (isQuery _ _).mono ?_
        rintro e w1 ⟨rfl, rfl⟩
        rw [HQ.out]
        go_wp2
        go_ret2
        exact ⟨pair_eq (a := 0) (maskL_no HF.out).symm HF.out.symm, Below.refl _ _⟩
    · obtain rfl : k = a.length := by omega
      have HS := Lib.hid ((setTo_all a).1 hset.out)
      have HE := Lib.hid (maskL_yes HS.out)
      clear hset hk hlt
      generalize maskTo a a.length = m at *
      go_wp2
      go_ret2
      exact ⟨pair_eq HE.out.symm ((setB_iff a).2 HS.out).symm, Below.refl _ _⟩
set_option maxHeartbeats 2000000 in
set_option maxRecDepth 100000 in
theorem implIsSet (va : Value) (a : List Int) (w : World) (h : Ints w va a) (hn : a.length ≤ 1048576) :
    Calls Try.prog 24 #[va] w fun e w' => e = .returned (.bool (setB a)) ∧ Below w.heap.size w w' := by
  have H := Lib.hid (fun w h => implMaskOf va a w h (by omega))
  have HA := Lib.hid h
  clear h hn
  go_enter Try.func24, Try.ntmps24
  go_wp2_with fail
  refine (H.out _ HA.out).mono ?_
  rintro e w1 ⟨rfl, b1⟩
  go_wp2
  go_ret
  exact ⟨rfl, b1⟩
end Go.Proofs.Ytjeaimdnddelpaa
namespace Go.Proofs.Ytjeaimdnddelpaa
open Go.RowKit
set_option linter.unusedVariables false
set_option linter.unusedSimpArgs false
set_option maxHeartbeats 4000000 in
set_option maxRecDepth 100000 in
theorem canGet_any (sg ba : Int) (p2 p3 p4 : Option Addr) (n2 c2 n3 c3 n4 c4 : Nat) (y : Int) (w : World) :
    Calls Try.prog 27 #[.agg #[.int .i64 sg, .int .i64 ba, .slice p2 n2 c2, .slice p3 n3 c3, .slice p4 n4 c4], .int .i64 y] w (fun e w' => e = .returned (.bool (decide (0 ≤ y ∧ y ≤ ba))) ∧ Below w.heap.size w w') := by
  have d := Lib.hid (show Below w.heap.size w (w.alloc (.cells #[.int .i64 sg, .int .i64 ba, .slice p2 n2 c2, .slice p3 n3 c3, .slice p4 n4 c4] 37)) from (Below.refl _ _).alloc (Nat.le_refl _) _)
  by_cases h1 : 0 ≤ y
  · by_cases h2 : y ≤ ba
    · have HF : Hid (decide (0 ≤ y ∧ y ≤ ba) = true) := Lib.hid (decide_eq_true ⟨h1, h2⟩)
      have f1 : decide (0 ≤ y) = true := decide_eq_true h1
      have f2 : decide (y ≤ ba) = true := decide_eq_true h2
      rw [HF.out]
      clear h1 h2
      go_enter Try.func27, Try.ntmps27
      go_wp2
      go_ret
      exact ⟨rfl, d.out⟩
    · have HF : Hid (decide (0 ≤ y ∧ y ≤ ba) = false) := Lib.hid (decide_eq_false (fun q => h2 q.2))
      have f1 : decide (0 ≤ y) = true := decide_eq_true h1
      have f2 : decide (y ≤ ba) = false := decide_eq_false h2
      rw [HF.out]
      clear h1 h2
      go_enter Try.func27, Try.ntmps27
      go_wp2
      go_ret
      exact ⟨rfl, d.out⟩
  · have HF : Hid (decide (0 ≤ y ∧ y ≤ ba) = false) := Lib.hid (decide_eq_false (fun q => h1 q.1))
    have f1 : decide (0 ≤ y) = false := decide_eq_false h1
    rw [HF.out]
    clear h1
    go_enter Try.func27, Try.ntmps27
    go_wp2
    go_ret
    exact ⟨rfl, d.out⟩
theorem isTenant_ten (n : Int) (w : World) : Calls Try.prog 26 #[.int .i64 n] w fun e w' => e = .returned (.bool (tenB n)) ∧ Below w.heap.size w w' := by
  by_cases h : 0 ≤ n ∧ n < 4
  · have e : tenB n = true := decide_eq_true ⟨h.1, by omega⟩
    rw [e]
    exact (isTenant_yes n w h.1 h.2).mono (fun e w' hh => ⟨hh.1, by rw [hh.2]; exact Below.refl _ _⟩)
  · have e : tenB n = false := decide_eq_false (fun g => h ⟨g.1, by omega⟩)
    rw [e]
    exact (isTenant_no n w h).mono (fun e w' hh => ⟨hh.1, by rw [hh.2]; exact Below.refl _ _⟩)
set_option maxHeartbeats 8000000 in
set_option maxRecDepth 100000 in
theorem allTen  (v : Value) (l : List Int) (w : World)  (h : SlR tInt w v l) (hs : zL tInt l ≤ 1048576) :
    Calls Try.prog 25 #[v, .func (.func 26) #[] #[]] w (fun e w' => e = .returned (.bool (l.all (tenB))) ∧ Below w.heap.size w w') := by
  have hlen := zL_len hs
  have HS := Lib.hid hs
  have H := Lib.hid h
  obtain ⟨a, cap, rfl⟩ := slR_len h
  clear h hs
  go_enter Try.func25, Try.ntmps25
  go_wp2
  go_loopw [9] (fun i wr => ∃ k : Nat, k ≤ l.length ∧ i = .int .i64 k ∧ Hid (AllTo (tenB) 0 l k) ∧ Below w.heap.size w wr) (fun i _ => l.length - (intOf i).toNat)
  case atStart => exact ⟨0, Nat.zero_le _, rfl, Lib.hid (allTo_zero _ _ _), Below.refl _ _⟩
  case round =>
    obtain ⟨k, hk, rfl, hno, c⟩ := hrel
    have cw := Lib.hid c
    by_cases hlt : k < l.length
    · have i1 : (0 : Int) ≤ (k : Int) := by omega
      have i2 : (k : Int) < (l.length : Int) := by omega
      have hz := zL_at HS.out hlt
      change tInt.sz (l.getD k 0) ≤ 1048576 at hz
      have HST : Hid ((tenB) (l.getD k 0) = true → AllTo (tenB) 0 l (k + 1)) := Lib.hid (fun g => allTo_step hno.out g)
      have HNO : Hid ((tenB) (l.getD k 0) = false → l.all (tenB) = false) := Lib.hid (fun g => allB_no 0 hlt g)
      obtain ⟨b, off, cap', hv, hbl, hc⟩ := ints_cell (slR_ints (slR_below tInt_law H.out c)) (by omega)
      simp only [Value.slice.injEq] at hv
      obtain ⟨rfl, _, rfl⟩ := hv
      have e0 := hc k hlt
      clear hc hbl hz
      generalize l.getD k 0 = y at *
      have HC := Lib.hid (isTenant_ten y wr)
      clear hno c
      obtain ⟨bv, hbv⟩ : ∃ bv, bv = tenB y := ⟨_, rfl⟩
      rw [← hbv] at HC HST HNO
      clear hbv
      cases bv with
      | true =>
        have HT := Lib.hid (HST.out rfl)
        clear HST HNO
        go_wp2_with fail
        refine HC.out.mono ?_
        rintro e w2 ⟨rfl, c2⟩
        have cw2 := Lib.hid (cw.out.trans (c2.mono cw.out.size))
        clear c2 HC e0
        go_wp2
        go_roundw
        case rel => exact ⟨k + 1, by omega, by go_num, HT, cw2.out⟩
        case measure => simp [intOf]; omega
      | false =>
        have HF := Lib.hid (HNO.out rfl)
        clear HST HNO
        go_wp2_with fail
        refine HC.out.mono ?_
        rintro e w2 ⟨rfl, c2⟩
        have cw2 := Lib.hid (cw.out.trans (c2.mono cw.out.size))
        clear c2 HC e0
        go_wp2
        go_ret
        exact ⟨ret_b HF.out.symm, cw2.out⟩
    · obtain rfl : k = l.length := by omega
      have HA := Lib.hid (allB_yes (p := tenB) 0 hno.out)
      clear hno c
      go_wp2
      go_ret
      exact ⟨ret_b HA.out.symm, cw.out⟩
set_option maxHeartbeats 8000000 in
set_option maxRecDepth 100000 in
theorem allGet (sg ba : Int) (p2 p3 p4 : Option Addr) (n2 c2 n3 c3 n4 c4 : Nat) (v : Value) (l : List Int) (w : World)  (h : SlR tInt w v l) (hs : zL tInt l ≤ 1048576) :
    Calls Try.prog 25 #[v, .func (.func 27) #[.agg #[.int .i64 sg, .int .i64 ba, .slice p2 n2 c2, .slice p3 n3 c3, .slice p4 n4 c4]] #[]] w (fun e w' => e = .returned (.bool (l.all (getB ba))) ∧ Below w.heap.size w w') := by
  have hlen := zL_len hs
  have HS := Lib.hid hs
  have H := Lib.hid h
  obtain ⟨a, cap, rfl⟩ := slR_len h
  clear h hs
  go_enter Try.func25, Try.ntmps25
  go_wp2
  go_loopw [9] (fun i wr => ∃ k : Nat, k ≤ l.length ∧ i = .int .i64 k ∧ Hid (AllTo (getB ba) 0 l k) ∧ Below w.heap.size w wr) (fun i _ => l.length - (intOf i).toNat)
  case atStart => exact ⟨0, Nat.zero_le _, rfl, Lib.hid (allTo_zero _ _ _), Below.refl _ _⟩
  case round =>
    obtain ⟨k, hk, rfl, hno, c⟩ := hrel
    have cw := Lib.hid c
    by_cases hlt : k < l.length
    · have i1 : (0 : Int) ≤ (k : Int) := by omega
      have i2 : (k : Int) < (l.length : Int) := by omega
      have hz := zL_at HS.out hlt
      change tInt.sz (l.getD k 0) ≤ 1048576 at hz
      have HST : Hid ((getB ba) (l.getD k 0) = true → AllTo (getB ba) 0 l (k + 1)) := Lib.hid (fun g => allTo_step hno.out g)
      have HNO : Hid ((getB ba) (l.getD k 0) = false → l.all (getB ba) = false) := Lib.hid (fun g => allB_no 0 hlt g)
      obtain ⟨b, off, cap', hv, hbl, hc⟩ := ints_cell (slR_ints (slR_below tInt_law H.out c)) (by omega)
      simp only [Value.slice.injEq] at hv
      obtain ⟨rfl, _, rfl⟩ := hv
      have e0 := hc k hlt
      clear hc hbl hz
      generalize l.getD k 0 = y at *
      have HC : Hid (Calls Try.prog 27 #[.agg #[.int .i64 sg, .int .i64 ba, .slice p2 n2 c2, .slice p3 n3 c3, .slice p4 n4 c4], .int .i64 y] wr (fun e w' => e = .returned (.bool (getB ba y)) ∧ Below wr.heap.size wr w')) := Lib.hid (canGet_any sg ba p2 p3 p4 n2 c2 n3 c3 n4 c4 y wr)
      clear hno c
      obtain ⟨bv, hbv⟩ : ∃ bv, bv = getB ba y := ⟨_, rfl⟩
      rw [← hbv] at HC HST HNO
      clear hbv
      cases bv with
      | true =>
        have HT := Lib.hid (HST.out rfl)
        clear HST HNO
        go_wp2_with fail
        refine HC.out.mono ?_
        rintro e w2 ⟨rfl, c2⟩
        have cw2 := Lib.hid (cw.out.trans (c2.mono cw.out.size))
        clear c2 HC e0
        go_wp2
        go_roundw
        case rel => exact ⟨k + 1, by omega, by go_num, HT, cw2.out⟩
        case measure => simp [intOf]; omega
      | false =>
        have HF := Lib.hid (HNO.out rfl)
        clear HST HNO
        go_wp2_with fail
        refine HC.out.mono ?_
        rintro e w2 ⟨rfl, c2⟩
        have cw2 := Lib.hid (cw.out.trans (c2.mono cw.out.size))
        clear c2 HC e0
        go_wp2
        go_ret
        exact ⟨ret_b HF.out.symm, cw2.out⟩
    · obtain rfl : k = l.length := by omega
      have HA := Lib.hid (allB_yes (p := getB ba) 0 hno.out)
      clear hno c
      go_wp2
      go_ret
      exact ⟨ret_b HA.out.symm, cw.out⟩
end Go.Proofs.Ytjeaimdnddelpaa
namespace Go.Proofs.Ytjeaimdnddelpaa
open Go.RowKit
set_option linter.unusedVariables false
set_option linter.unusedSimpArgs false
set_option maxHeartbeats 8000000 in
set_option maxRecDepth 100000 in
theorem implIsCharge (sg ba : Int) (v2 v3 v4 : Value) (x2 x3 x4 : List Int) (w : World) (h2 : SlR tInt w v2 x2) (h3 : SlR tInt w v3 x3) (h4 : SlR tInt w v4 x4) (s2 : zL tInt x2 ≤ 1048576) (s3 : zL tInt x3 ≤ 1048576) (s4 : zL tInt x4 ≤ 1048576) :
    Calls Try.prog 21 #[.agg #[.int .i64 sg, .int .i64 ba, v2, v3, v4]] w (fun e w' => e = .returned (.bool (chargeB (sg, ba, x2, x3, x4))) ∧ Below w.heap.size w w') := by
  obtain ⟨p2, c2, rfl⟩ := slR_len h2
  have H2 := Lib.hid h2; have S2 := Lib.hid s2; have n2 := zL_len s2
  obtain ⟨p3, c3, rfl⟩ := slR_len h3
  have H3 := Lib.hid h3; have S3 := Lib.hid s3; have n3 := zL_len s3
  obtain ⟨p4, c4, rfl⟩ := slR_len h4
  have H4 := Lib.hid h4; have S4 := Lib.hid s4; have n4 := zL_len s4
  have HMF : Hid (∀ (fn : Fn) (first cap : Array Value) (w : World), (Instr.makeFunc fn first cap).run Try.prog w = .ok (.func fn first cap) w) := Lib.hid (fun _ _ _ _ => rfl)
  clear h2 h3 h4 s2 s3 s4
  have d := Lib.hid (show Below w.heap.size w (w.alloc (.cells #[.int .i64 sg, .int .i64 ba, .slice p2 x2.length c2, .slice p3 x3.length c3, .slice p4 x4.length c4] 37)) from ((Below.refl _ w).alloc (Nat.le_refl _) _))
  have B0 : Hid ((w.alloc (.cells #[.int .i64 sg, .int .i64 ba, .slice p2 x2.length c2, .slice p3 x3.length c3, .slice p4 x4.length c4] 37)).heap[w.heap.size]? = some (.cells #[.int .i64 sg, .int .i64 ba, .slice p2 x2.length c2, .slice p3 x3.length c3, .slice p4 x4.length c4] 37 (0, 0))) := Lib.hid (by
    exact heap_alloc_new w _)
  have YW : Hid (w.heap.size + 1 ≤ (w.alloc (.cells #[.int .i64 sg, .int .i64 ba, .slice p2 x2.length c2, .slice p3 x3.length c3, .slice p4 x4.length c4] 37)).heap.size) := Lib.hid (by simp [World.size_alloc])
  go_enter Try.func21, Try.ntmps21
  go_wp2_with fail
  generalize (w.alloc (.cells #[.int .i64 sg, .int .i64 ba, .slice p2 x2.length c2, .slice p3 x3.length c3, .slice p4 x4.length c4] 37)) = W at *
  refine (implIsSet (.slice p2 x2.length c2) x2 W (slR_ints (slR_below tInt_law H2.out d.out)) n2).mono ?_
  rintro e W1 ⟨rfl, c⟩
  replace B0 := Lib.hid ((c.block w.heap.size (Array.getElem?_eq_some_iff.1 B0.out).1).trans B0.out)
  replace d := Lib.hid (d.out.trans (c.mono d.out.size))
  have Z_W1 := Lib.hid (show W.heap.size ≤ W1.heap.size from c.size)
  clear c
  rcases Bool.eq_false_or_eq_true (setB x2) with hset | hset
  rotate_left
  · rw [hset]
    have HF := Lib.hid (charge_no1 (x := (sg, ba, x2, x3, x4)) hset)
    clear hset
    have p_B0_0 := (cell_of_row W1 _ 0 _ _ _ B0.out).trans (show _ = some (Value.int .i64 sg) from rfl)
    have p_B0_1 := (cell_of_row W1 _ 1 _ _ _ B0.out).trans (show _ = some (Value.int .i64 ba) from rfl)
    have p_B0_2 := (cell_of_row W1 _ 2 _ _ _ B0.out).trans (show _ = some (Value.slice p2 x2.length c2) from rfl)
    have p_B0_3 := (cell_of_row W1 _ 3 _ _ _ B0.out).trans (show _ = some (Value.slice p3 x3.length c3) from rfl)
    have p_B0_4 := (cell_of_row W1 _ 4 _ _ _ B0.out).trans (show _ = some (Value.slice p4 x4.length c4) from rfl)
    go_wp2
    clear p_B0_0 p_B0_1 p_B0_2 p_B0_3 p_B0_4
    go_ret
    exact ⟨ret_b HF.out.symm, d.out⟩
  rw [hset]
  have HSET := Lib.hid hset
  clear hset
  by_cases hp1 : 1 ≤ x2.length
  rotate_left
  · have HF := Lib.hid (charge_no2 (x := (sg, ba, x2, x3, x4)) (fun g => hp1 g.1.1))
    have f1 : decide (1 ≤ (x2.length : Int)) = false := decide_eq_false (by omega)
    clear hp1
    have p_B0_0 := (cell_of_row W1 _ 0 _ _ _ B0.out).trans (show _ = some (Value.int .i64 sg) from rfl)
    have p_B0_1 := (cell_of_row W1 _ 1 _ _ _ B0.out).trans (show _ = some (Value.int .i64 ba) from rfl)
    have p_B0_2 := (cell_of_row W1 _ 2 _ _ _ B0.out).trans (show _ = some (Value.slice p2 x2.length c2) from rfl)
    have p_B0_3 := (cell_of_row W1 _ 3 _ _ _ B0.out).trans (show _ = some (Value.slice p3 x3.length c3) from rfl)
    have p_B0_4 := (cell_of_row W1 _ 4 _ _ _ B0.out).trans (show _ = some (Value.slice p4 x4.length c4) from rfl)
    go_wp2
    clear p_B0_0 p_B0_1 p_B0_2 p_B0_3 p_B0_4
    go_ret
    exact ⟨ret_b HF.out.symm, d.out⟩
  have f1 : decide (1 ≤ (x2.length : Int)) = true := decide_eq_true (by omega)
  have HP1 := Lib.hid hp1
  clear hp1
  by_cases hp2 : x2.length ≤ 8
  rotate_left
  · have HF := Lib.hid (charge_no2 (x := (sg, ba, x2, x3, x4)) (fun g => hp2 g.1.2))
    have f2 : decide ((x2.length : Int) ≤ 8) = false := decide_eq_false (by omega)
    clear hp2
    have p_B0_0 := (cell_of_row W1 _ 0 _ _ _ B0.out).trans (show _ = some (Value.int .i64 sg) from rfl)
    have p_B0_1 := (cell_of_row W1 _ 1 _ _ _ B0.out).trans (show _ = some (Value.int .i64 ba) from rfl)
    have p_B0_2 := (cell_of_row W1 _ 2 _ _ _ B0.out).trans (show _ = some (Value.slice p2 x2.length c2) from rfl)
    have p_B0_3 := (cell_of_row W1 _ 3 _ _ _ B0.out).trans (show _ = some (Value.slice p3 x3.length c3) from rfl)
    have p_B0_4 := (cell_of_row W1 _ 4 _ _ _ B0.out).trans (show _ = some (Value.slice p4 x4.length c4) from rfl)
    go_wp2
    clear p_B0_0 p_B0_1 p_B0_2 p_B0_3 p_B0_4
    go_ret
    exact ⟨ret_b HF.out.symm, d.out⟩
  have f2 : decide ((x2.length : Int) ≤ 8) = true := decide_eq_true (by omega)
  have HP2 := Lib.hid hp2
  clear hp2
  by_cases hp3 : x3.length = x2.length
  rotate_left
  · have HF := Lib.hid (charge_no2 (x := (sg, ba, x2, x3, x4)) (fun g => hp3 g.2.1.1))
    have f3 : ((x3.length : Int) == (x2.length : Int)) = false := by simp only [beq_eq_false_iff_ne, ne_eq]; omega
    clear hp3
    have p_B0_0 := (cell_of_row W1 _ 0 _ _ _ B0.out).trans (show _ = some (Value.int .i64 sg) from rfl)
    have p_B0_1 := (cell_of_row W1 _ 1 _ _ _ B0.out).trans (show _ = some (Value.int .i64 ba) from rfl)
    have p_B0_2 := (cell_of_row W1 _ 2 _ _ _ B0.out).trans (show _ = some (Value.slice p2 x2.length c2) from rfl)
    have p_B0_3 := (cell_of_row W1 _ 3 _ _ _ B0.out).trans (show _ = some (Value.slice p3 x3.length c3) from rfl)
    have p_B0_4 := (cell_of_row W1 _ 4 _ _ _ B0.out).trans (show _ = some (Value.slice p4 x4.length c4) from rfl)
    go_wp2
    clear p_B0_0 p_B0_1 p_B0_2 p_B0_3 p_B0_4
    go_ret
    exact ⟨ret_b HF.out.symm, d.out⟩
  have f3 : ((x3.length : Int) == (x2.length : Int)) = true := by simp only [beq_iff_eq]; omega
  have HP3 := Lib.hid hp3
  clear hp3
  by_cases hp4 : x4.length = x2.length
  rotate_left
  · have HF := Lib.hid (charge_no2 (x := (sg, ba, x2, x3, x4)) (fun g => hp4 g.2.1.2))
    have f4 : ((x4.length : Int) == (x2.length : Int)) = false := by simp only [beq_eq_false_iff_ne, ne_eq]; omega
    clear hp4
    have p_B0_0 := (cell_of_row W1 _ 0 _ _ _ B0.out).trans (show _ = some (Value.int .i64 sg) from rfl)
    have p_B0_1 := (cell_of_row W1 _ 1 _ _ _ B0.out).trans (show _ = some (Value.int .i64 ba) from rfl)
    have p_B0_2 := (cell_of_row W1 _ 2 _ _ _ B0.out).trans (show _ = some (Value.slice p2 x2.length c2) from rfl)
    have p_B0_3 := (cell_of_row W1 _ 3 _ _ _ B0.out).trans (show _ = some (Value.slice p3 x3.length c3) from rfl)
    have p_B0_4 := (cell_of_row W1 _ 4 _ _ _ B0.out).trans (show _ = some (Value.slice p4 x4.length c4) from rfl)
    go_wp2
    clear p_B0_0 p_B0_1 p_B0_2 p_B0_3 p_B0_4
    go_ret
    exact ⟨ret_b HF.out.symm, d.out⟩
  have f4 : ((x4.length : Int) == (x2.length : Int)) = true := by simp only [beq_iff_eq]; omega
  have HP4 := Lib.hid hp4
  clear hp4
  by_cases hp5 : 0 ≤ sg
  rotate_left
  · have HF := Lib.hid (charge_no2 (x := (sg, ba, x2, x3, x4)) (fun g => hp5 g.2.2.1.1))
    have f5 : decide (0 ≤ sg) = false := decide_eq_false (by omega)
    clear hp5
    have p_B0_0 := (cell_of_row W1 _ 0 _ _ _ B0.out).trans (show _ = some (Value.int .i64 sg) from rfl)
    have p_B0_1 := (cell_of_row W1 _ 1 _ _ _ B0.out).trans (show _ = some (Value.int .i64 ba) from rfl)
    have p_B0_2 := (cell_of_row W1 _ 2 _ _ _ B0.out).trans (show _ = some (Value.slice p2 x2.length c2) from rfl)
    have p_B0_3 := (cell_of_row W1 _ 3 _ _ _ B0.out).trans (show _ = some (Value.slice p3 x3.length c3) from rfl)
    have p_B0_4 := (cell_of_row W1 _ 4 _ _ _ B0.out).trans (show _ = some (Value.slice p4 x4.length c4) from rfl)
    go_wp2
    clear p_B0_0 p_B0_1 p_B0_2 p_B0_3 p_B0_4
    go_ret
    exact ⟨ret_b HF.out.symm, d.out⟩
  have f5 : decide (0 ≤ sg) = true := decide_eq_true (by omega)
  have HP5 := Lib.hid hp5
  clear hp5
  by_cases hp6 : sg < 8
  rotate_left
  · have HF := Lib.hid (charge_no2 (x := (sg, ba, x2, x3, x4)) (fun g => hp6 (by have := g.2.2.1.2; show sg < 8; simp only at this; omega)))
    have f6 : decide (sg < 8) = false := decide_eq_false (by omega)
    clear hp6
    have p_B0_0 := (cell_of_row W1 _ 0 _ _ _ B0.out).trans (show _ = some (Value.int .i64 sg) from rfl)
    have p_B0_1 := (cell_of_row W1 _ 1 _ _ _ B0.out).trans (show _ = some (Value.int .i64 ba) from rfl)
    have p_B0_2 := (cell_of_row W1 _ 2 _ _ _ B0.out).trans (show _ = some (Value.slice p2 x2.length c2) from rfl)
    have p_B0_3 := (cell_of_row W1 _ 3 _ _ _ B0.out).trans (show _ = some (Value.slice p3 x3.length c3) from rfl)
    have p_B0_4 := (cell_of_row W1 _ 4 _ _ _ B0.out).trans (show _ = some (Value.slice p4 x4.length c4) from rfl)
    go_wp2
    clear p_B0_0 p_B0_1 p_B0_2 p_B0_3 p_B0_4
    go_ret
    exact ⟨ret_b HF.out.symm, d.out⟩
  have f6 : decide (sg < 8) = true := decide_eq_true (by omega)
  have HP6 := Lib.hid hp6
  clear hp6
  by_cases hp7 : 0 ≤ ba
  rotate_left
  · have HF := Lib.hid (charge_no2 (x := (sg, ba, x2, x3, x4)) (fun g => hp7 g.2.2.2.1))
    have f7 : decide (0 ≤ ba) = false := decide_eq_false (by omega)
    clear hp7
    have p_B0_0 := (cell_of_row W1 _ 0 _ _ _ B0.out).trans (show _ = some (Value.int .i64 sg) from rfl)
    have p_B0_1 := (cell_of_row W1 _ 1 _ _ _ B0.out).trans (show _ = some (Value.int .i64 ba) from rfl)
    have p_B0_2 := (cell_of_row W1 _ 2 _ _ _ B0.out).trans (show _ = some (Value.slice p2 x2.length c2) from rfl)
    have p_B0_3 := (cell_of_row W1 _ 3 _ _ _ B0.out).trans (show _ = some (Value.slice p3 x3.length c3) from rfl)
    have p_B0_4 := (cell_of_row W1 _ 4 _ _ _ B0.out).trans (show _ = some (Value.slice p4 x4.length c4) from rfl)
    go_wp2
    clear p_B0_0 p_B0_1 p_B0_2 p_B0_3 p_B0_4
    go_ret
    exact ⟨ret_b HF.out.symm, d.out⟩
  have f7 : decide (0 ≤ ba) = true := decide_eq_true (by omega)
  have HP7 := Lib.hid hp7
  clear hp7
  by_cases hp8 : ba ≤ 4
  rotate_left
  · have HF := Lib.hid (charge_no2 (x := (sg, ba, x2, x3, x4)) (fun g => hp8 g.2.2.2.2))
    have f8 : decide (ba ≤ 4) = false := decide_eq_false (by omega)
    clear hp8
    have p_B0_0 := (cell_of_row W1 _ 0 _ _ _ B0.out).trans (show _ = some (Value.int .i64 sg) from rfl)
    have p_B0_1 := (cell_of_row W1 _ 1 _ _ _ B0.out).trans (show _ = some (Value.int .i64 ba) from rfl)
    have p_B0_2 := (cell_of_row W1 _ 2 _ _ _ B0.out).trans (show _ = some (Value.slice p2 x2.length c2) from rfl)
    have p_B0_3 := (cell_of_row W1 _ 3 _ _ _ B0.out).trans (show _ = some (Value.slice p3 x3.length c3) from rfl)
    have p_B0_4 := (cell_of_row W1 _ 4 _ _ _ B0.out).trans (show _ = some (Value.slice p4 x4.length c4) from rfl)
    go_wp2
    clear p_B0_0 p_B0_1 p_B0_2 p_B0_3 p_B0_4
    go_ret
    exact ⟨ret_b HF.out.symm, d.out⟩
  have f8 : decide (ba ≤ 4) = true := decide_eq_true (by omega)
  have HP8 := Lib.hid hp8
  clear hp8
  have HH : Hid (chargeHP (sg, ba, x2, x3, x4)) := Lib.hid ⟨⟨HP1.out, HP2.out⟩, ⟨HP3.out, HP4.out⟩, ⟨HP5.out, by have := HP6.out; show sg ≤ 7; omega⟩, ⟨HP7.out, HP8.out⟩⟩
  have p_B0_0 := (cell_of_row W1 _ 0 _ _ _ B0.out).trans (show _ = some (Value.int .i64 sg) from rfl)
  have p_B0_1 := (cell_of_row W1 _ 1 _ _ _ B0.out).trans (show _ = some (Value.int .i64 ba) from rfl)
  have p_B0_2 := (cell_of_row W1 _ 2 _ _ _ B0.out).trans (show _ = some (Value.slice p2 x2.length c2) from rfl)
  have p_B0_3 := (cell_of_row W1 _ 3 _ _ _ B0.out).trans (show _ = some (Value.slice p3 x3.length c3) from rfl)
  have p_B0_4 := (cell_of_row W1 _ 4 _ _ _ B0.out).trans (show _ = some (Value.slice p4 x4.length c4) from rfl)
  go_wp2_with fail
  clear p_B0_0 p_B0_1 p_B0_2 p_B0_3 p_B0_4 f1 f2 f3 f4 f5 f6 f7 f8
  refine (allTen (.slice p3 x3.length c3) x3 W1 (slR_below tInt_law H3.out d.out) S3.out).mono ?_
  rintro e W8 ⟨rfl, c⟩
  replace B0 := Lib.hid ((c.block w.heap.size (Array.getElem?_eq_some_iff.1 B0.out).1).trans B0.out)
  replace d := Lib.hid (d.out.trans (c.mono d.out.size))
  have Z_W8 := Lib.hid (show W1.heap.size ≤ W8.heap.size from c.size)
  clear c
  rcases Bool.eq_false_or_eq_true (x3.all tenB) with hten | hten
  rotate_left
  · rw [hten]
    have HF := Lib.hid (charge_no3 (x := (sg, ba, x2, x3, x4)) hten)
    clear hten
    have p_B0_0 := (cell_of_row W8 _ 0 _ _ _ B0.out).trans (show _ = some (Value.int .i64 sg) from rfl)
    have p_B0_1 := (cell_of_row W8 _ 1 _ _ _ B0.out).trans (show _ = some (Value.int .i64 ba) from rfl)
    have p_B0_2 := (cell_of_row W8 _ 2 _ _ _ B0.out).trans (show _ = some (Value.slice p2 x2.length c2) from rfl)
    have p_B0_3 := (cell_of_row W8 _ 3 _ _ _ B0.out).trans (show _ = some (Value.slice p3 x3.length c3) from rfl)
    have p_B0_4 := (cell_of_row W8 _ 4 _ _ _ B0.out).trans (show _ = some (Value.slice p4 x4.length c4) from rfl)
    go_wp2
    clear p_B0_0 p_B0_1 p_B0_2 p_B0_3 p_B0_4
    go_ret
    exact ⟨ret_b HF.out.symm, d.out⟩
  rw [hten]
  have HTEN := Lib.hid hten
  clear hten
  have p_B0_0 := (cell_of_row W8 _ 0 _ _ _ B0.out).trans (show _ = some (Value.int .i64 sg) from rfl)
  have p_B0_1 := (cell_of_row W8 _ 1 _ _ _ B0.out).trans (show _ = some (Value.int .i64 ba) from rfl)
  have p_B0_2 := (cell_of_row W8 _ 2 _ _ _ B0.out).trans (show _ = some (Value.slice p2 x2.length c2) from rfl)
  have p_B0_3 := (cell_of_row W8 _ 3 _ _ _ B0.out).trans (show _ = some (Value.slice p3 x3.length c3) from rfl)
  have p_B0_4 := (cell_of_row W8 _ 4 _ _ _ B0.out).trans (show _ = some (Value.slice p4 x4.length c4) from rfl)
  have hmf := HMF.out
  go_wp2_with fail
  clear p_B0_0 p_B0_1 p_B0_2 p_B0_3 p_B0_4 hmf
  refine (allGet sg ba p2 p3 p4 x2.length c2 x3.length c3 x4.length c4 (.slice p4 x4.length c4) x4 W8 (slR_below tInt_law H4.out d.out) S4.out).mono ?_
  rintro e W9 ⟨rfl, c⟩
  replace B0 := Lib.hid ((c.block w.heap.size (Array.getElem?_eq_some_iff.1 B0.out).1).trans B0.out)
  replace d := Lib.hid (d.out.trans (c.mono d.out.size))
  have Z_W9 := Lib.hid (show W8.heap.size ≤ W9.heap.size from c.size)
  clear c
  have HT : Hid (x4.all (getB ba) = chargeB (sg, ba, x2, x3, x4)) := Lib.hid (by
    rcases Bool.eq_false_or_eq_true (x4.all (getB ba)) with g | g
    · rw [g]; exact (charge_yes (x := (sg, ba, x2, x3, x4)) HSET.out HH.out HTEN.out g).symm
    · rw [g]; exact (charge_no4 (x := (sg, ba, x2, x3, x4)) g).symm)
  rw [HT.out]
  have p_B0_0 := (cell_of_row W9 _ 0 _ _ _ B0.out).trans (show _ = some (Value.int .i64 sg) from rfl)
  have p_B0_1 := (cell_of_row W9 _ 1 _ _ _ B0.out).trans (show _ = some (Value.int .i64 ba) from rfl)
  have p_B0_2 := (cell_of_row W9 _ 2 _ _ _ B0.out).trans (show _ = some (Value.slice p2 x2.length c2) from rfl)
  have p_B0_3 := (cell_of_row W9 _ 3 _ _ _ B0.out).trans (show _ = some (Value.slice p3 x3.length c3) from rfl)
  have p_B0_4 := (cell_of_row W9 _ 4 _ _ _ B0.out).trans (show _ = some (Value.slice p4 x4.length c4) from rfl)
  go_wp2
  clear p_B0_0 p_B0_1 p_B0_2 p_B0_3 p_B0_4
  go_ret
  exact ⟨rfl, d.out⟩
end Go.Proofs.Ytjeaimdnddelpaa
namespace Go.Proofs.Ytjeaimdnddelpaa
open Go.RowKit
set_option linter.unusedVariables false
set_option linter.unusedSimpArgs false
set_option maxHeartbeats 8000000 in
set_option maxRecDepth 100000 in
theorem implWorkDone (sg ba : Int) (v2 v3 v4 : Value) (x2 x3 x4 : List Int) (w : World) (h2 : SlR tInt w v2 x2) (h3 : SlR tInt w v3 x3) (h4 : SlR tInt w v4 x4) (s2 : zL tInt x2 ≤ 1048576) (s3 : zL tInt x3 ≤ 1048576) (s4 : zL tInt x4 ≤ 1048576) :
    Calls Try.prog 16 #[.agg #[.int .i64 sg, .int .i64 ba, v2, v3, v4]] w (fun e w' => e = .returned (.int .i64 (workX (sg, ba, x2, x3, x4))) ∧ Below w.heap.size w w') := by
  obtain ⟨p2, c2, rfl⟩ := slR_len h2
  have H2 := Lib.hid h2
  obtain ⟨p3, c3, rfl⟩ := slR_len h3
  have H3 := Lib.hid h3
  obtain ⟨p4, c4, rfl⟩ := slR_len h4
  have H4 := Lib.hid h4
  clear h2 h3 h4
  have S2 := Lib.hid s2; have S3 := Lib.hid s3; have S4 := Lib.hid s4; have n2 := zL_len s2; have n3 := zL_len s3; have n4 := zL_len s4
  clear s2 s3 s4
  have d := Lib.hid (show Below w.heap.size w (w.alloc (.cells #[.int .i64 sg, .int .i64 ba, .slice p2 x2.length c2, .slice p3 x3.length c3, .slice p4 x4.length c4] 37)) from ((Below.refl _ w).alloc (Nat.le_refl _) _))
  have B0 : Hid ((w.alloc (.cells #[.int .i64 sg, .int .i64 ba, .slice p2 x2.length c2, .slice p3 x3.length c3, .slice p4 x4.length c4] 37)).heap[w.heap.size]? = some (.cells #[.int .i64 sg, .int .i64 ba, .slice p2 x2.length c2, .slice p3 x3.length c3, .slice p4 x4.length c4] 37 (0, 0))) := Lib.hid (by
    exact heap_alloc_new w _)
  have YW : Hid (w.heap.size + 1 ≤ (w.alloc (.cells #[.int .i64 sg, .int .i64 ba, .slice p2 x2.length c2, .slice p3 x3.length c3, .slice p4 x4.length c4] 37)).heap.size) := Lib.hid (by simp [World.size_alloc])
  go_enter Try.func16, Try.ntmps16
  go_wp2_with fail
  generalize (w.alloc (.cells #[.int .i64 sg, .int .i64 ba, .slice p2 x2.length c2, .slice p3 x3.length c3, .slice p4 x4.length c4] 37)) = W at *
  refine (implIsCharge sg ba (.slice p2 x2.length c2) (.slice p3 x3.length c3) (.slice p4 x4.length c4) x2 x3 x4 W (slR_below tInt_law H2.out d.out) (slR_below tInt_law H3.out d.out) (slR_below tInt_law H4.out d.out) S2.out S3.out S4.out).mono ?_
  rintro e W1 ⟨rfl, c⟩
  replace B0 := Lib.hid ((c.block w.heap.size (Array.getElem?_eq_some_iff.1 B0.out).1).trans B0.out)
  replace d := Lib.hid (d.out.trans (c.mono d.out.size))
  have Z_W1 := Lib.hid (show W.heap.size ≤ W1.heap.size from c.size)
  clear c
  rcases Bool.eq_false_or_eq_true (chargeB (sg, ba, x2, x3, x4)) with hch | hch
  rotate_left
  · rw [hch]
    have HF := Lib.hid (workX_no hch)
    clear hch
    have p_B0_0 := (cell_of_row W1 _ 0 _ _ _ B0.out).trans (show _ = some (Value.int .i64 sg) from rfl)
    have p_B0_1 := (cell_of_row W1 _ 1 _ _ _ B0.out).trans (show _ = some (Value.int .i64 ba) from rfl)
    have p_B0_2 := (cell_of_row W1 _ 2 _ _ _ B0.out).trans (show _ = some (Value.slice p2 x2.length c2) from rfl)
    have p_B0_3 := (cell_of_row W1 _ 3 _ _ _ B0.out).trans (show _ = some (Value.slice p3 x3.length c3) from rfl)
    have p_B0_4 := (cell_of_row W1 _ 4 _ _ _ B0.out).trans (show _ = some (Value.slice p4 x4.length c4) from rfl)
    go_wp2
    clear p_B0_0 p_B0_1 p_B0_2 p_B0_3 p_B0_4
    go_ret
    exact ⟨ret_n HF.out.symm, d.out⟩
  rw [hch]
  have HCH := Lib.hid hch
  have HP := Lib.hid (charge_iff hch).2.1
  clear hch
  have p_B0_0 := (cell_of_row W1 _ 0 _ _ _ B0.out).trans (show _ = some (Value.int .i64 sg) from rfl)
  have p_B0_1 := (cell_of_row W1 _ 1 _ _ _ B0.out).trans (show _ = some (Value.int .i64 ba) from rfl)
  have p_B0_2 := (cell_of_row W1 _ 2 _ _ _ B0.out).trans (show _ = some (Value.slice p2 x2.length c2) from rfl)
  have p_B0_3 := (cell_of_row W1 _ 3 _ _ _ B0.out).trans (show _ = some (Value.slice p3 x3.length c3) from rfl)
  have p_B0_4 := (cell_of_row W1 _ 4 _ _ _ B0.out).trans (show _ = some (Value.slice p4 x4.length c4) from rfl)
  go_wp2
  go_loop [3, 14] (fun n i => ∃ (k : Nat) (s : Int), k ≤ x4.length ∧ i = .int .i64 k ∧ n = .int .i64 s ∧ Hid (s = ba + accN (rowI (sg, ba, x2, x3, x4)) k)) (fun _ i => x4.length - (intOf i).toNat)
  case atStart => exact ⟨0, ba, Nat.zero_le _, rfl, rfl, Lib.hid (Int.add_zero ba).symm⟩
  case round =>
    obtain ⟨k, s, hk, rfl, rfl, hs⟩ := hrel
    have s1 : 0 ≤ s ∧ s ≤ 100 := by
      have q1 := rows_sum HCH.out hk
      have q2 := HP.out
      have q3 := hs.out
      obtain ⟨⟨_, q4⟩, ⟨_, q5⟩, _, q6, q7⟩ := q2
      simp only at q4 q5 q6 q7 q1 hk
      omega
    obtain ⟨s1, s2⟩ := s1
    by_cases hlt : k < x4.length
    · have i1 : (0 : Int) ≤ (k : Int) := by omega
      have i2 : (k : Int) < (x4.length : Int) := by omega
      have HY := chg_row (x := (sg, ba, x2, x3, x4)) HCH.out hlt
      have hba : ba ≤ 4 := HP.out.2.2.2.2
      have HN : Hid (s + x4.getD k 0 = ba + accN (rowI (sg, ba, x2, x3, x4)) (k + 1)) := Lib.hid (by
        have := hs.out
        show s + x4.getD k 0 = ba + (accN (rowI (sg, ba, x2, x3, x4)) k + x4.getD k 0)
        omega)
      simp only at HY
      obtain ⟨y1, y2⟩ := HY
      clear hs
      obtain ⟨be0, offe0, cape0, hv, hbl, hc⟩ := ints_cell (slR_ints (slR_below tInt_law H4.out d.out)) (by omega)
      simp only [Value.slice.injEq] at hv
      obtain ⟨rfl, _, rfl⟩ := hv
      have e0 := hc k (by omega)
      clear hc hbl
      generalize x4.getD k 0 = y at *
      have y3 : y ≤ 100 := by omega
      clear y2 hba
      go_wp2
      go_round
      case rel => exact ⟨k + 1, s + y, by omega, by go_num, rfl, HN⟩
      case measure => simp [intOf]; omega
    · obtain rfl : k = x4.length := by omega
      have HT : Hid (s = workX (sg, ba, x2, x3, x4)) := Lib.hid (by rw [workX_yes HCH.out]; exact hs.out)
      clear hs
      go_wp2
      go_ret
      exact ⟨ret_n HT.out, d.out⟩
end Go.Proofs.Ytjeaimdnddelpaa
