/-
  Texts of the proof, merged: TVersionSS, TRow, TRowS, TyApp, Raw, VerBr, VerSpec2, TCond, FlatT, VerSpec3, VerSpec4, BrRow, RowInsM, RowSort, VerSpec5, TStore, NewMath, VerSpec6, VerSpec7, VerSize, Rec, RecLim, RecEq.
-/
import Derived.Test.YthiiaiholcfhhaaUD1
import Derived.BigQuiet
import Derived.Deep.QuietTactic
import Derived.Deep.RegionHeld3
import Derived.Maps.AppendAt
import Derived.Deep.Upon
import Derived.Deep.Slices
import Derived.Laws.CopyOwn
import Derived.Lib.MinMax
import Derived.Laws.StructEq
namespace Go.Proofs.Ythiiaiholcfhhaa
open Go.RowKit
set_option linter.unusedVariables false
set_option linter.unusedSimpArgs false
abbrev tVersionSS : Ty (List (List (Int × List Int × Int × Int))) := tSl 89 tVersionS
theorem tVersionSS_law : tVersionSS.Law := tSl_law tVersionS_law (by decide)
set_option maxHeartbeats 8000000 in
set_option maxRecDepth 100000 in
theorem eqVersionSS_S (v u : Value) (xs : List (List (Int × List Int × Int × Int))) (w : World) (h : SlR tVersionS w v xs) (g : SlR tVersionS w u xs) (hs : zL tVersionS xs ≤ 1048576) :
    Calls Try.prog 53 #[v, u] w fun e w' => e = .returned (.bool true) ∧ Below w.heap.size w w' := by
  have H := Lib.hid h
  have G := Lib.hid g
  have HS := Lib.hid hs
  have hlen := zL_len hs
  obtain ⟨a, cap, rfl⟩ := slR_len h
  obtain ⟨a2, cap2, rfl⟩ := slR_len g
  clear h g hs
  go_enter Try.func53, Try.ntmps53
  go_wp2
  go_loopw [5] (fun i wr => ∃ k : Nat, k ≤ xs.length ∧ i = .int .i64 k ∧ Below w.heap.size w wr) (fun i _ => xs.length - (intOf i).toNat)
  case atStart => exact ⟨0, Nat.zero_le _, rfl, Below.refl _ _⟩
  case round =>
    obtain ⟨k, hk, rfl, hbel⟩ := hrel
    by_cases hlt : k < xs.length
    · obtain ⟨b, off, cap', cs, hv, hbl, hcs, hR⟩ := slR_at (slR_below tVersionS_law H.out hbel) hlt
      simp only [Value.slice.injEq] at hv
      obtain ⟨rfl, _, rfl⟩ := hv
      obtain ⟨b2, off2, cap2', ds, hv2, hbl2, hds, hQ⟩ := slR_at (slR_below tVersionS_law G.out hbel) hlt
      simp only [Value.slice.injEq] at hv2
      obtain ⟨rfl, _, rfl⟩ := hv2
      have hzx := zL_at HS.out hlt
      have i1 : (0 : Int) ≤ (k : Int) := by omega
      have i2 : (k : Int) < (xs.length : Int) := by omega
      generalize xs.getD k tVersionS.d = x at *
      obtain ⟨u1, rfl, h0⟩ := hR
      obtain ⟨u2, rfl, g0⟩ := hQ
      have p0 : wr.cell? ⟨b, off + k, none⟩ = some u1 := by have := hcs 0 Nat.one_pos; rw [show tVersionS.n = 1 from rfl, Nat.mul_one, Nat.add_zero] at this; exact this
      have q0 : wr.cell? ⟨b2, off2 + k, none⟩ = some u2 := by have := hds 0 Nat.one_pos; rw [show tVersionS.n = 1 from rfl, Nat.mul_one, Nat.add_zero] at this; exact this
      have S0 := Lib.hid hzx
      clear hcs hds hzx
      go_wp2
      go_region_with (first | (go_at_call 81; refine (eqVersionS_S u1 u2 x _ (by exact slR_same tVersion_law h0 rfl rfl rfl rfl) (by exact slR_same tVersion_law g0 rfl rfl rfl rfl) S0.out).mono ?_; rintro e w8 ⟨rfl, b9⟩; have b10 : Below wr.heap.size wr w8 := ⟨b9.os, b9.tape, b9.output, b9.size, b9.block⟩))
      all_goals
        have b11 := hbel.trans (b10.mono hbel.size)
        go_wp2
        go_roundw
        case rel => exact ⟨k + 1, by omega, by go_num, b11⟩
        case measure => simp [intOf]; omega
    · go_wp2
      go_ret
      exact ⟨rfl, hbel⟩
set_option maxHeartbeats 8000000 in
set_option maxRecDepth 100000 in
theorem markVersionSS_S (v : Value) (xs : List (List (Int × List Int × Int × Int))) (F : Nat → Prop) (k : Int) (w : World) (h : SlO 89 tVersionS w F v xs) (hs : zL tVersionS xs ≤ 1048576) (k0 : 0 ≤ k) (k1 : k ≤ 939524096) :
    Calls Try.prog 54 #[v, .int .i64 k] w fun e w' => e = .returned (.int .i64 (k + (ndL tVersionS xs : Int))) ∧ SlO 89 tVersionS w' F v (mAll tVersionS xs k) ∧ Turn F w w' := by
  rw [← kAt_all]
  have HS := Lib.hid hs
  have hlen := zL_len hs
  rcases slO_form h with ⟨rfl, rfl⟩ | ⟨g, cap, rfl, hFg, hgw⟩
  · have H := Lib.hid h
    clear h hs
    go_enter Try.func54, Try.ntmps54
    go_wp2
    go_loop [1, 5] (fun m i => i = .int .i64 0 ∧ m = .int .i64 k) (fun _ _ => 0)
    case atStart => exact ⟨rfl, rfl⟩
    case round =>
      obtain ⟨rfl, rfl⟩ := hrel
      go_wp2
      go_ret
      exact ⟨by simp [kAt, sumN], by rw [show mAll tVersionS [] k = [] from rfl]; exact H.out, Turn.refl _ _⟩
  · have H := Lib.hid h
    clear h hs
    go_enter Try.func54, Try.ntmps54
    go_wp2
    go_loopw [1, 5] (fun m i wr => ∃ j : Nat, j ≤ xs.length ∧ i = .int .i64 j ∧ m = .int .i64 (kAt tVersionS xs k j) ∧ SlO 89 tVersionS wr (fun b => F b ∧ b < w.heap.size) (.slice (some ⟨g, 0, none⟩) xs.length cap) (mTo tVersionS xs k j) ∧ Turn F w wr) (fun _ i _ => xs.length - (intOf i).toNat)
    case atStart => exact ⟨0, Nat.zero_le _, rfl, by rw [kAt_zero], by rw [mTo_zero]; exact slO_lt tVersionS_law H.out, Turn.refl _ _⟩
    case round =>
      obtain ⟨j, hj, rfl, rfl, hown, hon⟩ := hrel
      by_cases hlt : j < xs.length
      · have i1 : (0 : Int) ≤ (j : Int) := by omega
        have i2 : (j : Int) < (xs.length : Int) := by omega
        have hjl : j < (mTo tVersionS xs k j).length := by rw [mTo_len hj]; exact hlt
        have HLL := Lib.hid (mTo_len (T := tVersionS) (k := k) hj)
        obtain ⟨r1, r2⟩ := kAt_range tVersionS_law (by decide) (k := k) HS.out hj
        obtain ⟨r3, r4⟩ := kAt_range tVersionS_law (by decide) (k := k) (j := j + 1) HS.out (by omega)
        have hzx := zL_at HS.out hlt
        have hstep := kAt_step (T := tVersionS) (k := k) hlt
        have hset := mTo_step (T := tVersionS) (k := k) hlt
        have hsz := hon.size
        obtain ⟨hme, hFg2, hgl, cj, Fj, Lc, hrow, hLc, hO, hFj, hput⟩ := slO_open tVersionS_law hown hjl
        clear hme hFg2
        rw [mTo_at hlt] at hO
        have HM : Hid (∃ m', kAt tVersionS xs k (j + 1) = m') := Lib.hid ⟨_, rfl⟩
        obtain ⟨m', hm'⟩ := HM.out
        rw [hm'] at hstep r3 r4
        have HM' := Lib.hid hm'
        clear hm' HM H hown hjl
        generalize kAt tVersionS xs k j = m at *
        generalize xs.getD j tVersionS.d = x at *
        rw [HLL.out] at hrow hput
        have hmm : m + (ndL tVersion x : Int) = m' := hstep.symm
        have HMM := Lib.hid hmm
        have HSET := Lib.hid hset
        have S0 := Lib.hid hzx
        clear hmm hstep hset hzx
        obtain ⟨u, rfl, o0⟩ := hO
        have cv : wr.cell? ⟨g, j, none⟩ = some u := (World.ownsRow.cellAt hrow j (by show j < xs.length * 1; omega)).trans (by have := hLc 0 Nat.one_pos; rw [show tVersionS.n = 1 from rfl, Nat.mul_one, Nat.add_zero] at this; exact this)
        go_wp2_with fail
        clear cv
        refine (markVersionS_S u x _ m wr o0 S0.out (by omega) (by omega)).mono ?_
        rintro e w1 ⟨rfl, m0, t1⟩
        have rr := row_turn hrow t1 (fun b hb h => by simp [Value.ownBlock] at hb; exact (hFj b h).2.1 hb.symm)
        have hst := hput w1 Lc [u] Fj _ rr (fun p hp => rfl) hLc ⟨u, rfl, m0⟩ (fun b hb => ⟨(hFj b hb).1, Or.inl hb⟩) (t1.mono (fun b h => Or.inr (Or.inl h)))
        have HE : Hid (tVersionS.md x m = mAll tVersion x m) := Lib.hid rfl
        rw [← HE.out, HSET.out] at hst
        have HST := Lib.hid hst
        have hon2 := hon.trans (t1.mono (fun b h => (hFj b h).1.1))
        rw [HMM.out]
        clear hst hput rr m0 t1 hon hFj hLc o0 hrow
        go_wp2
        go_roundw
        case rel => exact ⟨j + 1, by omega, by go_num, by rw [HM'.out], HST.out, hon2⟩
        case measure => simp [intOf]; omega
      · obtain rfl : j = xs.length := by omega
        rw [mTo_all] at hown
        go_wp2
        go_ret
        exact ⟨rfl, slO_mono hown (fun b h => h.1), hon⟩
set_option maxHeartbeats 8000000 in
set_option maxRecDepth 100000 in
theorem heldVersionSS_S (v : Value) (xs : List (List (Int × List Int × Int × Int))) (k : Int) (w : World) (h : SlR tVersionS w v (mAll tVersionS xs k)) (hs : zL tVersionS xs ≤ 1048576) (k0 : 0 ≤ k) (k1 : k ≤ 939524096) :
    Calls Try.prog 56 #[v, .int .i64 k] w fun e w' => e = .returned (.int .i64 (k + (ndL tVersionS xs : Int))) ∧ w = w' := by
  rw [← kAt_all]
  have HS := Lib.hid hs
  have H := Lib.hid h
  have hlen := zL_len hs
  obtain ⟨a, cap, rfl⟩ := slR_len h
  rw [mAll_len] at H ⊢
  clear h hs
  go_enter Try.func56, Try.ntmps56
  go_wp2
  go_loop [1, 5] (fun m i => ∃ j : Nat, j ≤ xs.length ∧ i = .int .i64 j ∧ m = .int .i64 (kAt tVersionS xs k j)) (fun _ i => xs.length - (intOf i).toNat)
  case atStart => exact ⟨0, Nat.zero_le _, rfl, by rw [kAt_zero]⟩
  case round =>
    obtain ⟨j, hj, rfl, rfl⟩ := hrel
    by_cases hlt : j < xs.length
    · have i1 : (0 : Int) ≤ (j : Int) := by omega
      have i2 : (j : Int) < (xs.length : Int) := by omega
      obtain ⟨r1, r2⟩ := kAt_range tVersionS_law (by decide) (k := k) HS.out hj
      obtain ⟨r3, r4⟩ := kAt_range tVersionS_law (by decide) (k := k) (j := j + 1) HS.out (by omega)
      have hzx := zL_at HS.out hlt
      have hstep := kAt_step (T := tVersionS) (k := k) hlt
      obtain ⟨b, off, cap', cs, hv, hbl, hcs, hR⟩ := slR_at H.out (k := j) (by rw [mAll_len]; exact hlt)
      rw [mAll_len] at hv
      simp only [Value.slice.injEq] at hv
      obtain ⟨rfl, _, rfl⟩ := hv
      rw [mAll_at hlt] at hR
      have HM : Hid (∃ m', kAt tVersionS xs k (j + 1) = m') := Lib.hid ⟨_, rfl⟩
      obtain ⟨m', hm'⟩ := HM.out
      rw [hm'] at hstep r3 r4
      have HM' := Lib.hid hm'
      clear hm' HM H
      generalize kAt tVersionS xs k j = m at *
      generalize xs.getD j tVersionS.d = x at *
      obtain ⟨u, rfl, h0⟩ := hR
      have p0 : w.cell? ⟨b, off + j, none⟩ = some u := by have := hcs 0 Nat.one_pos; rw [show tVersionS.n = 1 from rfl, Nat.mul_one, Nat.add_zero] at this; exact this
      have S0 := Lib.hid hzx
      have A0 := Lib.hid h0
      have hmm : m + (ndL tVersion x : Int) = m' := hstep.symm
      have HMM := Lib.hid hmm
      have hnn : ¬ m' < 0 := by omega
      clear hmm hstep hcs h0 hzx
      go_wp2_with fail
      refine (heldVersionS_S u x m _ A0.out S0.out (by omega) (by omega)).mono ?_
      rintro e w2 ⟨rfl, rfl⟩
      rw [HMM.out]
      go_wp2
      go_round
      case rel => exact ⟨j + 1, by omega, by go_num, by rw [HM'.out]⟩
      case measure => simp [intOf]; omega
    · obtain rfl : j = xs.length := by omega
      go_wp2
      go_ret
      exact ⟨rfl, rfl⟩
end Go.Proofs.Ythiiaiholcfhhaa
namespace Go.Proofs.Ythiiaiholcfhhaa
open Go.RowKit
set_option linter.unusedVariables false
set_option linter.unusedSimpArgs false
def tRow : Ty (Int × List Int) := tPair tInt tIntS
theorem tRow_law : tRow.Law := tPair_law tInt_law tIntS_law
theorem tRow_R {w : World} {cs : List Value} {a0 : Int} {x1 : List Int} (h : tRow.R w cs (a0, x1)) : ∃ v1, cs = [.int .i64 a0, v1] ∧ SlR tInt w v1 x1 := by
  obtain ⟨_, _, rfl, rfl, ⟨v1, rfl, h1⟩⟩ := h
  exact ⟨_, rfl, h1⟩
theorem tRow_sz {a0 : Int} {x1 : List Int} : tRow.sz (a0, x1) = zL tInt x1 := by
  simp only [tRow, tPair_sz, tPair_nd, tPair_nv, tInt_sz, tInt_nd, tInt_nv, tSl_sz, tSl_nd, tSl_nv]
  try omega
theorem tRow_nd {a0 : Int} {x1 : List Int} : tRow.nd (a0, x1) = 1 + ndL tInt x1 := by
  simp only [tRow, tPair_sz, tPair_nd, tPair_nv, tInt_sz, tInt_nd, tInt_nv, tSl_sz, tSl_nd, tSl_nv]
  try omega
theorem tRow_md {a0 : Int} {x1 : List Int} {k : Int} : tRow.md (a0, x1) k = ((k), mAll tInt x1 (k + 1)) := by
  simp only [tRow, tPair_md, tPair_mv, tPair_nd, tPair_nv, tInt_md, tInt_mv, tInt_nd, tInt_nv, tSl_md, tSl_mv, tSl_nd, tSl_nv, Int.natCast_add, Int.natCast_zero, Int.natCast_one, Int.add_zero, Int.zero_add, Int.add_assoc]
theorem tRow_O {w : World} {F : Nat → Prop} {cs : List Value} {a0 : Int} {x1 : List Int} (h : tRow.O w F cs (a0, x1)) : ∃ v1, ∃ F1 : Nat → Prop, cs = [.int .i64 a0, v1] ∧ SlO 3 tInt w F1 v1 x1 ∧ (∀ b, F1 b → F b) := by
  obtain ⟨_, _, F0_1, F0_2, rfl, rfl, ⟨v1, rfl, h1⟩, s0_1, s0_2, d0⟩ := h
  exact ⟨v1, F0_2, rfl, h1, fun b h => (s0_2 b h)⟩
theorem tRow_mkO {w : World} {F : Nat → Prop} {a0 : Int} {x1 : List Int} {v1 : Value} {F1 : Nat → Prop} (h1 : SlO 3 tInt w F1 v1 x1) (s1 : ∀ b, F1 b → F b)  : tRow.O w F [.int .i64 a0, v1] (a0, x1) := ⟨[.int .i64 a0], [v1], fun _ => False, F1, rfl, rfl, ⟨_, rfl, h1⟩, (fun b h => (False.elim h)), (fun b h => s1 b h), (fun b h g => (False.elim h))⟩
set_option maxHeartbeats 8000000 in
set_option maxRecDepth 100000 in
theorem szRow_Y (a0 : Int) (v1 : Value) (x1 : List Int) (k0 : Int) (w : World) (h1 : SlR tInt w v1 x1) (hs : ((zL tInt x1 : Nat) : Int) ≤ k0) (hk : k0 ≤ 1048576) :
    Calls Try.prog 41 #[.agg #[.int .i64 a0, v1], .int .i64 k0] w fun e w' => e = .returned (.int .i64 (k0 - ((zL tInt x1 : Nat) : Int))) ∧ Below w.heap.size w w' := by
  have H1 := Lib.hid h1
  clear h1
  have HZ1 : Hid (((zL tInt x1 : Nat) : Int) ≤ k0) := Lib.hid (by omega)
  have HK1 : Hid (k0 ≤ 1048576) := Lib.hid (by omega)
  have hn1 : ¬ k0 - ((zL tInt x1 : Nat) : Int) < 0 := by omega
  clear hs hk
  have hb : Below w.heap.size w (w.alloc (.cells #[.int .i64 a0, v1] 24)) := (Below.refl _ w).alloc (Nat.le_refl _) _
  have g0 : (w.alloc (.cells #[.int .i64 a0, v1] 24)).heap[w.heap.size]? = some (.cells #[.int .i64 a0, v1] 24 (0, 0)) := heap_alloc_new w _
  have hz0 : w.heap.size < (w.alloc (.cells #[.int .i64 a0, v1] 24)).heap.size := by simp
  go_enter Try.func41, Try.ntmps41
  go_wp2_with fail
  generalize (w.alloc (.cells #[.int .i64 a0, v1] 24)) = W at *
  refine (szIntS_Y v1 x1 (k0) W (slR_below tInt_law H1.out hb) HZ1.out HK1.out).mono ?_
  rintro e W1 ⟨rfl, b1⟩
  replace g0 := (b1.block w.heap.size hz0).trans g0
  replace hz0 := Nat.lt_of_lt_of_le hz0 b1.size
  replace hb := hb.trans (b1.mono hb.size)
  clear b1
  go_wp2
  go_ret
  exact ⟨rfl, hb⟩
set_option maxHeartbeats 8000000 in
set_option maxRecDepth 100000 in
theorem szRow_N (a0 : Int) (v1 : Value) (x1 : List Int) (k0 : Int) (w : World) (h1 : SlR tInt w v1 x1) (hs : k0 < ((zL tInt x1 : Nat) : Int)) (hk : k0 ≤ 1048576) (hp : 0 ≤ k0) (o1 : tIntS.ok x1) :
    Calls Try.prog 41 #[.agg #[.int .i64 a0, v1], .int .i64 k0] w fun e w' => e = .returned (.int .i64 (-1)) ∧ Below w.heap.size w w' := by
  have H1 := Lib.hid h1
  clear h1
  have HO1 := Lib.hid o1
  clear o1
  have HZ1 : Hid (k0 < ((zL tInt x1 : Nat) : Int)) := Lib.hid (by omega)
  have HP1 : Hid (0 ≤ k0) := Lib.hid (by omega)
  have HK1 : Hid (k0 ≤ 1048576) := Lib.hid (by omega)
  clear hs hk
  clear hp
  have hb : Below w.heap.size w (w.alloc (.cells #[.int .i64 a0, v1] 24)) := (Below.refl _ w).alloc (Nat.le_refl _) _
  have g0 : (w.alloc (.cells #[.int .i64 a0, v1] 24)).heap[w.heap.size]? = some (.cells #[.int .i64 a0, v1] 24 (0, 0)) := heap_alloc_new w _
  have hz0 : w.heap.size < (w.alloc (.cells #[.int .i64 a0, v1] 24)).heap.size := by simp
  go_enter Try.func41, Try.ntmps41
  go_wp2_with fail
  generalize (w.alloc (.cells #[.int .i64 a0, v1] 24)) = W at *
  refine (szIntS_N v1 x1 (k0) W (slR_below tInt_law H1.out hb) HZ1.out HK1.out HP1.out HO1.out).mono ?_
  rintro e W1 ⟨rfl, b1⟩
  replace g0 := (b1.block w.heap.size hz0).trans g0
  replace hz0 := Nat.lt_of_lt_of_le hz0 b1.size
  replace hb := hb.trans (b1.mono hb.size)
  clear b1
  go_wp2
  go_ret
  exact ⟨rfl, hb⟩
set_option maxHeartbeats 8000000 in
set_option maxRecDepth 100000 in
theorem toRow_T (a0 : Int) (v1 : Value) (x1 : List Int) (w : World) (h1 : SlR tInt w v1 x1) (s1 : zL tInt x1 ≤ 1048576) :
    Calls Try.prog 44 #[.agg #[.int .i64 a0, v1]] w (FreshT tRow (fun cs => .agg cs.toArray) w (a0, x1)) := by
  have H1 := Lib.hid h1
  clear h1
  have S1 := Lib.hid s1
  clear s1
  go_enter Try.func44, Try.ntmps44
  go_wp2_with fail
  have hb : Below w.heap.size w (((w.alloc (.cells #[.int .i64 a0, v1] 24)).alloc (.cells #[.int .i64 0, .slice none 0 0] 29)).alloc (.cells #[.int .i64 a0, .slice none 0 0] 29)) := (((Below.refl _ w).alloc (Nat.le_refl _) _).alloc (by simp) _).alloc (by simp; omega) _
  have g2 : (((w.alloc (.cells #[.int .i64 a0, v1] 24)).alloc (.cells #[.int .i64 0, .slice none 0 0] 29)).alloc (.cells #[.int .i64 a0, .slice none 0 0] 29)).heap[w.heap.size + 1 + 1]? = some (.cells #[.int .i64 a0, .slice none 0 0] 29 (0, 0)) := by
    have := heap_alloc_new ((w.alloc (.cells #[.int .i64 a0, v1] 24)).alloc (.cells #[.int .i64 0, .slice none 0 0] 29)) (.cells #[.int .i64 a0, .slice none 0 0] 29)
    simpa only [World.size_alloc] using this
  have g1 : (((w.alloc (.cells #[.int .i64 a0, v1] 24)).alloc (.cells #[.int .i64 0, .slice none 0 0] 29)).alloc (.cells #[.int .i64 a0, .slice none 0 0] 29)).heap[w.heap.size + 1]? = some (.cells #[.int .i64 0, .slice none 0 0] 29 (0, 0)) := by
    have := heap_alloc_new (w.alloc (.cells #[.int .i64 a0, v1] 24)) (.cells #[.int .i64 0, .slice none 0 0] 29)
    rw [Below.heap_alloc _ _ _ (by simp)]
    simpa only [World.size_alloc] using this
  have g0 : (((w.alloc (.cells #[.int .i64 a0, v1] 24)).alloc (.cells #[.int .i64 0, .slice none 0 0] 29)).alloc (.cells #[.int .i64 a0, .slice none 0 0] 29)).heap[w.heap.size]? = some (.cells #[.int .i64 a0, v1] 24 (0, 0)) := by
    rw [Below.heap_alloc _ _ _ (by simp; omega), Below.heap_alloc _ _ _ (by simp)]
    exact heap_alloc_new w _
  have hz : w.heap.size + 2 < (((w.alloc (.cells #[.int .i64 a0, v1] 24)).alloc (.cells #[.int .i64 0, .slice none 0 0] 29)).alloc (.cells #[.int .i64 a0, .slice none 0 0] 29)).heap.size := by simp [World.size_alloc]
  generalize (((w.alloc (.cells #[.int .i64 a0, v1] 24)).alloc (.cells #[.int .i64 0, .slice none 0 0] 29)).alloc (.cells #[.int .i64 a0, .slice none 0 0] 29)) = W at *
  refine (toIntS_S v1 x1 W (slR_below tInt_law H1.out hb) S1.out).mono ?_
  rintro e w1 ⟨u1, rfl, o1, b1⟩
  obtain ⟨ua1, uc1, rfl⟩ := slO_len o1
  replace o1 := slO_mono (slO_lt tInt_law o1) (F' := fun b => W.heap.size ≤ b ∧ b < w1.heap.size) (fun b h => h)
  replace g0 := (b1.block _ (by omega)).trans g0
  replace g1 := (b1.block _ (by omega)).trans g1
  replace g2 := (b1.block _ (by omega)).trans g2
  have zz1 := b1.size
  replace hb := hb.trans (b1.mono (by omega))
  clear b1
  have c2_0 := (cell_of_row w1 _ 0 _ _ _ g2).trans (show _ = some (Value.int .i64 a0) from rfl)
  have f2_0 := frozen_of_row w1 _ 0 _ _ g2
  have c2_1 := (cell_of_row w1 _ 1 _ _ _ g2).trans (show _ = some (Value.slice none 0 0) from rfl)
  have f2_1 := frozen_of_row w1 _ 1 _ _ g2
  have ne1 : ¬ w.heap.size = w.heap.size + 1 + 1 := by omega
  have ne2 : ¬ w.heap.size + 1 = w.heap.size + 1 + 1 := by omega
  have ne3 : ¬ w.heap.size + 1 + 1 = w.heap.size + 1 := by omega
  have c1_0 := (cell_of_row w1 _ 0 _ _ _ g1).trans (show _ = some (Value.int .i64 0) from rfl)
  have f1_0 := frozen_of_row w1 _ 0 _ _ g1
  have c1_1 := (cell_of_row w1 _ 1 _ _ _ g1).trans (show _ = some (Value.slice none 0 0) from rfl)
  have f1_1 := frozen_of_row w1 _ 1 _ _ g1
  go_wp2
  clear c2_0 f2_0 c2_1 f2_1 ne1 ne2 ne3 c1_0 f1_0 c1_1 f1_1
  have hw : Turn (fun b => b = w.heap.size + 1 ∨ b = w.heap.size + 1 + 1) w1 (((w1.setCell ⟨w.heap.size + 1 + 1, 1, none⟩ (.slice ua1 x1.length uc1)).setCell ⟨w.heap.size + 1, 0, none⟩ (.int .i64 a0)).setCell ⟨w.heap.size + 1, 1, none⟩ (.slice ua1 x1.length uc1)) := by
    first | exact ((((Turn.refl _ _).trans (turn_set (g := w.heap.size + 1 + 1) (j := 1) (u := .slice ua1 x1.length uc1) (Or.inr rfl))).trans (turn_set (g := w.heap.size + 1) (j := 0) (u := .int .i64 a0) (Or.inl rfl))).trans (turn_set (g := w.heap.size + 1) (j := 1) (u := .slice ua1 x1.length uc1) (Or.inl rfl))) | skip
  have r := (heap_setCell_same _ (w.heap.size + 1) 1 _ _ (.slice ua1 x1.length uc1) (heap_setCell_same _ (w.heap.size + 1) 0 _ _ (.int .i64 a0) ((heap_setCell_other _ ⟨w.heap.size + 1 + 1, 1, none⟩ (w.heap.size + 1) (.slice ua1 x1.length uc1) (by simp)).trans g1)))
  have e0 := cell_of_row _ _ 0 _ _ _ r
  have e1 := cell_of_row _ _ 1 _ _ _ r
  simp at e0 e1
  replace o1 := slO_turn tInt_law o1 hw (fun b h1 h2 => by have := h1.1; omega)
  replace hb := below_turn hb hw (fun b h => by omega) (by omega)
  refine bodyPost_ret (v := .agg #[.int .i64 a0, .slice ua1 x1.length uc1]) ?_ rfl ?_
  · simp [results, Try.f44, go_sem, e0, e1]
  · exact ⟨[.int .i64 a0, .slice ua1 x1.length uc1], rfl, tRow_mkO o1 (fun b h => by show w.heap.size ≤ b; have := h.1; omega) , hb⟩
set_option maxHeartbeats 8000000 in
set_option maxRecDepth 100000 in
theorem eqRow_T (a0 : Int) (v1 : Value) (x1 : List Int) (u1 : Value) (w : World) (h1 : SlR tInt w v1 x1) (g1 : SlR tInt w u1 x1) (s1 : zL tInt x1 ≤ 1048576) :
    Calls Try.prog 46 #[.agg #[.int .i64 a0, v1], .agg #[.int .i64 a0, u1]] w fun e w' => e = .returned (.bool true) ∧ Below w.heap.size w w' := by
  have H1 := Lib.hid h1; have G1 := Lib.hid g1; have S1 := Lib.hid s1
  clear h1 g1 s1
  have e0 : (a0 != a0) = false := by simp
  go_enter Try.func46, Try.ntmps46
  go_wp2_with fail
  have hb : Below w.heap.size w ((w.alloc (.cells #[.int .i64 a0, v1] 29)).alloc (.cells #[.int .i64 a0, u1] 29)) := ((Below.refl _ w).alloc (Nat.le_refl _) _).alloc (by simp) _
  have g1 : ((w.alloc (.cells #[.int .i64 a0, v1] 29)).alloc (.cells #[.int .i64 a0, u1] 29)).heap[w.heap.size + 1]? = some (.cells #[.int .i64 a0, u1] 29 (0, 0)) := by
    have := heap_alloc_new (w.alloc (.cells #[.int .i64 a0, v1] 29)) (.cells #[.int .i64 a0, u1] 29)
    simpa only [World.size_alloc] using this
  have g0 : ((w.alloc (.cells #[.int .i64 a0, v1] 29)).alloc (.cells #[.int .i64 a0, u1] 29)).heap[w.heap.size]? = some (.cells #[.int .i64 a0, v1] 29 (0, 0)) := by
    rw [Below.heap_alloc _ _ _ (by simp)]
    exact heap_alloc_new w _
  have hz : w.heap.size + 1 < ((w.alloc (.cells #[.int .i64 a0, v1] 29)).alloc (.cells #[.int .i64 a0, u1] 29)).heap.size := by simp [World.size_alloc]
  generalize ((w.alloc (.cells #[.int .i64 a0, v1] 29)).alloc (.cells #[.int .i64 a0, u1] 29)) = W at *
  refine (eqIntS_S v1 u1 x1 W (slR_below tInt_law H1.out hb) (slR_below tInt_law G1.out hb) S1.out).mono ?_
  rintro e w1 ⟨rfl, b1⟩
  replace g0 := (b1.block _ (by omega)).trans g0
  replace g1 := (b1.block _ (by omega)).trans g1
  have zz0 := b1.size
  replace hb := hb.trans (b1.mono (by omega))
  clear b1
  go_wp2
  go_ret
  exact ⟨rfl, hb⟩
end Go.Proofs.Ythiiaiholcfhhaa
namespace Go.Proofs.Ythiiaiholcfhhaa
open Go.RowKit
set_option linter.unusedVariables false
set_option linter.unusedSimpArgs false
abbrev tRowS : Ty (List (Int × List Int)) := tSl 29 tRow
set_option maxHeartbeats 8000000 in
set_option maxRecDepth 100000 in
theorem szRowS_Y (v : Value) (xs : List (Int × List Int)) (k0 : Int) (w : World) (h : SlR tRow w v xs) (hs : ((zL tRow xs : Nat) : Int) ≤ k0) (hk : k0 ≤ 1048576) :
    Calls Try.prog 33 #[v, .int .i64 k0] w fun e w' => e = .returned (.int .i64 (k0 - ((zL tRow xs : Nat) : Int))) ∧ Below w.heap.size w w' := by
  have H := Lib.hid h
  obtain ⟨a, cap, rfl⟩ := slR_len h
  clear h
  have h00 := zTo_le (T := tRow) (xs := xs) (Nat.zero_le _)
  rw [zTo_zero] at h00
  have HS := Lib.hid hs
  go_enter Try.func33, Try.ntmps33
  have hneg : ¬ k0 - (xs.length : Int) < 0 := by omega
  go_wp2
  clear hneg
  go_loopw [1, 5] (fun l i wr => ∃ k : Nat, k ≤ xs.length ∧ i = .int .i64 k ∧ l = .int .i64 (k0 - (zTo tRow xs k : Int)) ∧ Below w.heap.size w wr) (fun _ i _ => xs.length - (intOf i).toNat)
  case atStart => exact ⟨0, Nat.zero_le _, rfl, by rw [zTo_zero], Below.refl _ _⟩
  case round =>
    obtain ⟨k, hk', rfl, rfl, hbel⟩ := hrel
    by_cases hlt : k < xs.length
    · have HST := Lib.hid (zTo_step (T := tRow) hlt)
      have HLE := Lib.hid (zTo_le (T := tRow) (xs := xs) (k := k + 1) (by omega))
      have i1 : (0 : Int) ≤ (k : Int) := by omega
      have i2 : (k : Int) < (xs.length : Int) := by omega
      obtain ⟨b, off, cap', cs, hv, hbl, hcs, hR⟩ := slR_at (slR_below tRow_law H.out hbel) hlt
      simp only [Value.slice.injEq] at hv
      obtain ⟨rfl, _, rfl⟩ := hv
      generalize xs.getD k tRow.d = x at *
      obtain ⟨a0, x1⟩ := x
      obtain ⟨v1, hR'⟩ := tRow_R hR
      obtain ⟨rfl, h1⟩ := hR'
      have p0 : wr.cell? ⟨b, off + k * 2, none⟩ = some (Value.int .i64 a0) := hcs 0 (by decide)
      have p1 : wr.cell? ⟨b, off + k * 2 + 1, none⟩ = some (v1) := hcs 1 (by decide)
      clear hcs
      have HQ : Hid (tRow.sz (a0, x1) = zL tInt x1) := Lib.hid tRow_sz
      have hx1 : ((zL tInt x1 : Nat) : Int) ≤ k0 - (zTo tRow xs k : Int) := by have := HST.out; have := HLE.out; have := HQ.out; omega
      have hx2 : k0 - (zTo tRow xs k : Int) ≤ 1048576 := by omega
      have hneg : ¬ k0 - (zTo tRow xs k : Int) - ((zL tInt x1 : Nat) : Int) < 0 := by omega
      have HC := Lib.hid (fun W b => szRow_Y a0 v1 x1 (k0 - (zTo tRow xs k : Int)) W (slR_below tInt_law h1 b) hx1 hx2)
      go_wp2_with fail
      refine (HC.out _ (Below.refl _ _)).mono ?_
      rintro e w1 ⟨rfl, b1⟩
      have b2 := hbel.trans (b1.mono hbel.size)
      go_wp2
      go_roundw
      case rel => exact ⟨k + 1, by omega, by go_num, by rw [HST.out, HQ.out]; go_num, b2⟩
      case measure => simp [intOf]; omega
    · obtain rfl : k = xs.length := by omega
      go_wp2
      go_ret
      exact ⟨rfl, hbel⟩
set_option maxHeartbeats 8000000 in
set_option maxRecDepth 100000 in
theorem szRowS_N (v : Value) (xs : List (Int × List Int)) (k0 : Int) (w : World) (h : SlR tRow w v xs) (hs : k0 < ((zL tRow xs : Nat) : Int)) (hk : k0 ≤ 1048576) (hp : 0 ≤ k0) (ho : tRowS.ok xs) :
    Calls Try.prog 33 #[v, .int .i64 k0] w fun e w' => e = .returned (.int .i64 (-1)) ∧ Below w.heap.size w w' := by
  have H := Lib.hid h
  have HX := Lib.hid ho.2
  have hn := ho.1
  have HS := Lib.hid hs
  obtain ⟨a, cap, rfl⟩ := slR_len h
  clear h ho hs
  by_cases h1 : k0 < (xs.length : Int)
  · have hneg : k0 - (xs.length : Int) < 0 := by omega
    go_enter Try.func33, Try.ntmps33
    go_wp2
    go_ret
    exact ⟨rfl, Below.refl _ _⟩
  · go_enter Try.func33, Try.ntmps33
    have hneg : ¬ k0 - (xs.length : Int) < 0 := by omega
    go_wp2
    clear hneg
    go_loopw [1, 5] (fun l i wr => ∃ k : Nat, k ≤ xs.length ∧ i = .int .i64 k ∧ l = .int .i64 (k0 - (zTo tRow xs k : Int)) ∧ (zTo tRow xs k : Int) ≤ k0 ∧ Below w.heap.size w wr) (fun _ i _ => xs.length - (intOf i).toNat)
    case atStart => exact ⟨0, Nat.zero_le _, rfl, by rw [zTo_zero], by rw [zTo_zero]; omega, Below.refl _ _⟩
    case round =>
      obtain ⟨k, hk', rfl, rfl, hle, hbel⟩ := hrel
      by_cases hlt : k < xs.length
      · have HST := Lib.hid (zTo_step (T := tRow) hlt)
        have hx := HX.out k hlt
        have i1 : (0 : Int) ≤ (k : Int) := by omega
        have i2 : (k : Int) < (xs.length : Int) := by omega
        obtain ⟨b, off, cap', cs, hv, hbl, hcs, hR⟩ := slR_at (slR_below tRow_law H.out hbel) hlt
        simp only [Value.slice.injEq] at hv
        obtain ⟨rfl, _, rfl⟩ := hv
        generalize xs.getD k tRow.d = x at *
        obtain ⟨a0, x1⟩ := x
        obtain ⟨v1, hR'⟩ := tRow_R hR
        obtain ⟨rfl, h1⟩ := hR'
        have p0 : wr.cell? ⟨b, off + k * 2, none⟩ = some (Value.int .i64 a0) := hcs 0 (by decide)
        have p1 : wr.cell? ⟨b, off + k * 2 + 1, none⟩ = some (v1) := hcs 1 (by decide)
        clear hcs
        have HQ : Hid (tRow.sz (a0, x1) = zL tInt x1) := Lib.hid tRow_sz
        obtain ⟨_, o1⟩ := hx
        have hz0 : (0 : Int) ≤ (zTo tRow xs k : Int) := by omega
        by_cases hg : ((zL tInt x1 : Nat) : Int) ≤ k0 - (zTo tRow xs k : Int)
        · have hx2 : k0 - (zTo tRow xs k : Int) ≤ 1048576 := by omega
          have hneg : ¬ k0 - (zTo tRow xs k : Int) - ((zL tInt x1 : Nat) : Int) < 0 := by omega
          have HC := Lib.hid (fun W b => szRow_Y a0 v1 x1 (k0 - (zTo tRow xs k : Int)) W (slR_below tInt_law h1 b) hg hx2)
          go_wp2_with fail
          refine (HC.out _ (Below.refl _ _)).mono ?_
          rintro e w1 ⟨rfl, b1⟩
          have b2 := hbel.trans (b1.mono hbel.size)
          go_wp2
          go_roundw
          case rel => exact ⟨k + 1, by omega, by go_num, by rw [HST.out, HQ.out]; go_num, by rw [HST.out, HQ.out]; omega, b2⟩
          case measure => simp [intOf]; omega
        · have hx1 : k0 - (zTo tRow xs k : Int) < ((zL tInt x1 : Nat) : Int) := by omega
          have hx0 : 0 ≤ k0 - (zTo tRow xs k : Int) := by omega
          have hx2 : k0 - (zTo tRow xs k : Int) ≤ 1048576 := by omega
          have HC := Lib.hid (fun W b => szRow_N a0 v1 x1 (k0 - (zTo tRow xs k : Int)) W (slR_below tInt_law h1 b) hx1 hx2 hx0 o1)
          clear hg
          go_wp2_with fail
          refine (HC.out _ (Below.refl _ _)).mono ?_
          rintro e w1 ⟨rfl, b1⟩
          have b2 := hbel.trans (b1.mono hbel.size)
          go_wp2
          go_ret
          exact ⟨rfl, b2⟩
      · obtain rfl : k = xs.length := by omega
        exact absurd HS.out (by show ¬ k0 < ((zTo tRow xs xs.length : Nat) : Int); omega)
theorem Try.info_Row : (Try.prog.info? 29).map (fun i => (i.zero, i.size)) = some (some (.agg #[.int .i64 0, .slice none 0 0]), 2) := by kernel_rfl
theorem Try.bytes_Row : ((Try.prog.info? 29).map (fun i => decide (i.bytes ≤ 512))) = some true := by kernel_rfl
theorem tRow_zero (w : World) : tRow.O w (fun _ => False) #[.int .i64 0, .slice none 0 0].toList tRow.d := tRow_mkO (slO_nil _ _ _ (fun _ => False)) (fun b h => h) 
set_option maxHeartbeats 8000000 in
set_option maxRecDepth 100000 in
theorem toRowS_S (v : Value) (xs : List (Int × List Int)) (w : World) (h : SlR tRow w v xs) (hs : zL tRow xs ≤ 1048576) :
    Calls Try.prog 35 #[v] w (FreshS 29 tRow w xs) := by
  obtain ⟨i0, hi, hz0, hz1⟩ : ∃ i0, Try.prog.info? 29 = some i0 ∧ i0.zero = some (.agg #[.int .i64 0, .slice none 0 0]) ∧ i0.size = 2 := by
    have h0 := Try.info_Row
    cases q : Try.prog.info? 29 with
    | none => rw [q] at h0; simp at h0
    | some i => rw [q] at h0; simp only [Option.map_some, Option.some.injEq, Prod.mk.injEq] at h0; exact ⟨i, rfl, h0.1, h0.2⟩
  have hz2 : i0.bytes ≤ 512 := by
    have h0 := Try.bytes_Row
    rw [hi] at h0
    simpa using h0
  have HI := Lib.hid hi; have HZ0 := Lib.hid hz0; have HZ1 := Lib.hid hz1; have HZ2 := Lib.hid hz2
  clear hi hz0 hz1 hz2
  have H := Lib.hid h
  have hlen := zL_len hs
  have HS := Lib.hid hs
  obtain ⟨a, cap, rfl⟩ := slR_len h
  clear h hs
  go_enter Try.func35, Try.ntmps35
  go_wp2_with (at_make; refine wpList_make_full _ rfl (.tmp 6) (.tmp 6) 66 rfl w.heap.size 29 i0 (.agg #[.int .i64 0, .slice none 0 0]) 2 Try.underlying66 HI.out HZ0.out HZ1.out _ _ _ _ xs.length rfl rfl rfl rfl (by have h9 := Nat.mul_le_mul HZ2.out hlen; have h8 := Nat.mul_le_mul hlen HZ2.out; omega) (by unfold maxLen; omega) (Nat.le_refl _) ?_)
  intro w1 hown0 hg0
  have hown1 : SlO 29 tRow w1 (since w) (.slice (some ⟨w.heap.size, 0, none⟩) xs.length xs.length) (List.replicate xs.length tRow.d) := slO_made (z := #[.int .i64 0, .slice none 0 0]) tRow_law rfl (tRow_zero w1) (Nat.le_refl _) hown0
  have hbel1 := (Below.refl w.heap.size w).grown hg0 (Nat.le_refl _) (fun k hk => by cases hk)
  clear hown0 hg0
  go_wp2
  go_loopw [4] (fun i wr => ∃ k : Nat, k ≤ xs.length ∧ i = .int .i64 k ∧ SlO 29 tRow wr (since w) (.slice (some ⟨w.heap.size, 0, none⟩) xs.length xs.length) (xs.take k ++ List.replicate (xs.length - k) tRow.d) ∧ Below w.heap.size w wr) (fun i _ => xs.length - (intOf i).toNat)
  case atStart => exact ⟨0, Nat.zero_le _, rfl, by simpa using hown1, hbel1⟩
  case round =>
    obtain ⟨k, hk, rfl, hown, hbel⟩ := hrel
    by_cases hlt : k < xs.length
    · have HSET := Lib.hid (cTo_step (d := tRow.d) hlt)
      have HKL : Hid (k < (xs.take k ++ List.replicate (xs.length - k) tRow.d).length) := Lib.hid (by rw [cTo_len hk]; exact hlt)
      have HLL := Lib.hid (cTo_len (d := tRow.d) hk)
      have i1 : (0 : Int) ≤ (k : Int) := by omega
      have i2 : (k : Int) < (xs.length : Int) := by omega
      have hzx := zL_at HS.out hlt
      obtain ⟨b, off, cap', cs, hv, hbl, hcs, hR⟩ := slR_at (slR_below tRow_law H.out hbel) hlt
      simp only [Value.slice.injEq] at hv
      obtain ⟨rfl, _, rfl⟩ := hv
      obtain ⟨hme, hFg, hgl, cj, Fj, Lc, hrow, hLc, hO, hFj, hput⟩ := slO_open tRow_law hown HKL.out
      clear hme
      clear hown1 hbel1
      generalize xs.getD k tRow.d = x at *
      generalize xs.take k ++ List.replicate (xs.length - k) tRow.d = ys at *
      obtain ⟨a0, x1⟩ := x
      obtain ⟨v1, hR'⟩ := tRow_R hR
      obtain ⟨rfl, h1⟩ := hR'
      have p0 : wr.cell? ⟨b, off + k * 2, none⟩ = some (Value.int .i64 a0) := hcs 0 (by decide)
      have p1 : wr.cell? ⟨b, off + k * 2 + 1, none⟩ = some (v1) := hcs 1 (by decide)
      rw [tRow_sz] at hzx
      have S1 := Lib.hid (show zL tInt x1 ≤ 1048576 by omega)
      have HC := Lib.hid (fun w g1 => toRow_T a0 v1 x1 w g1 S1.out)
      have G1 := Lib.hid h1
      clear hcs hzx h1
      go_wp2_with fail
      refine (HC.out _ G1.out).mono ?_
      rintro e w2 ⟨cv, rfl, ow, b2⟩
      replace ow := tRow_law.lt ow
      have ow2 := ow
      obtain ⟨u1, K1, rfl, o1, _⟩ := tRow_O ow2
      obtain ⟨ua1, uc1, rfl⟩ := slO_len o1
      clear o1
      have r0 := row_turn (G := fun _ => False) hrow (turn_below b2) (fun _ _ => not_false)
      rw [HLL.out] at r0
      have q0 : ∃ x, w2.cell? ⟨w.heap.size, k * 2, none⟩ = some x := ⟨_, (World.ownsRow.cellAt r0 (k * 2) (by have := HKL.out; rw [HLL.out] at this; show _ < xs.length * 2; omega)).trans (List.getElem?_eq_getElem (by have h1 : Lc.length = xs.length * 2 := r0.1; omega))⟩
      obtain ⟨y0, q0⟩ := q0
      have f0 := World.ownsRow.frozenAt r0 (k * 2)
      have q1 : ∃ x, w2.cell? ⟨w.heap.size, k * 2 + 1, none⟩ = some x := ⟨_, (World.ownsRow.cellAt r0 (k * 2 + 1) (by have := HKL.out; rw [HLL.out] at this; show _ < xs.length * 2; omega)).trans (List.getElem?_eq_getElem (by have h1 : Lc.length = xs.length * 2 := r0.1; omega))⟩
      obtain ⟨y1, q1⟩ := q1
      have f1 := World.ownsRow.frozenAt r0 (k * 2 + 1)
      have b3 := hbel.trans (b2.mono hbel.size)
      have B3 := Lib.hid ((b3.setCell (p := ⟨w.heap.size, k * 2, none⟩) (Nat.le_refl _) (.int .i64 a0)).setCell (p := ⟨w.heap.size, k * 2 + 1, none⟩) (Nat.le_refl _) (.slice ua1 x1.length uc1))
      have hT : Turn (fun b => b = w.heap.size ∨ Fj b ∨ wr.heap.size ≤ b) wr ((w2.setCell ⟨w.heap.size, k * 2, none⟩ (.int .i64 a0)).setCell ⟨w.heap.size, k * 2 + 1, none⟩ (.slice ua1 x1.length uc1)) := (((turn_below b2).trans (turn_set (j := k * 2) (u := .int .i64 a0) (Or.inl rfl))).trans (turn_set (j := k * 2 + 1) (u := .slice ua1 x1.length uc1) (Or.inl rfl)))
      have hT2 : Turn (fun b => b = w.heap.size) w2 ((w2.setCell ⟨w.heap.size, k * 2, none⟩ (.int .i64 a0)).setCell ⟨w.heap.size, k * 2 + 1, none⟩ (.slice ua1 x1.length uc1)) := (((Turn.refl (fun b => b = w.heap.size) _).trans (turn_set (G := fun b => b = w.heap.size) (j := k * 2) (u := .int .i64 a0) rfl)).trans (turn_set (G := fun b => b = w.heap.size) (j := k * 2 + 1) (u := .slice ua1 x1.length uc1) rfl))
      have hO2 := tRow_law.turn ow hT2 (fun b h1 h2 => by have := h1.1; simp only [since] at this; omega)
      have r9 := (World.ownsRow.stored (World.ownsRow.stored r0 (k * 2) (.int .i64 a0)).1 (k * 2 + 1) (.slice ua1 x1.length uc1)).1
      have hLl : Lc.length = xs.length * 2 := r0.1
      have hst := Lib.hid (hput ((w2.setCell ⟨w.heap.size, k * 2, none⟩ (.int .i64 a0)).setCell ⟨w.heap.size, k * 2 + 1, none⟩ (.slice ua1 x1.length uc1)) ((Lc.set (k * 2) (.int .i64 a0)).set (k * 2 + 1) (.slice ua1 x1.length uc1)) [.int .i64 a0, .slice ua1 x1.length uc1] _ (a0, x1) (by rw [HLL.out]; exact r9) (fun p hp => by have hp2 : p < k * 2 ∨ k * 2 + 2 ≤ p := hp; rw [List.getElem?_set_ne (by omega)]; rw [List.getElem?_set_ne (by omega)]) (fun i hi => by have hi' : i < 2 := hi; match i, hi' with | 0, _ => (show (((Lc.set (k * 2) (.int .i64 a0)).set (k * 2 + 1) (.slice ua1 x1.length uc1)))[k * 2]? = _; rw [List.getElem?_set_ne (by omega)]; rw [List.getElem?_set_self (by first | omega | (simp only [List.length_set]; omega))]; rfl) | 1, _ => (show (((Lc.set (k * 2) (.int .i64 a0)).set (k * 2 + 1) (.slice ua1 x1.length uc1)))[k * 2 + 1]? = _; rw [List.getElem?_set_self (by first | omega | (simp only [List.length_set]; omega))]; rfl)) hO2 (fun b hb => ⟨Nat.le_trans hbel.size hb.1, Or.inr hb.1⟩) hT)
      have hst2 : SlO 29 tRow ((w2.setCell ⟨w.heap.size, k * 2, none⟩ (.int .i64 a0)).setCell ⟨w.heap.size, k * 2 + 1, none⟩ (.slice ua1 x1.length uc1)) (since w) (.slice (some ⟨w.heap.size, 0, none⟩) xs.length xs.length) (xs.take (k + 1) ++ List.replicate (xs.length - (k + 1)) tRow.d) := by have := hst.out; rw [HSET.out] at this; exact this
      have HST := Lib.hid hst2
      clear hst hst2 hT hT2 hO2 r9 r0 hrow hO hput hown hbel b2 ow b3 hLl hLc hFj
      go_wp2
      go_roundw
      case rel => exact ⟨k + 1, by omega, by go_num, HST.out, B3.out⟩
      case measure => simp [intOf]; omega
    · obtain rfl : k = xs.length := by omega
      have HE : Hid (xs.take xs.length ++ List.replicate (xs.length - xs.length) tRow.d = xs) := Lib.hid (by simp)
      rw [HE.out] at hown
      go_wp2
      go_ret
      exact ⟨_, rfl, hown, hbel⟩
set_option maxHeartbeats 8000000 in
set_option maxRecDepth 100000 in
theorem eqRowS_S (v u : Value) (xs : List (Int × List Int)) (w : World) (h : SlR tRow w v xs) (g : SlR tRow w u xs) (hs : zL tRow xs ≤ 1048576) :
    Calls Try.prog 37 #[v, u] w fun e w' => e = .returned (.bool true) ∧ Below w.heap.size w w' := by
  have H := Lib.hid h
  have G := Lib.hid g
  have HS := Lib.hid hs
  have hlen := zL_len hs
  obtain ⟨a, cap, rfl⟩ := slR_len h
  obtain ⟨a2, cap2, rfl⟩ := slR_len g
  clear h g hs
  go_enter Try.func37, Try.ntmps37
  go_wp2
  go_loopw [5] (fun i wr => ∃ k : Nat, k ≤ xs.length ∧ i = .int .i64 k ∧ Below w.heap.size w wr) (fun i _ => xs.length - (intOf i).toNat)
  case atStart => exact ⟨0, Nat.zero_le _, rfl, Below.refl _ _⟩
  case round =>
    obtain ⟨k, hk, rfl, hbel⟩ := hrel
    by_cases hlt : k < xs.length
    · obtain ⟨b, off, cap', cs, hv, hbl, hcs, hR⟩ := slR_at (slR_below tRow_law H.out hbel) hlt
      simp only [Value.slice.injEq] at hv
      obtain ⟨rfl, _, rfl⟩ := hv
      obtain ⟨b2, off2, cap2', ds, hv2, hbl2, hds, hQ⟩ := slR_at (slR_below tRow_law G.out hbel) hlt
      simp only [Value.slice.injEq] at hv2
      obtain ⟨rfl, _, rfl⟩ := hv2
      have hzx := zL_at HS.out hlt
      have i1 : (0 : Int) ≤ (k : Int) := by omega
      have i2 : (k : Int) < (xs.length : Int) := by omega
      generalize xs.getD k tRow.d = x at *
      obtain ⟨a0, x1⟩ := x
      obtain ⟨v1, hR'⟩ := tRow_R hR
      obtain ⟨rfl, h1⟩ := hR'
      obtain ⟨u1, hQ'⟩ := tRow_R hQ
      obtain ⟨rfl, g1⟩ := hQ'
      rw [tRow_sz] at hzx
      have S1 := Lib.hid (show zL tInt x1 ≤ 1048576 by omega)
      have p0 : wr.cell? ⟨b, off + k * 2, none⟩ = some (Value.int .i64 a0) := hcs 0 (by decide)
      have q0 : wr.cell? ⟨b2, off2 + k * 2, none⟩ = some (Value.int .i64 a0) := hds 0 (by decide)
      have p1 : wr.cell? ⟨b, off + k * 2 + 1, none⟩ = some (v1) := hcs 1 (by decide)
      have q1 : wr.cell? ⟨b2, off2 + k * 2 + 1, none⟩ = some (u1) := hds 1 (by decide)
      clear hcs hds hzx
      go_wp2
      go_region_with (first | (go_at_call 46; refine (eqRow_T a0 v1 x1 u1 _ (by exact slR_same tInt_law h1 rfl rfl rfl rfl) (by exact slR_same tInt_law g1 rfl rfl rfl rfl) S1.out).mono ?_; rintro e w8 ⟨rfl, b9⟩; have b10 : Below wr.heap.size wr w8 := ⟨b9.os, b9.tape, b9.output, b9.size, b9.block⟩))
      all_goals
        have b11 := hbel.trans (b10.mono hbel.size)
        go_wp2
        go_roundw
        case rel => exact ⟨k + 1, by omega, by go_num, b11⟩
        case measure => simp [intOf]; omega
    · go_wp2
      go_ret
      exact ⟨rfl, hbel⟩
set_option maxHeartbeats 8000000 in
set_option maxRecDepth 100000 in
theorem markRowS_S (v : Value) (xs : List (Int × List Int)) (F : Nat → Prop) (k : Int) (w : World) (h : SlO 29 tRow w F v xs) (hs : zL tRow xs ≤ 1048576) (k0 : 0 ≤ k) (k1 : k ≤ 1006632960) :
    Calls Try.prog 38 #[v, .int .i64 k] w fun e w' => e = .returned (.int .i64 (k + (ndL tRow xs : Int))) ∧ SlO 29 tRow w' F v (mAll tRow xs k) ∧ Turn F w w' := by
  rw [← kAt_all]
  have HS := Lib.hid hs
  have hlen := zL_len hs
  rcases slO_form h with ⟨rfl, rfl⟩ | ⟨g, cap, rfl, hFg, hgw⟩
  · have H := Lib.hid h
    clear h hs
    go_enter Try.func38, Try.ntmps38
    go_wp2
    go_loop [1, 5] (fun m i => i = .int .i64 0 ∧ m = .int .i64 k) (fun _ _ => 0)
    case atStart => exact ⟨rfl, rfl⟩
    case round =>
      obtain ⟨rfl, rfl⟩ := hrel
      go_wp2
      go_ret
      exact ⟨by simp [kAt, sumN], by rw [show mAll tRow [] k = [] from rfl]; exact H.out, Turn.refl _ _⟩
  · have H := Lib.hid h
    clear h hs
    go_enter Try.func38, Try.ntmps38
    go_wp2
    go_loopw [1, 5] (fun m i wr => ∃ j : Nat, j ≤ xs.length ∧ i = .int .i64 j ∧ m = .int .i64 (kAt tRow xs k j) ∧ SlO 29 tRow wr (fun b => F b ∧ b < w.heap.size) (.slice (some ⟨g, 0, none⟩) xs.length cap) (mTo tRow xs k j) ∧ Turn F w wr) (fun _ i _ => xs.length - (intOf i).toNat)
    case atStart => exact ⟨0, Nat.zero_le _, rfl, by rw [kAt_zero], by rw [mTo_zero]; exact slO_lt tRow_law H.out, Turn.refl _ _⟩
    case round =>
      obtain ⟨j, hj, rfl, rfl, hown, hon⟩ := hrel
      by_cases hlt : j < xs.length
      · have i1 : (0 : Int) ≤ (j : Int) := by omega
        have i2 : (j : Int) < (xs.length : Int) := by omega
        have hjl : j < (mTo tRow xs k j).length := by rw [mTo_len hj]; exact hlt
        have HLL := Lib.hid (mTo_len (T := tRow) (k := k) hj)
        obtain ⟨r1, r2⟩ := kAt_range tRow_law (by decide) (k := k) HS.out hj
        obtain ⟨r3, r4⟩ := kAt_range tRow_law (by decide) (k := k) (j := j + 1) HS.out (by omega)
        have hzx := zL_at HS.out hlt
        have hstep := kAt_step (T := tRow) (k := k) hlt
        have hset := mTo_step (T := tRow) (k := k) hlt
        have hsz := hon.size
        obtain ⟨hme, hFg2, hgl, cj, Fj, Lc, hrow, hLc, hO, hFj, hput⟩ := slO_open tRow_law hown hjl
        clear hme hFg2
        rw [mTo_at hlt] at hO
        have HM : Hid (∃ m', kAt tRow xs k (j + 1) = m') := Lib.hid ⟨_, rfl⟩
        obtain ⟨m', hm'⟩ := HM.out
        rw [hm'] at hstep r3 r4
        have HM' := Lib.hid hm'
        clear hm' HM H hown hjl
        generalize kAt tRow xs k j = m at *
        generalize xs.getD j tRow.d = x at *
        rw [HLL.out] at hrow hput
        obtain ⟨a0, x1⟩ := x
        rw [tRow_md] at hset
        rw [tRow_nd] at hstep
        rw [tRow_sz] at hzx
        obtain ⟨v1, K1, rfl, o1, q1⟩ := tRow_O hO
        have S1 := Lib.hid (show zL tInt x1 ≤ 1048576 by omega)
        have N1 := ndL_le tInt_law (by decide) x1
        have R1 : Hid (0 ≤ m + 1 ∧ m + 1 ≤ 1073741824) := Lib.hid (by omega)
        have hmm : m + 1 + (ndL tInt x1 : Int) = m' := by omega
        have HMM := Lib.hid hmm
        have hm0 : 0 ≤ m := by omega
        have hm1 : m ≤ 1073741824 := by omega
        clear hmm hstep hzx N1
        have hLl : Lc.length = xs.length * 2 := hrow.1
        have HSET := Lib.hid hset
        clear hset
        have tt : Turn (fun b => b = g ∨ Fj b ∨ wr.heap.size ≤ b) wr wr := Turn.refl _ _
        have rr := hrow
        have c0 : ∃ x, wr.cell? ⟨g, j * 2, none⟩ = some x := ⟨_, (World.ownsRow.cellAt rr (j * 2) (by show j * 2 < xs.length * 2; omega)).trans (List.getElem?_eq_getElem (by have h9 := rr.1; have h8 : xs.length * tRow.n = xs.length * 2 := rfl; omega))⟩
        obtain ⟨y0, c0⟩ := c0
        have f0 := World.ownsRow.frozenAt rr (j * 2)
        have cv1 : wr.cell? ⟨g, j * 2 + 1, none⟩ = some v1 := (World.ownsRow.cellAt rr (j * 2 + 1) (by show j * 2 + 1 < xs.length * 2; omega)).trans (by exact hLc 1 (by decide))
        go_wp2_with fail
        clear c0 f0 cv1
        have ts : Turn (fun b => b = g) wr (wr.setCell ⟨g, j * 2, none⟩ (.int .i64 (m))) := ((Turn.refl (fun b => b = g) _).trans (turn_set (G := fun b => b = g) (g := g) (j := j * 2) (u := .int .i64 (m)) rfl))
        replace rr := (World.ownsRow.stored rr (j * 2) (.int .i64 (m))).1
        replace o1 := slO_turn tInt_law o1 ts (fun b h1 h2 => (hFj b (q1 b h1)).2.1 h2)
        replace tt := tt.trans (ts.mono (fun b h => Or.inl h))
        clear ts
        generalize (wr.setCell ⟨g, j * 2, none⟩ (.int .i64 (m))) = W0 at *
        refine (markIntS_S v1 x1 _ (m + 1) W0 o1 S1.out R1.out.1 (by have := R1.out.2; omega)).mono ?_
        rintro e w1 ⟨rfl, m1, t1⟩
        replace rr := row_turn rr t1 (fun b hb h => by simp [Value.ownBlock] at hb; exact (hFj b (q1 b h)).2.1 hb.symm)
        replace o1 := m1
        replace tt := tt.trans (t1.mono (fun b h => Or.inr (Or.inl (q1 b h))))
        clear t1
        have hO2 := tRow_mkO (F := Fj) (a0 := m) o1 q1 
        have hst := hput w1 (Lc.set (j * 2) (.int .i64 (m))) [.int .i64 (m), v1] Fj _ rr (fun p hp => by have hp2 : p < j * 2 ∨ j * 2 + 2 ≤ p := hp; rw [List.getElem?_set_ne (by omega)]) (fun i hi => by have hi' : i < 2 := hi; match i, hi' with | 0, _ => (show ((Lc.set (j * 2) (.int .i64 (m))))[j * 2]? = _; rw [List.getElem?_set_self (by first | omega | (simp only [List.length_set]; omega))]; rfl) | 1, _ => (show ((Lc.set (j * 2) (.int .i64 (m))))[j * 2 + 1]? = _; rw [List.getElem?_set_ne (by omega)]; exact hLc 1 (by decide))) hO2 (fun b hb => ⟨(hFj b hb).1, Or.inl hb⟩) tt
        rw [HSET.out] at hst
        have HST := Lib.hid hst
        have hon2 := hon.trans (Turn.mono (G := fun b => F b ∧ b < w.heap.size) (G' := F) ⟨tt.os, tt.tape, tt.output, tt.size, fun b hb hn => tt.block b hb (fun h => hn (h.elim (fun h => by rw [h]; exact ⟨hFg, hgw⟩) (fun h => h.elim (fun h => (hFj b h).1) (fun h => absurd hb (Nat.not_lt.2 h)))))⟩ (fun b h => h.1))
        clear hst hput tt rr hO2 hon hFj hLc hLl o1
        rw [HMM.out]
        go_wp2
        go_roundw
        case rel => exact ⟨j + 1, by omega, by go_num, by rw [HM'.out], HST.out, hon2⟩
        case measure => simp [intOf]; omega
      · obtain rfl : j = xs.length := by omega
        rw [mTo_all] at hown
        go_wp2
        go_ret
        exact ⟨rfl, slO_mono hown (fun b h => h.1), hon⟩
end Go.Proofs.Ythiiaiholcfhhaa
namespace Go.Proofs.Ythiiaiholcfhhaa
open Go.RowKit
set_option linter.unusedVariables false
set_option linter.unusedSimpArgs false
/-- What the table of types says of the element. -/
def ElemInfo {α : Type} (T : Ty α) (e : TypeId) (z : Value) : Prop := ∃ i, Try.prog.info? e = some i ∧ i.zero = some z ∧ i.size = T.n ∧ i.bytes ≤ 512
theorem elemInfo_of {α : Type} {T : Ty α} {e : TypeId} {z : Value} (h : (Try.prog.info? e).map (fun i => (i.zero, i.size, decide (i.bytes ≤ 512))) = some (some z, T.n, true)) : ElemInfo T e z := by
  cases q : Try.prog.info? e with
  | none => rw [q] at h; simp at h
  | some i => rw [q] at h; simp only [Option.map_some, Option.some.injEq, Prod.mk.injEq, decide_eq_true_eq] at h; exact ⟨i, q, h.1, h.2.1, h.2.2⟩
theorem addr_add0 (b j : Nat) : (⟨b, 0, none⟩ : Addr).add j = ⟨b, j, none⟩ := by unfold Addr.add; split <;> simp_all
theorem addr_add (b o j : Nat) : (⟨b, o, none⟩ : Addr).add j = ⟨b, o + j, none⟩ := by unfold Addr.add; split <;> simp_all
/-- The blocks of what was there, as the append leaves them. -/
theorem grown_alloc {w w' : World} {o : Obj} {row : Option Nat} (h : (w.alloc o).grownBy w' row) : w.grownBy w' row := by
  have hg := World.grownBy_alloc w o row
  exact ⟨h.os.trans hg.os, h.tape.trans hg.tape, h.output.trans hg.output, Nat.le_trans hg.size h.size, fun k hk hne => (h.block k (Nat.lt_of_lt_of_le hk hg.size) hne).trans (hg.block k hk hne)⟩
theorem run_append_T {α : Type} {T : Ty α} (A : T.Law) {e t : TypeId} {z : Value} (I : ElemInfo T e z) (ht : Try.prog.underlying t = some (.slice e)) (hz : z.cells.size = T.n)
    {w : World} (ty : TypeId) (F : Nat → Prop) (D : Nat) (v : Value) (xs : List α) (hown : SlO e T w (fun b => F b ∧ b < D) v xs) (hD : D ≤ w.heap.size) (hf : ∀ b, D ≤ b → F b) (hn : xs.length ≤ 1048576)
    (cs : List Value) (x0 : α) (hnew : T.O w (fun b => D ≤ b) cs x0) (h1 : ∀ u ∈ cs, u.oneCell' = true) (c : Nat) :
    ∃ v' w', (Builtin.append_ #[t, t] ty #[v, .slice (some ⟨w.heap.size, 0, none⟩) 1 c]).run Try.prog (w.alloc (.cells cs.toArray e)) = .ok v' w' ∧ SlO e T w' F v' (xs ++ [x0]) ∧ Turn (fun b => F b ∧ b < D) w w' := by
  obtain ⟨i0, hi, hz0, hz1, hz2⟩ := I
  obtain ⟨L, us, Fs, g1, g2, g3, g4⟩ := slO_lt A hown
  have hcl : cs.length = T.n := A.len (A.reads hnew)
  have hpos := A.pos
  have hb : (xs.length + 1) * i0.bytes ≤ 1048577 * 512 := Nat.mul_le_mul (by omega) hz2
  obtain ⟨v', w', hr, k1, k2, _, k4⟩ := run_append_own_at (P := Try.prog) (w.alloc (.cells cs.toArray e)) 0 t ty e i0 z T.n i0.bytes ht hi hz0 hz1 rfl hz hpos v xs.length _ (g1.alloc _) ⟨w.heap.size, 0, none⟩ 1 c cs (by omega) (fun j u hj => by
    rw [addr_add0, cell_of_row _ w.heap.size j cs.toArray e (0, 0) (heap_alloc_new w _)]
    simpa using hj) h1 (by unfold maxLen; omega) (by omega) (Nat.zero_le _)
  have k5 := grown_alloc k2
  have hv : ∀ b, v.ownBlock = some b → F b ∧ b < D := fun b hb => (g2 b hb).1
  have hsz : (w.alloc (.cells cs.toArray e)).heap.size = w.heap.size + 1 := by simp [World.size_alloc]
  refine ⟨v', w', hr, ?_, turn_grown k5 hv⟩
  refine slO_app (F := F) (Fn := fun b => D ≤ b ∧ b < w.heap.size) A (fun b hb => (hv b hb).1) (fun j hj => ⟨(g3 j hj).1, (g3 j hj).2.1, fun b hb => ⟨⟨((g3 j hj).2.2 b hb).1.1.1, ((g3 j hj).2.2 b hb).1.2⟩, ((g3 j hj).2.2 b hb).2⟩⟩) g4 g1.1 k1 k5 (fun b hb => ?_) (A.lt hnew) hcl (fun b hb => ⟨hf b hb.1, hb.2, fun q => ?_, fun j hj q => ?_⟩)
  · rcases k4 with q | q
    · exact Or.inl (q ▸ hb)
    · rw [q, hsz] at hb
      have := Option.some.inj hb
      exact Or.inr ⟨by omega, hf b (by omega)⟩
  · have := (hv b q).2; omega
  · have := ((g3 j hj).2.2 b q).1.1.2; omega
theorem append_T {α : Type} {T : Ty α} (A : T.Law) {e t : TypeId} {z : Value} (I : ElemInfo T e z) (ht : Try.prog.underlying t = some (.slice e)) (hz : z.cells.size = T.n)
    {w : World} {ops : Array Oper} {rest : List Oper} {o : Oper} {a : Act} {Q : Exit → Act → World → Prop} (hgd : o.guard = none) (s x : Operand)
    (ho : o.op = .call { callee := .builtin .append, args := #[s, x], argTypes := #[t, t] })
    (F : Nat → Prop) (D : Nat) (v : Value) (xs : List α) (hs : a.eval s = v) (hown : SlO e T w (fun b => F b ∧ b < D) v xs) (hD : D ≤ w.heap.size) (hf : ∀ b, D ≤ b → F b) (hn : xs.length ≤ 1048576)
    (cs : List Value) (x0 : α) (hnew : T.O w (fun b => D ≤ b) cs x0) (h1 : ∀ u ∈ cs, u.oneCell' = true) (c g0 : Nat) (hx : a.eval x = .slice (some ⟨g0, 0, none⟩) 1 c) (hg0 : g0 = w.heap.size)
    (h : ∀ v' w', SlO e T w' F v' (xs ++ [x0]) → Turn (fun b => F b ∧ b < D) w w' → wpList Try.prog ops Q rest (a.put o.dst v') w') : wpList Try.prog ops Q (o :: rest) a (w.alloc (.cells cs.toArray e)) := by
  subst hg0
  refine wpList_plain hgd fun K hK => ?_
  obtain ⟨v', w', hr, h2, h3⟩ := run_append_T A I ht hz o.type F D v xs hown hD hf hn cs x0 hnew h1 c
  unfold Oper.wp execOp
  simp only [ho, resolve, invoke, builtin, Sem.run_bind, Sem.run_pure, Result.andThen_ok, List.map_toArray, List.map_cons, List.map_nil, hs, hx, hr]
  exact hK _ _ (h v' w' h2 h3)
theorem step_append_T {α : Type} {T : Ty α} (A : T.Law) {e t : TypeId} {z : Value} (I : ElemInfo T e z) (ht : Try.prog.underlying t = some (.slice e)) (hz : z.cells.size = T.n)
    {w : World} {ops : Array Oper} {o : Oper} {a : Act} {K : Act → World → Prop} {Q : Exit → Act → World → Prop} {E : Prop} (hwa : Region.wanted o (yielded ops a.tmps) = true) (s x : Operand)
    (ho : o.op = .call { callee := .builtin .append, args := #[s, x], argTypes := #[t, t] })
    (F : Nat → Prop) (D : Nat) (v : Value) (xs : List α) (hs : a.eval s = v) (hown : SlO e T w (fun b => F b ∧ b < D) v xs) (hD : D ≤ w.heap.size) (hf : ∀ b, D ≤ b → F b) (hn : xs.length ≤ 1048576)
    (cs : List Value) (x0 : α) (hnew : T.O w (fun b => D ≤ b) cs x0) (h1 : ∀ u ∈ cs, u.oneCell' = true) (c g0 : Nat) (hx : a.eval x = .slice (some ⟨g0, 0, none⟩) 1 c) (hg0 : g0 = w.heap.size)
    (h : ∀ v' w', SlO e T w' F v' (xs ++ [x0]) → Turn (fun b => F b ∧ b < D) w w' → K (a.put o.dst v') w') : if Region.wanted o (yielded ops a.tmps) = true then Oper.wp Try.prog o a (w.alloc (.cells cs.toArray e)) K Q else E := by
  subst hg0
  rw [if_pos hwa]
  obtain ⟨v', w', hr, h2, h3⟩ := run_append_T A I ht hz o.type F D v xs hown hD hf hn cs x0 hnew h1 c
  unfold Oper.wp execOp
  simp only [ho, resolve, invoke, builtin, Sem.run_bind, Sem.run_pure, Result.andThen_ok, List.map_toArray, List.map_cons, List.map_nil, hs, hx, hr]
  exact h v' w' h2 h3
/-- The cells of a slice that is read, in a row. -/
theorem slR_cells {α : Type} {T : Ty α} {w : World} {b off cap m : Nat} {xs : List α} (A : T.Law) (h : SlR T w (.slice (some ⟨b, off, none⟩) m cap) xs) (hp : 0 < xs.length) :
    m = xs.length ∧ b < w.heap.size ∧ ∃ L : List Value, L.length = xs.length * T.n ∧ (∀ j u, L[j]? = some u → w.cell? ⟨b, off + j, none⟩ = some u) ∧ ∀ j, j < xs.length → ∃ cs, T.R w cs (xs.getD j T.d) ∧ ∀ i, i < T.n → L[j * T.n + i]? = cs[i]? := by
  rcases h with ⟨rfl, _⟩ | ⟨b', off', cap', us, hv, h2, h3, h4⟩
  · simp at hp
  · simp only [Value.slice.injEq, Option.some.injEq, Addr.mk.injEq] at hv
    obtain ⟨⟨rfl, rfl, _⟩, rfl, rfl⟩ := hv
    have hpos := A.pos
    have hlen : ∀ j, j < xs.length → (us j).length = T.n := fun j hj => A.len (h4 j hj).2
    refine ⟨rfl, h3, (List.range (xs.length * T.n)).map (fun k => (us (k / T.n)).getD (k % T.n) undef), by simp, fun j u hj => ?_, fun j hj => ⟨us j, (h4 j hj).2, fun i hi => ?_⟩⟩
    · have hjl : j < xs.length * T.n := by
        have := (List.getElem?_eq_some_iff.1 hj).1
        simpa using this
      rw [List.getElem?_map, List.getElem?_range hjl] at hj
      simp only [Option.map_some, Option.some.injEq] at hj
      have hq : j / T.n < xs.length := (Nat.div_lt_iff_lt_mul hpos).2 hjl
      have hm : j % T.n < T.n := Nat.mod_lt _ hpos
      have e : off + j / T.n * T.n + j % T.n = off + j := by
        have := Nat.div_add_mod j T.n
        rw [Nat.mul_comm] at this; omega
      have hc := (h4 _ hq).1 _ hm
      rw [e, List.getElem?_eq_getElem (by rw [hlen _ hq]; exact hm)] at hc
      rw [hc, ← hj]
      simp [List.getD, hlen _ hq, hm]
    · have hlt : j * T.n + i < xs.length * T.n := by
        have : (j + 1) * T.n ≤ xs.length * T.n := Nat.mul_le_mul_right _ hj
        rw [Nat.add_mul, Nat.one_mul] at this; omega
      have e1 : (j * T.n + i) / T.n = j := by rw [Nat.mul_comm, Nat.mul_add_div hpos, Nat.div_eq_of_lt hi]; omega
      have e2 : (j * T.n + i) % T.n = i := by rw [Nat.mul_comm, Nat.mul_add_mod, Nat.mod_eq_of_lt hi]
      rw [List.getElem?_map, List.getElem?_range hlt]
      simp only [Option.map_some, e1, e2]
      rw [List.getElem?_eq_getElem (by rw [hlen j hj]; exact hi)]
      simp [List.getD, hlen j hj, hi]
/-- Plain data: what is read may be owned. -/
def Flat {α : Type} (T : Ty α) : Prop := (∀ {w w' : World} {F : Nat → Prop} {cs : List Value} {x : α}, T.R w cs x → T.O w' F cs x) ∧ ∀ {w : World} {cs : List Value} {x : α}, T.R w cs x → ∀ u ∈ cs, u.oneCell' = true
theorem flat_int : Flat tInt := ⟨fun h => h, fun h u hu => by rw [show _ = [Value.int .i64 _] from h] at hu; simp at hu; rw [hu]; rfl⟩
/-- What lies in slices of plain data that the call made, element by element. -/
theorem slO_flat {α : Type} {T : Ty α} (A : T.Law) (hfl : Flat T) {e : TypeId} {w : World} {F : Nat → Prop} {v : Value} {xs : List α} {L : List Value} {B : Nat} (h : w.ownsRow B e T.n v xs.length L) (hF : ∀ b, v.ownBlock = some b → F b)
    (hL : ∀ j, j < xs.length → ∃ cs, T.R w cs (xs.getD j T.d) ∧ ∀ i, i < T.n → L[j * T.n + i]? = cs[i]?) : SlO e T w F v xs := by
  haveI : Inhabited (List Value) := ⟨[]⟩
  obtain ⟨f, hf⟩ := Go.Deep.choose_lt (α := List Value) (n := xs.length) (p := fun j cs => T.R w cs (xs.getD j T.d) ∧ ∀ i, i < T.n → L[j * T.n + i]? = cs[i]?) hL
  exact ⟨L, f, fun _ _ => False, row_low h (Nat.zero_le _), hF, fun j hj => ⟨(hf j hj).2, hfl.1 (hf j hj).1, fun b hb => False.elim hb⟩, fun i j _ _ _ b hb => False.elim hb⟩
theorem run_append_flat {α : Type} {T : Ty α} (A : T.Law) (hfl : Flat T) {e t : TypeId} {z : Value} (I : ElemInfo T e z) (ht : Try.prog.underlying t = some (.slice e)) (hz : z.cells.size = T.n)
    {w : World} {F0 F : Nat → Prop} {v u : Value} {xs ys : List α} (ty : TypeId) (hown : SlO e T w F0 v xs) (hu : SlR T w u ys) (h0 : ∀ b, F0 b → F b) (hf : F w.heap.size) (h63 : xs.length + ys.length ≤ 2097152) :
    ∃ v' w', (Builtin.append_ #[t, t] ty #[v, u]).run Try.prog w = .ok v' w' ∧ SlO e T w' F v' (xs ++ ys) ∧ w.grownBy w' v.ownBlock := by
  obtain ⟨i0, hi, hz0, hz1, hz2⟩ := I
  have hpos := A.pos
  by_cases hp : 0 < ys.length
  · obtain ⟨a', cap', rfl⟩ := slR_len hu
    rcases hu with ⟨rfl, _⟩ | hu'
    · simp at hp
    · have hu : SlR T w (.slice a' ys.length cap') ys := Or.inr hu'
      obtain ⟨b, off, cap2, us, hv, _⟩ := hu'
      simp only [Value.slice.injEq] at hv
      obtain ⟨rfl, _, rfl⟩ := hv
      obtain ⟨_, hbl, N, hN, hNc, hNr⟩ := slR_cells A hu hp
      obtain ⟨L, us2, Fs, g1, g2, g3, g4⟩ := hown
      have hb : (xs.length + ys.length) * i0.bytes ≤ 2097152 * 512 := Nat.mul_le_mul h63 hz2
      obtain ⟨v', w', hr, k1, k2, _, k4⟩ := run_append_own_at (P := Try.prog) w 0 t ty e i0 z T.n i0.bytes ht hi hz0 hz1 rfl hz hpos v xs.length _ g1 ⟨b, off, none⟩ ys.length cap' N hN (fun j q hj => by rw [addr_add]; exact hNc j q hj) (fun q hq => by
        obtain ⟨k, hk, rfl⟩ := List.getElem_of_mem hq
        have hkl : k < ys.length * T.n := by omega
        have hq : k / T.n < ys.length := (Nat.div_lt_iff_lt_mul hpos).2 hkl
        have hm : k % T.n < T.n := Nat.mod_lt _ hpos
        obtain ⟨cs, hR, hc⟩ := hNr _ hq
        have e1 : k / T.n * T.n + k % T.n = k := by
          have := Nat.div_add_mod k T.n
          rw [Nat.mul_comm] at this; exact this
        have h5 := hc _ hm
        rw [e1, List.getElem?_eq_getElem hk, List.getElem?_eq_getElem (by rw [A.len hR]; exact hm)] at h5
        rw [Option.some.inj h5]
        exact hfl.2 hR _ (List.getElem_mem _)) (by unfold maxLen; omega) (by omega) (Nat.zero_le _)
      refine ⟨v', w', hr, ?_, k2⟩
      have hLl : L.length = xs.length * T.n := g1.1
      refine slO_flat A hfl (by rw [List.length_append]; exact k1) (fun c hc => ?_) (fun j hj => ?_)
      · rcases k4 with q | q
        · exact h0 c (g2 c (q ▸ hc))
        · rw [q] at hc; rw [← Option.some.inj hc]; exact hf
      · rw [List.length_append] at hj
        by_cases hlt : j < xs.length
        · have er : (xs ++ ys).getD j T.d = xs.getD j T.d := by simp [List.getD, List.getElem?_append_left hlt]
          obtain ⟨c1, c2, _⟩ := g3 j hlt
          refine ⟨us2 j, by rw [er]; exact A.reads (hfl.1 (w' := w') (F := F) (A.reads c2)), fun i hi => ?_⟩
          have hl2 : j * T.n + i < L.length := by
            have : (j + 1) * T.n ≤ xs.length * T.n := Nat.mul_le_mul_right _ hlt
            rw [Nat.add_mul, Nat.one_mul] at this; omega
          rw [List.getElem?_append_left hl2]
          exact c1 i hi
        · obtain ⟨m, rfl⟩ : ∃ m, j = xs.length + m := ⟨j - xs.length, by omega⟩
          have hm : m < ys.length := by omega
          have er : (xs ++ ys).getD (xs.length + m) T.d = ys.getD m T.d := by simp [List.getD, List.getElem?_append_right]
          obtain ⟨cs, hR, hc⟩ := hNr m hm
          refine ⟨cs, by rw [er]; exact A.reads (hfl.1 (w' := w') (F := F) hR), fun i hi => ?_⟩
          have e1 : (xs.length + m) * T.n + i = L.length + (m * T.n + i) := by rw [hLl, Nat.add_mul]; omega
          rw [e1, List.getElem?_append_right (by omega), Nat.add_sub_cancel_left]
          exact hc i hi
  · have hy : ys = [] := List.eq_nil_of_length_eq_zero (by omega)
    subst hy
    obtain ⟨a', cap', rfl⟩ := slR_len hu
    have hs : Src Try.prog i0.size t (.slice a' 0 cap') 0 [] w := by
      cases a' with
      | none => exact Src.ofNil w ht cap'
      | some ad => exact Src.ofSlice w ht ad 0 cap' [] (by simp) (by simp) (by simp)
    obtain ⟨a, cap, hv, hle⟩ : ∃ a cap, v = .slice a xs.length cap ∧ xs.length ≤ cap := by
      obtain ⟨L, us2, Fs, g1, _⟩ := hown
      rcases g1.2 with ⟨rfl, q⟩ | ⟨g, cap, cur, rfl, _, _, hn, _⟩
      · exact ⟨none, 0, by rw [q], by omega⟩
      · exact ⟨_, cap, rfl, hn⟩
    subst hv
    exact ⟨_, _, run_append_nothing w t t ty e i0 ht hi a xs.length cap hle _ hs, by rw [List.append_nil]; exact slO_mono hown h0, World.grownBy.refl _ _⟩
theorem step_append_flat {α : Type} {T : Ty α} (A : T.Law) (hfl : Flat T) {e t : TypeId} {z : Value} (I : ElemInfo T e z) (ht : Try.prog.underlying t = some (.slice e)) (hz : z.cells.size = T.n)
    {w : World} {ops : Array Oper} {o : Oper} {a : Act} {K : Act → World → Prop} {Q : Exit → Act → World → Prop} {E : Prop} (hwa : Region.wanted o (yielded ops a.tmps) = true) (s x : Operand)
    (ho : o.op = .call { callee := .builtin .append, args := #[s, x], argTypes := #[t, t] })
    (F0 F : Nat → Prop) (v u : Value) (xs ys : List α) (hs : a.eval s = v) (hx : a.eval x = u) (hown : SlO e T w F0 v xs) (hu : SlR T w u ys) (h0 : ∀ b, F0 b → F b) (hf : F w.heap.size) (h63 : xs.length + ys.length ≤ 2097152)
    (h : ∀ v' w', SlO e T w' F v' (xs ++ ys) → Turn F0 w w' → K (a.put o.dst v') w') : if Region.wanted o (yielded ops a.tmps) = true then Oper.wp Try.prog o a w K Q else E := by
  rw [if_pos hwa]
  have hblk : ∀ b, v.ownBlock = some b → F0 b := by obtain ⟨L, us2, Fs, g1, g2, _⟩ := hown; exact g2
  obtain ⟨v', w', hr, h2, h3⟩ := run_append_flat A hfl I ht hz o.type hown hu h0 hf h63
  unfold Oper.wp execOp
  simp only [ho, resolve, invoke, builtin, Sem.run_bind, Sem.run_pure, Result.andThen_ok, List.map_toArray, List.map_cons, List.map_nil, hs, hx, hr]
  exact h v' w' h2 (turn_grown h3 hblk)
theorem append_flat {α : Type} {T : Ty α} (A : T.Law) (hfl : Flat T) {e t : TypeId} {z : Value} (I : ElemInfo T e z) (ht : Try.prog.underlying t = some (.slice e)) (hz : z.cells.size = T.n)
    {w : World} {ops : Array Oper} {rest : List Oper} {o : Oper} {a : Act} {Q : Exit → Act → World → Prop} (hgd : o.guard = none) (s x : Operand)
    (ho : o.op = .call { callee := .builtin .append, args := #[s, x], argTypes := #[t, t] })
    (F0 F : Nat → Prop) (v u : Value) (xs ys : List α) (hs : a.eval s = v) (hx : a.eval x = u) (hown : SlO e T w F0 v xs) (hu : SlR T w u ys) (h0 : ∀ b, F0 b → F b) (hf : F w.heap.size) (h63 : xs.length + ys.length ≤ 2097152)
    (h : ∀ v' w', SlO e T w' F v' (xs ++ ys) → Turn F0 w w' → wpList Try.prog ops Q rest (a.put o.dst v') w') : wpList Try.prog ops Q (o :: rest) a w := by
  refine wpList_plain hgd fun K hK => ?_
  have hblk : ∀ b, v.ownBlock = some b → F0 b := by obtain ⟨L, us2, Fs, g1, g2, _⟩ := hown; exact g2
  obtain ⟨v', w', hr, h2, h3⟩ := run_append_flat A hfl I ht hz o.type hown hu h0 hf h63
  unfold Oper.wp execOp
  simp only [ho, resolve, invoke, builtin, Sem.run_bind, Sem.run_pure, Result.andThen_ok, List.map_toArray, List.map_cons, List.map_nil, hs, hx, hr]
  exact hK _ _ (h v' w' h2 (turn_grown h3 hblk))
/-- 'T{}' as a slice: no element yet. -/
theorem slO_empty {α : Type} {T : Ty α} (w : World) (e : TypeId) (F : Nat → Prop) (h : F w.heap.size) : SlO e T (w.alloc (.cells #[] e)) F (.slice (some ⟨w.heap.size, 0, none⟩) 0 0) [] := by
  refine ⟨[], fun _ => [], fun _ _ => False, ?_, fun b hb => ?_, fun j hj => by simp at hj, fun i j hi => by simp at hi⟩
  · have := World.ownsRow_made (base := 0) (e := e) (size := T.n) w #[] 0 (Nat.zero_le _) (by unfold maxLen; omega) (by simp)
    exact this
  · simp [Value.ownBlock] at hb; rw [← hb]; exact h
end Go.Proofs.Ythiiaiholcfhhaa
namespace Go.Proofs.Ythiiaiholcfhhaa
open Go.RowKit
set_option linter.unusedVariables false
set_option linter.unusedSimpArgs false
/-- Cells as they are: n of them. -/
def tRaw (n : Nat) : Ty (List Value) := { n := n, d := [], R := fun _ cs x => cs = x ∧ cs.length = n ∧ ∀ u ∈ cs, u.oneCell' = true, O := fun _ _ cs x => cs = x ∧ cs.length = n ∧ ∀ u ∈ cs, u.oneCell' = true, sz := fun _ => 0, nd := fun _ => 0, nv := fun _ => 0, md := fun x _ => x, mv := fun x _ => x, ok := fun _ => True, s := 0 }
theorem tRaw_law {n : Nat} (h : 0 < n) : (tRaw n).Law := ⟨h, fun h => h.2.1, fun h _ => h, fun h => h, fun h _ _ => h, fun h _ => h, fun h => h, fun x => Nat.le_refl _, fun x => Nat.le_refl _⟩
section
variable {α : Type} {T : Ty α}
end
end Go.Proofs.Ythiiaiholcfhhaa
namespace Go.Proofs.Ythiiaiholcfhhaa
open Go.RowKit
set_option linter.unusedVariables false
set_option linter.unusedSimpArgs false
theorem info_T_Version : ElemInfo tVersion 88 (.agg #[.int .i64 0, .slice none 0 0, .int .i64 0, .int .i64 0]) := elemInfo_of (by kernel_rfl)
theorem zL_sum {α : Type} (T : Ty α) (xs : List α) : zL T xs = xs.length + (xs.map T.sz).sum := by unfold zL zTo sumN; rw [List.take_length]
theorem ver_sz (v : VerD) : tVersion.sz v = v.2.1.length := by
  obtain ⟨i, xs, bo, di⟩ := v
  rw [tVersion_sz, zL_ints]
end Go.Proofs.Ythiiaiholcfhhaa
namespace Go.Proofs.Ythiiaiholcfhhaa
open Go.RowKit
set_option linter.unusedVariables false
set_option linter.unusedSimpArgs false
end Go.Proofs.Ythiiaiholcfhhaa
namespace Go.Proofs.Ythiiaiholcfhhaa
open Go.RowKit
set_option linter.unusedVariables false
set_option linter.unusedSimpArgs false
end Go.Proofs.Ythiiaiholcfhhaa
namespace Go.Proofs.Ythiiaiholcfhhaa
open Go.RowKit
set_option linter.unusedVariables false
theorem info_T_int : ElemInfo tInt 3 (.int .i64 0) := elemInfo_of (by kernel_rfl)
end Go.Proofs.Ythiiaiholcfhhaa
namespace Go.Proofs.Ythiiaiholcfhhaa
open Go.RowKit
set_option linter.unusedVariables false
set_option linter.unusedSimpArgs false
end Go.Proofs.Ythiiaiholcfhhaa
namespace Go.Proofs.Ythiiaiholcfhhaa
open Go.RowKit
set_option linter.unusedVariables false
set_option linter.unusedSimpArgs false
end Go.Proofs.Ythiiaiholcfhhaa
namespace Go.Proofs.Ythiiaiholcfhhaa
open Go.RowKit
set_option linter.unusedVariables false
set_option linter.unusedSimpArgs false
theorem slR_rows {w : World} {v : Value} {rs : List RowD} (h : SlR tRow w v rs) : RowsR w v rs := by
  rcases h with h | ⟨b, off, cap, us, h1, h2, h3, h4⟩
  · exact Or.inl h
  · refine Or.inr ⟨b, off, cap, fun j => (us j).getD 1 (.slice none 0 0), h1, h2, h3, fun j hj => ?_⟩
    obtain ⟨hc, hR⟩ := h4 j hj
    obtain ⟨v1, e, g1⟩ := tRow_R (a0 := (rs.getD j (0, [])).1) (x1 := (rs.getD j (0, [])).2) hR
    have c0 := hc 0 (by decide); have c1 := hc 1 (by decide)
    simp only [e] at c0 c1 ⊢
    exact ⟨c0, c1, slR_ints g1⟩
theorem zL_rows (rs : List RowD) : zL tRow rs = szL rs := by
  have hf : tRow.sz = fun r : RowD => r.2.length := by
    funext r; obtain ⟨a, x⟩ := r; rw [tRow_sz, zL_ints]
  unfold zL zTo szL szTo sumN
  rw [hf]
end Go.Proofs.Ythiiaiholcfhhaa
namespace Go.Proofs.Ythiiaiholcfhhaa
open Go.RowKit
set_option linter.unusedVariables false
end Go.Proofs.Ythiiaiholcfhhaa
namespace Go.Proofs.Ythiiaiholcfhhaa
open Go.RowKit
set_option linter.unusedVariables false
set_option linter.unusedSimpArgs false
end Go.Proofs.Ythiiaiholcfhhaa
namespace Go.Proofs.Ythiiaiholcfhhaa
open Go.RowKit
set_option linter.unusedVariables false
set_option linter.unusedSimpArgs false
end Go.Proofs.Ythiiaiholcfhhaa
namespace Go.Proofs.Ythiiaiholcfhhaa
open Go.RowKit
set_option linter.unusedVariables false
set_option linter.unusedSimpArgs false
def tStore : Ty (List (List (Int × List Int × Int × Int)) × Int) := tPair tVersionSS tInt
theorem tStore_law : tStore.Law := tPair_law tVersionSS_law tInt_law
theorem tStore_sz {x0 : List (List (Int × List Int × Int × Int))} {a1 : Int} : tStore.sz (x0, a1) = zL tVersionS x0 := by
  simp only [tStore, tPair_sz, tPair_nd, tPair_nv, tInt_sz, tInt_nd, tInt_nv, tSl_sz, tSl_nd, tSl_nv]
  try omega
theorem tStore_O {w : World} {F : Nat → Prop} {cs : List Value} {x0 : List (List (Int × List Int × Int × Int))} {a1 : Int} (h : tStore.O w F cs (x0, a1)) : ∃ v0, ∃ F0 : Nat → Prop, cs = [v0, .int .i64 a1] ∧ SlO 89 tVersionS w F0 v0 x0 ∧ (∀ b, F0 b → F b) := by
  obtain ⟨_, _, F0_1, F0_2, rfl, ⟨v0, rfl, h0⟩, rfl, s0_1, s0_2, d0⟩ := h
  exact ⟨v0, F0_1, rfl, h0, fun b h => (s0_1 b h)⟩
theorem tStore_mkO {w : World} {F : Nat → Prop} {x0 : List (List (Int × List Int × Int × Int))} {a1 : Int} {v0 : Value} {F0 : Nat → Prop} (h0 : SlO 89 tVersionS w F0 v0 x0) (s0 : ∀ b, F0 b → F b)  : tStore.O w F [v0, .int .i64 a1] (x0, a1) := ⟨[v0], [.int .i64 a1], F0, fun _ => False, rfl, ⟨_, rfl, h0⟩, rfl, (fun b h => s0 b h), (fun b h => (False.elim h)), (fun b h g => (False.elim g))⟩
set_option maxHeartbeats 8000000 in
set_option maxRecDepth 100000 in
theorem eqStore_T (a1 : Int) (v0 : Value) (x0 : List (List (Int × List Int × Int × Int))) (u0 : Value) (w : World) (h0 : SlR tVersionS w v0 x0) (g0 : SlR tVersionS w u0 x0) (s0 : zL tVersionS x0 ≤ 1048576) :
    Calls Try.prog 18 #[.agg #[v0, .int .i64 a1], .agg #[u0, .int .i64 a1]] w fun e w' => e = .returned (.bool true) ∧ Below w.heap.size w w' := by
  have H0 := Lib.hid h0; have G0 := Lib.hid g0; have S0 := Lib.hid s0
  clear h0 g0 s0
  have e1 : (a1 != a1) = false := by simp
  go_enter Try.func18, Try.ntmps18
  go_wp2_with fail
  have hb : Below w.heap.size w ((w.alloc (.cells #[v0, .int .i64 a1] 41)).alloc (.cells #[u0, .int .i64 a1] 41)) := ((Below.refl _ w).alloc (Nat.le_refl _) _).alloc (by simp) _
  have g1 : ((w.alloc (.cells #[v0, .int .i64 a1] 41)).alloc (.cells #[u0, .int .i64 a1] 41)).heap[w.heap.size + 1]? = some (.cells #[u0, .int .i64 a1] 41 (0, 0)) := by
    have := heap_alloc_new (w.alloc (.cells #[v0, .int .i64 a1] 41)) (.cells #[u0, .int .i64 a1] 41)
    simpa only [World.size_alloc] using this
  have g0 : ((w.alloc (.cells #[v0, .int .i64 a1] 41)).alloc (.cells #[u0, .int .i64 a1] 41)).heap[w.heap.size]? = some (.cells #[v0, .int .i64 a1] 41 (0, 0)) := by
    rw [Below.heap_alloc _ _ _ (by simp)]
    exact heap_alloc_new w _
  have hz : w.heap.size + 1 < ((w.alloc (.cells #[v0, .int .i64 a1] 41)).alloc (.cells #[u0, .int .i64 a1] 41)).heap.size := by simp [World.size_alloc]
  generalize ((w.alloc (.cells #[v0, .int .i64 a1] 41)).alloc (.cells #[u0, .int .i64 a1] 41)) = W at *
  refine (eqVersionSS_S v0 u0 x0 W (slR_below tVersionS_law H0.out hb) (slR_below tVersionS_law G0.out hb) S0.out).mono ?_
  rintro e w1 ⟨rfl, b1⟩
  replace g0 := (b1.block _ (by omega)).trans g0
  replace g1 := (b1.block _ (by omega)).trans g1
  have zz0 := b1.size
  replace hb := hb.trans (b1.mono (by omega))
  clear b1
  have p0_1 := (cell_of_row w1 _ 1 _ _ _ g0).trans (show _ = some (Value.int .i64 a1) from rfl)
  have p1_1 := (cell_of_row w1 _ 1 _ _ _ g1).trans (show _ = some (Value.int .i64 a1) from rfl)
  go_wp2
  clear p0_1 p1_1
  go_ret
  exact ⟨rfl, hb⟩
set_option maxHeartbeats 8000000 in
set_option maxRecDepth 100000 in
theorem markStore_T (a1 : Int) (v0 : Value) (x0 : List (List (Int × List Int × Int × Int))) (F F0 : Nat → Prop) (k : Int) (w : World) (h0 : SlO 89 tVersionS w F0 v0 x0) (q0 : ∀ b, F0 b → F b)  (s0 : zL tVersionS x0 ≤ 1048576) (k0 : 0 ≤ k) (k1 : k ≤ 536870912) :
    Calls Try.prog 19 #[.agg #[v0, .int .i64 a1], .int .i64 k] w fun e w' => e = .returned (.int .i64 (k + (ndL tVersionS x0 : Int))) ∧ (SlO 89 tVersionS w' F0 v0 (mAll tVersionS x0 (k))) ∧ Turn F w w' := by
  have S0 := Lib.hid s0
  have N0 := ndL_le tVersionS_law (by decide) x0
  have R0 : Hid (0 ≤ k ∧ k ≤ 939524096) := Lib.hid (by omega)
  have RE : Hid (0 ≤ k + (ndL tVersionS x0 : Int)) := Lib.hid (by omega)
  clear N0
  have O0 := Lib.hid (slO_lt tVersionS_law h0)
  clear h0 s0
  go_enter Try.func19, Try.ntmps19
  go_wp2_with fail
  have hb : Below w.heap.size w (w.alloc (.cells #[v0, .int .i64 a1] 41)) := (Below.refl _ w).alloc (Nat.le_refl _) _
  have g0 : (w.alloc (.cells #[v0, .int .i64 a1] 41)).heap[w.heap.size]? = some (.cells #[v0, .int .i64 a1] 41 (0, 0)) := heap_alloc_new w _
  have hz : w.heap.size < (w.alloc (.cells #[v0, .int .i64 a1] 41)).heap.size := by simp [World.size_alloc]
  have ht : Turn F w (w.alloc (.cells #[v0, .int .i64 a1] 41)) := turn_below hb
  replace O0 := Lib.hid (slO_fresh tVersionS_law O0.out hb)
  generalize (w.alloc (.cells #[v0, .int .i64 a1] 41)) = W at *
  refine (markVersionSS_S v0 x0 _ (k) W O0.out S0.out R0.out.1 R0.out.2).mono ?_
  rintro e w1 ⟨rfl, m0, t1⟩
  replace g0 := (t1.block _ hz (fun h => absurd h.2 (Nat.lt_irrefl _))).trans g0
  have zz0 := t1.size
  replace hz := Nat.lt_of_lt_of_le hz t1.size
  replace ht := ht.trans (t1.mono (fun b h => q0 b h.1))
  replace O0 := Lib.hid m0
  clear m0 t1
  go_wp2
  go_ret
  exact ⟨rfl, slO_mono O0.out (fun b h => h.1), ht⟩
set_option maxHeartbeats 8000000 in
set_option maxRecDepth 100000 in
theorem heldStore_T (a1 : Int) (v0 : Value) (x0 : List (List (Int × List Int × Int × Int))) (k : Int) (w : World) (h0 : SlR tVersionS w v0 (mAll tVersionS x0 (k))) (s0 : zL tVersionS x0 ≤ 1048576) (k0 : 0 ≤ k) (k1 : k ≤ 536870912) :
    Calls Try.prog 21 #[.agg #[v0, .int .i64 a1], .int .i64 k] w fun e w' => e = .returned (.int .i64 (k + (ndL tVersionS x0 : Int))) ∧ Below w.heap.size w w' := by
  have S0 := Lib.hid s0
  have N0 := ndL_le tVersionS_law (by decide) x0
  have R0 : Hid (0 ≤ k ∧ k ≤ 939524096) := Lib.hid (by omega)
  have RE : Hid (0 ≤ k + (ndL tVersionS x0 : Int)) := Lib.hid (by omega)
  have ng0 : ¬ k + (ndL tVersionS x0 : Int) < 0 := by omega
  clear N0
  have H0 := Lib.hid h0
  clear h0 s0
  go_enter Try.func21, Try.ntmps21
  go_wp2_with fail
  have hb : Below w.heap.size w (w.alloc (.cells #[v0, .int .i64 a1] 41)) := (Below.refl _ w).alloc (Nat.le_refl _) _
  have g0 : (w.alloc (.cells #[v0, .int .i64 a1] 41)).heap[w.heap.size]? = some (.cells #[v0, .int .i64 a1] 41 (0, 0)) := heap_alloc_new w _
  have hz : w.heap.size < (w.alloc (.cells #[v0, .int .i64 a1] 41)).heap.size := by simp [World.size_alloc]
  generalize (w.alloc (.cells #[v0, .int .i64 a1] 41)) = W at *
  refine (heldVersionSS_S v0 x0 (k) W (slR_below tVersionS_law H0.out hb) S0.out R0.out.1 R0.out.2).mono ?_
  rintro e _ ⟨rfl, rfl⟩
  go_wp2
  go_ret
  exact ⟨rfl, hb⟩
end Go.Proofs.Ythiiaiholcfhhaa
namespace Go.Proofs.Ythiiaiholcfhhaa
open Go.RowKit
set_option linter.unusedVariables false
set_option linter.unusedSimpArgs false
def verOf (r : RowD) : VerD := (r.1, r.2, 0, -1)
/-- What of the first k rows lies in segment i of n. -/
def partTo (rs : List RowD) (n i k : Nat) : List VerD := ((List.range k).filter (fun j => decide (j % n = i ∧ j < rs.length))).map (fun j => verOf (rs.getD j (0, [])))
theorem part_zero (rs : List RowD) (n i : Nat) : partTo rs n i 0 = [] := rfl
theorem part_step {rs : List RowD} {n i k : Nat} (hk : k < rs.length) (h : k % n = i) : partTo rs n i (k + 1) = partTo rs n i k ++ [verOf (rs.getD k (0, []))] := by
  unfold partTo
  rw [List.range_succ, List.filter_append, List.map_append]
  simp [h, hk]
theorem part_skip {rs : List RowD} {n i k : Nat} (h : ¬ k % n = i) : partTo rs n i (k + 1) = partTo rs n i k := by
  unfold partTo
  rw [List.range_succ, List.filter_append, List.map_append]
  simp [h]
theorem part_over {rs : List RowD} {n i k : Nat} (h : ¬ k < rs.length) : partTo rs n i (k + 1) = partTo rs n i k := by
  unfold partTo
  rw [List.range_succ, List.filter_append, List.map_append]
  simp [h]
theorem part_end {rs : List RowD} {n i k : Nat} (h : rs.length ≤ k) : partTo rs n i k = partTo rs n i rs.length := by
  induction k with
  | zero =>
    have e : rs.length = 0 := by omega
    rw [e]
  | succ k ih =>
    by_cases e : rs.length = k + 1
    · rw [e]
    · rw [part_over (by omega)]
      exact ih (by omega)
theorem part_first {rs : List RowD} {n i : Nat} (h : i < n) : ∀ k, k ≤ i → partTo rs n i k = []
  | 0, _ => rfl
  | k + 1, hk => by rw [part_skip (by rw [Nat.mod_eq_of_lt (by omega)]; omega)]; exact part_first h k (by omega)
theorem part_jump {rs : List RowD} {n i k : Nat} (h : i < n) (hm : k % n = i) : ∀ e, 1 ≤ e → e ≤ n → partTo rs n i (k + e) = partTo rs n i (k + 1)
  | 0, h1, _ => by omega
  | 1, _, _ => rfl
  | e + 2, _, he => by
    have hne : ¬ (k + (e + 1)) % n = i := by
      rw [Nat.add_mod, hm, Nat.mod_eq_of_lt (show e + 1 < n by omega)]
      by_cases hc : i + (e + 1) < n
      · rw [Nat.mod_eq_of_lt hc]; omega
      · rw [Nat.mod_eq_sub_mod (by omega), Nat.mod_eq_of_lt (by omega)]; omega
    rw [show k + (e + 2) = (k + (e + 1)) + 1 by omega, part_skip hne]
    exact part_jump h hm (e + 1) (by omega) (by omega)
theorem part_next {rs : List RowD} {n i k : Nat} (h : i < n) (hm : k % n = i) (hk : k < rs.length) : partTo rs n i k ++ [verOf (rs.getD k (0, []))] = partTo rs n i (k + n) := by
  rw [part_jump h hm n (by omega) (Nat.le_refl _), part_step hk hm]
theorem part_len (rs : List RowD) (n i k : Nat) : (partTo rs n i k).length ≤ k := by
  unfold partTo
  rw [List.length_map]
  exact Nat.le_trans (List.length_filter_le _ _) (by rw [List.length_range]; exact Nat.le_refl _)
def dealTo (rs : List RowD) (n m k : Nat) : List (List VerD) := (List.range m).map (fun i => partTo rs n i k)
theorem deal_len (rs : List RowD) (n m k : Nat) : (dealTo rs n m k).length = m := by simp [dealTo]
theorem deal_at {rs : List RowD} {n m k i : Nat} (h : i < m) : (dealTo rs n m k).getD i [] = partTo rs n i k := by simp [dealTo, List.getD, h]
theorem deal_step {rs : List RowD} {n k : Nat} (hn : 0 < n) (hk : k < rs.length) : (dealTo rs n n k).set (k % n) (partTo rs n (k % n) k ++ [verOf (rs.getD k (0, []))]) = dealTo rs n n (k + 1) := by
  apply List.ext_getElem
  · simp [dealTo]
  · intro i h1 h2
    rw [List.getElem_set]
    have hi : i < n := by simpa [dealTo] using h2
    simp only [dealTo, List.getElem_map, List.getElem_range]
    by_cases e : k % n = i
    · subst e; rw [if_pos rfl, part_step hk rfl]
    · rw [if_neg e, part_skip e]
theorem deal_more (rs : List RowD) (n m k : Nat) : dealTo rs n m k ++ [partTo rs n m k] = dealTo rs n (m + 1) k := by
  unfold dealTo
  rw [List.range_succ, List.map_append]
  rfl
def newP (rs : List RowD) (g : Int) : Prop := areB rs = true ∧ (1 ≤ g ∧ g ≤ 8) ∧ (rs.length : Int) ≤ 4 * g
instance (rs : List RowD) (g : Int) : Decidable (newP rs g) := by unfold newP; infer_instance
def newB (rs : List RowD) (g : Int) : (List (List VerD) × Int) × Bool := if newP rs g then ((dealTo rs g.toNat g.toNat rs.length, 0), true) else (([], 0), false)
end Go.Proofs.Ythiiaiholcfhhaa
namespace Go.Proofs.Ythiiaiholcfhhaa
open Go.RowKit
set_option linter.unusedVariables false
set_option linter.unusedSimpArgs false
end Go.Proofs.Ythiiaiholcfhhaa
namespace Go.Proofs.Ythiiaiholcfhhaa
open Go.RowKit
set_option linter.unusedVariables false
set_option linter.unusedSimpArgs false
theorem info_T_VersionS : ElemInfo tVersionS 89 (.slice none 0 0) := elemInfo_of (by kernel_rfl)
/-- A new store and whether there is one. -/
def FreshNew (w : World) (r : (List (List VerD) × Int) × Bool) (e : Ending) (w' : World) : Prop := ∃ (g0 : List Value) (G0 : Nat → Prop), e = .returned (.tuple #[.agg g0.toArray, .bool r.2]) ∧ tStore.O w' G0 g0 r.1 ∧ (∀ b, G0 b → w.heap.size ≤ b) ∧ Below w.heap.size w w'
theorem new_no {rs : List RowD} {g : Int} (h : ¬ newP rs g) : newB rs g = (([], 0), false) := if_neg h
theorem new_yes {rs : List RowD} {n : Nat} (h : newP rs (n : Int)) : newB rs (n : Int) = ((dealTo rs n n rs.length, 0), true) := by unfold newB; rw [if_pos h, Int.toNat_natCast]
set_option maxHeartbeats 8000000 in
set_option maxRecDepth 100000 in
theorem specNewStore (v : Value) (rs : List RowD) (g : Int) (w : World) (h : SlR tRow w v rs) (hs : zL tRow rs ≤ 1048576) :
    Calls Try.prog 34 #[v, .int .i64 g] w (FreshNew w (newB rs g)) := by
  have HSQ : Hid (szL rs ≤ 1048576) := Lib.hid (by rw [← zL_rows]; exact hs)
  have hlen := zL_len hs
  have HS := Lib.hid hs
  have H := Lib.hid h
  obtain ⟨a, cap, rfl⟩ := slR_len h
  have HA := Lib.hid (fun W h => specAreRows (.slice a rs.length cap) rs W h HSQ.out)
  have d0 := Lib.hid ((Below.refl w.heap.size w).alloc (Nat.le_refl _) (.cells #[.slice none 0 0, .int .i64 0] 41))
  have B0 : Hid ((w.alloc (.cells #[.slice none 0 0, .int .i64 0] 41)).heap[w.heap.size]? = some (.cells #[.slice none 0 0, .int .i64 0] 41 (0, 0))) := Lib.hid (heap_alloc_new w _)
  have Y0 : Hid (w.heap.size < (w.alloc (.cells #[.slice none 0 0, .int .i64 0] 41)).heap.size) := Lib.hid (by simp [World.size_alloc])
  clear h hs
  by_cases ha : areB rs = true
  rotate_left
  · rw [new_no (fun q => ha q.1)]
    have ha2 : areB rs = false := by simpa using ha
    rw [ha2] at HA
    clear ha ha2
    go_enter Try.func34, Try.ntmps34
    go_wp2_with fail
    generalize w.alloc (.cells #[.slice none 0 0, .int .i64 0] 41) = W at *
    refine (HA.out W (slR_rows (slR_below tRow_law H.out d0.out))).mono ?_
    rintro e w1 ⟨rfl, b1⟩
    have k0 := (b1.block w.heap.size Y0.out).trans B0.out
    have d1 := d0.out.trans (b1.mono d0.out.size)
    have c0 := cell_of_row w1 _ 0 _ _ _ k0
    have c1 := cell_of_row w1 _ 1 _ _ _ k0
    simp at c0 c1
    have f0 := frozen_of_row w1 _ 0 _ _ k0
    have f1 := frozen_of_row w1 _ 1 _ _ k0
    have tt : Turn (fun b => b = w.heap.size) w1 ((w1.setCell ⟨w.heap.size, 0, none⟩ (.slice none 0 0)).setCell ⟨w.heap.size, 1, none⟩ (.int .i64 0)) := ((Turn.refl (fun b => b = w.heap.size) _).trans (turn_set (G := fun b => b = w.heap.size) (g := w.heap.size) (j := 0) (u := .slice none 0 0) rfl)).trans (turn_set (G := fun b => b = w.heap.size) (g := w.heap.size) (j := 1) (u := .int .i64 0) rfl)
    have r := heap_setCell_same _ w.heap.size 1 _ _ (.int .i64 0) (heap_setCell_same w1 w.heap.size 0 _ _ (.slice none 0 0) k0)
    have e0 := cell_of_row _ _ 0 _ _ _ r
    have e1 := cell_of_row _ _ 1 _ _ _ r
    simp at e0 e1
    have D := Lib.hid (below_turn d1 tt (fun b h => by omega) d1.size)
    clear r k0 tt
    go_wp2
    refine bodyPost_ret (v := .tuple #[.agg #[.slice none 0 0, .int .i64 0], .bool false]) ?_ rfl ?_
    · simp [results, Try.f34, go_sem, e0, e1]
    · exact ⟨[.slice none 0 0, .int .i64 0], fun _ => False, rfl, tStore_mkO (slO_nil _ _ _ (fun _ => False)) (fun b h => False.elim h), fun b h => False.elim h, D.out⟩
  rw [ha] at HA
  by_cases hg : 1 ≤ g ∧ g ≤ 8
  rotate_left
  · rw [new_no (fun q => hg q.2.1)]
    have HN := Lib.hid (fun W => in_no g 1 8 W hg)
    clear ha hg
    go_enter Try.func34, Try.ntmps34
    go_wp2_with fail
    generalize w.alloc (.cells #[.slice none 0 0, .int .i64 0] 41) = W at *
    refine (HA.out W (slR_rows (slR_below tRow_law H.out d0.out))).mono ?_
    rintro e w1 ⟨rfl, b1⟩
    have k0 := (b1.block w.heap.size Y0.out).trans B0.out
    have d1 := d0.out.trans (b1.mono d0.out.size)
    go_wp2_with fail
    refine (HN.out _).mono ?_
    rintro e wx ⟨rfl, rfl⟩
    have c0 := cell_of_row wx _ 0 _ _ _ k0
    have c1 := cell_of_row wx _ 1 _ _ _ k0
    simp at c0 c1
    have f0 := frozen_of_row wx _ 0 _ _ k0
    have f1 := frozen_of_row wx _ 1 _ _ k0
    have tt : Turn (fun b => b = w.heap.size) wx ((wx.setCell ⟨w.heap.size, 0, none⟩ (.slice none 0 0)).setCell ⟨w.heap.size, 1, none⟩ (.int .i64 0)) := ((Turn.refl (fun b => b = w.heap.size) _).trans (turn_set (G := fun b => b = w.heap.size) (g := w.heap.size) (j := 0) (u := .slice none 0 0) rfl)).trans (turn_set (G := fun b => b = w.heap.size) (g := w.heap.size) (j := 1) (u := .int .i64 0) rfl)
    have r := heap_setCell_same _ w.heap.size 1 _ _ (.int .i64 0) (heap_setCell_same wx w.heap.size 0 _ _ (.slice none 0 0) k0)
    have e0 := cell_of_row _ _ 0 _ _ _ r
    have e1 := cell_of_row _ _ 1 _ _ _ r
    simp at e0 e1
    have D := Lib.hid (below_turn d1 tt (fun b h => by omega) d1.size)
    clear r k0 tt
    go_wp2
    refine bodyPost_ret (v := .tuple #[.agg #[.slice none 0 0, .int .i64 0], .bool false]) ?_ rfl ?_
    · simp [results, Try.f34, go_sem, e0, e1]
    · exact ⟨[.slice none 0 0, .int .i64 0], fun _ => False, rfl, tStore_mkO (slO_nil _ _ _ (fun _ => False)) (fun b h => False.elim h), fun b h => False.elim h, D.out⟩
  have HN := Lib.hid (fun W => in_yes g 1 8 W hg.1 hg.2)
  obtain ⟨n, rfl⟩ := Int.eq_ofNat_of_zero_le (show 0 ≤ g by omega)
  by_cases hl : (rs.length : Int) ≤ 4 * (n : Int)
  rotate_left
  · rw [new_no (fun q => hl q.2.2)]
    obtain ⟨g1, g2⟩ := hg
    have hl2 : (n : Int) * 4 < (rs.length : Int) := by omega
    clear ha hl
    go_enter Try.func34, Try.ntmps34
    go_wp2_with fail
    generalize w.alloc (.cells #[.slice none 0 0, .int .i64 0] 41) = W at *
    refine (HA.out W (slR_rows (slR_below tRow_law H.out d0.out))).mono ?_
    rintro e w1 ⟨rfl, b1⟩
    have k0 := (b1.block w.heap.size Y0.out).trans B0.out
    have d1 := d0.out.trans (b1.mono d0.out.size)
    go_wp2_with fail
    refine (HN.out _).mono ?_
    rintro e wx ⟨rfl, rfl⟩
    have c0 := cell_of_row wx _ 0 _ _ _ k0
    have c1 := cell_of_row wx _ 1 _ _ _ k0
    simp at c0 c1
    have f0 := frozen_of_row wx _ 0 _ _ k0
    have f1 := frozen_of_row wx _ 1 _ _ k0
    have tt : Turn (fun b => b = w.heap.size) wx ((wx.setCell ⟨w.heap.size, 0, none⟩ (.slice none 0 0)).setCell ⟨w.heap.size, 1, none⟩ (.int .i64 0)) := ((Turn.refl (fun b => b = w.heap.size) _).trans (turn_set (G := fun b => b = w.heap.size) (g := w.heap.size) (j := 0) (u := .slice none 0 0) rfl)).trans (turn_set (G := fun b => b = w.heap.size) (g := w.heap.size) (j := 1) (u := .int .i64 0) rfl)
    have r := heap_setCell_same _ w.heap.size 1 _ _ (.int .i64 0) (heap_setCell_same wx w.heap.size 0 _ _ (.slice none 0 0) k0)
    have e0 := cell_of_row _ _ 0 _ _ _ r
    have e1 := cell_of_row _ _ 1 _ _ _ r
    simp at e0 e1
    have D := Lib.hid (below_turn d1 tt (fun b h => by omega) d1.size)
    clear r k0 tt
    go_wp2
    refine bodyPost_ret (v := .tuple #[.agg #[.slice none 0 0, .int .i64 0], .bool false]) ?_ rfl ?_
    · simp [results, Try.f34, go_sem, e0, e1]
    · exact ⟨[.slice none 0 0, .int .i64 0], fun _ => False, rfl, tStore_mkO (slO_nil _ _ _ (fun _ => False)) (fun b h => False.elim h), fun b h => False.elim h, D.out⟩
  rw [new_yes ⟨ha, hg, hl⟩]
  obtain ⟨g1, g2⟩ := hg
  have hl2 : ¬ (n : Int) * 4 < (rs.length : Int) := by omega
  have hn1 : 1 ≤ n := by omega
  have hn8 : n ≤ 8 := by omega
  have hl32 : rs.length ≤ 32 := by omega
  have HN1 := Lib.hid hn1
  have HL32 := Lib.hid hl32
  clear ha hl hlen
  go_enter Try.func34, Try.ntmps34
  go_wp2_with fail
  generalize w.alloc (.cells #[.slice none 0 0, .int .i64 0] 41) = W at *
  refine (HA.out W (slR_rows (slR_below tRow_law H.out d0.out))).mono ?_
  rintro e w1 ⟨rfl, b1⟩
  have k0 := (b1.block w.heap.size Y0.out).trans B0.out
  have d1 := d0.out.trans (b1.mono d0.out.size)
  go_wp2_with fail
  refine (HN.out _).mono ?_
  rintro e wx ⟨rfl, rfl⟩
  have y1 := Nat.lt_of_lt_of_le Y0.out b1.size
  have K0 := Lib.hid k0
  have D1 := Lib.hid d1
  have Y1 := Lib.hid y1
  clear k0 d1 y1 b1 B0 d0 Y0
  go_wp2
  clear hl2
  have hal : Below wx.heap.size wx (wx.alloc (.cells #[.slice none 0 0, .int .i64 0] 41)) := (Below.refl _ _).alloc (Nat.le_refl _) _
  have k3 := (hal.block w.heap.size Y1.out).trans K0.out
  have x3 := heap_alloc_new wx (.cells #[.slice none 0 0, .int .i64 0] 41)
  have d3 := D1.out.trans (hal.mono D1.out.size)
  have y3 : wx.heap.size < (wx.alloc (.cells #[.slice none 0 0, .int .i64 0] 41)).heap.size := by simp [World.size_alloc]
  clear hal K0 D1
  generalize wx.alloc (.cells #[.slice none 0 0, .int .i64 0] 41) = W3 at *
  generalize wx.heap.size = R at *
  go_loopw [7] (fun i wr => ∃ (k : Nat) (fv : Value), k ≤ n ∧ i = .int .i64 k ∧ wr.heap[w.heap.size]? = some (.cells #[.slice none 0 0, .int .i64 0] 41 (0, 0)) ∧ wr.heap[R]? = some (.cells #[fv, .int .i64 0] 41 (0, 0)) ∧ SlO 89 tVersionS wr (fun b => R < b) fv (dealTo rs n k rs.length) ∧ Below w.heap.size w wr ∧ R < wr.heap.size) (fun i _ => n - (intOf i).toNat)
  case atStart => exact ⟨0, .slice none 0 0, by omega, rfl, k3, x3, slO_nil _ _ _ _, d3, y3⟩
  case round =>
    obtain ⟨k, fv, hk, rfl, hr0, hr1, hpf, hbel, hRs⟩ := hrel
    clear k3 x3 d3 y3
    obtain ⟨fa, fc, hfv⟩ := slO_len hpf
    rw [deal_len] at hfv
    subst hfv
    by_cases hlt : k < n
    · have i1 : (0 : Int) ≤ (k : Int) := by omega
      have i2 : (k : Int) < (n : Int) := by omega
      have HLT := Lib.hid hlt
      have HPF := Lib.hid (slO_lt tVersionS_law hpf)
      have HR0 := Lib.hid hr0
      have HR1 := Lib.hid hr1
      have HB := Lib.hid hbel
      have HRS := Lib.hid hRs
      clear hpf hr0 hr1 hbel hRs
      go_wp2
      have hal : Below wr.heap.size wr (wr.alloc (.cells #[] 88)) := (Below.refl _ _).alloc (Nat.le_refl _) _
      have k4 := (hal.block w.heap.size (Nat.lt_trans Y1.out HRS.out)).trans HR0.out
      have x4 := (hal.block R HRS.out).trans HR1.out
      have f4 := slO_fresh tVersionS_law HPF.out hal
      have p4 := slO_empty (T := tVersion) wr 88 (fun b => wr.heap.size ≤ b) (Nat.le_refl _)
      have d4 := HB.out.trans (hal.mono HB.out.size)
      have y4 : wr.heap.size < (wr.alloc (.cells #[] 88)).heap.size := by simp [World.size_alloc]
      have YQ := Lib.hid HRS.out
      clear hal HPF HR0 HR1 HB HRS
      generalize wr.alloc (.cells #[] 88) = W4 at *
      generalize wr.heap.size = Q at *
      go_loopw [8, 9] (fun u i wi => ∃ m : Nat, i = .int .i64 m ∧ m % n = k ∧ m ≤ rs.length + n ∧ wi.heap[w.heap.size]? = some (.cells #[.slice none 0 0, .int .i64 0] 41 (0, 0)) ∧ wi.heap[R]? = some (.cells #[.slice fa k fc, .int .i64 0] 41 (0, 0)) ∧ SlO 89 tVersionS wi (fun b => R < b ∧ b < Q) (.slice fa k fc) (dealTo rs n k rs.length) ∧ SlO 88 tVersion wi (fun b => Q ≤ b) u (partTo rs n k m) ∧ Below w.heap.size w wi ∧ Q < wi.heap.size) (fun _ i _ => rs.length - (intOf i).toNat)
      case atStart => exact ⟨k, rfl, Nat.mod_eq_of_lt hlt, by omega, k4, x4, f4, by rw [part_first hlt k (Nat.le_refl _)]; exact p4, d4, y4⟩
      case round =>
        obtain ⟨m, rfl, hmod, hml, hr0, hr1, hpf, hpp, hbel, hQs⟩ := hrel
        clear k4 x4 f4 p4 d4 y4
        obtain ⟨pa, pc, rfl⟩ := slO_len hpp
        by_cases hm : m < rs.length
        · have j1 : (0 : Int) ≤ (m : Int) := by omega
          have j2 : (m : Int) < (rs.length : Int) := by omega
          obtain ⟨b, off, cap', vv, hv, hbl, c0, c1, hx⟩ := rowsR_at (slR_rows H.out) hm
          simp only [Value.slice.injEq] at hv
          obtain ⟨rfl, _, rfl⟩ := hv
          have HXL := Lib.hid (szL_row HSQ.out hm)
          have HNX := Lib.hid (part_next HLT.out hmod hm)
          have HMD : Hid ((m + n) % n = k) := Lib.hid (by rw [Nat.add_mod_right]; exact hmod)
          have HPL : Hid ((partTo rs n k m).length ≤ 1048576) := Lib.hid (by have := part_len rs n k m; have := HL32.out; omega)
          obtain ⟨xa, xc, rfl⟩ := ints_len hx
          have HX := Lib.hid (ints_slR hx)
          clear hx hmod
          generalize rs.getD m (0, []) = x at *
          obtain ⟨id, xs⟩ := x
          simp only at c0 c1
          change Hid (partTo rs n k m ++ [(id, xs, 0, -1)] = partTo rs n k (m + n)) at HNX
          have C0 := Lib.hid c0
          have C1 := Lib.hid c1
          have HBL := Lib.hid hbl
          have B0 := Lib.hid hr0
          have BX := Lib.hid hr1
          have PF := Lib.hid hpf
          have QF := Lib.hid (fun b (h : R < b ∧ b < Q) => h)
          have PP := Lib.hid (slO_lt tVersion_law hpp)
          have QP := Lib.hid (fun b (h : Q ≤ b ∧ b < wr.heap.size) => h)
          have d := Lib.hid hbel
          have Z0 := Lib.hid hQs
          have Z1 := Lib.hid YQ.out
          have Z2 := Lib.hid Y1.out
          clear c0 c1 hbl hr0 hr1 hpf hpp hbel hQs
          generalize partTo rs n k m = ys at *
          go_wp2
          have p_C0 := (d.out.cell (p := ⟨b, off + m * 2, none⟩) HBL.out).trans C0.out
          have p_C1 := (d.out.cell (p := ⟨b, off + m * 2 + 1, none⟩) HBL.out).trans C1.out
          refine wp_region_held_drew (S := fun w' => w'.cell? ⟨b, off + m * 2, none⟩ = some (Value.int .i64 id) ∧ w'.cell? ⟨b, off + m * 2 + 1, none⟩ = some (Value.slice xa xs.length xc)) (by kernel_rfl) ⟨p_C0, p_C1⟩ (fun hHeld => ?_)
          clear p_C0 p_C1
          have cdr : Below wr.heap.size wr wr.drew := below_drew (Below.refl _ _)
          replace B0 := Lib.hid ((cdr.block w.heap.size (Array.getElem?_eq_some_iff.1 B0.out).1).trans B0.out)
          replace BX := Lib.hid ((cdr.block R (Array.getElem?_eq_some_iff.1 BX.out).1).trans BX.out)
          replace PF := Lib.hid (slO_fresh tVersionS_law PF.out cdr)
          replace PP := Lib.hid (slO_fresh tVersion_law PP.out cdr)
          replace d := Lib.hid (d.out.trans (cdr.mono d.out.size))
          clear cdr
          refine take_runs (i := 0) (v := ?_) (by simp only [List.getElem?_toArray, List.getElem?_cons_succ, List.getElem?_cons_zero]; rfl) (by kernel_rfl) (by kernel_rfl) (by kernel_rfl) rfl (by exact fun _ _ _ h => h) (by rfl) ?_ (by assumption) ?_
          rotate_left
          · intro w hSw; (try dsimp only at hSw); go_simp; try (with_reducible rfl)
          try simp only [Act.put, List.setIfInBounds_toArray, List.set_cons_zero, List.set_cons_succ]
          refine take_runs (i := 1) (v := ?_) (by simp only [List.getElem?_toArray, List.getElem?_cons_succ, List.getElem?_cons_zero]; rfl) (by kernel_rfl) (by kernel_rfl) (by kernel_rfl) rfl (by exact fun _ _ _ h => h) (by rfl) ?_ (by assumption) ?_
          rotate_left
          · intro w hSw; (try dsimp only at hSw); go_simp; try (with_reducible rfl)
          try simp only [Act.put, List.setIfInBounds_toArray, List.set_cons_zero, List.set_cons_succ]
          refine take_runs (i := 2) (v := ?_) (by simp only [List.getElem?_toArray, List.getElem?_cons_succ, List.getElem?_cons_zero]; rfl) (by kernel_rfl) (by kernel_rfl) (by kernel_rfl) rfl (by exact fun _ _ _ h => h) (by rfl) ?_ (by assumption) ?_
          rotate_left
          · intro w hSw; (try dsimp only at hSw); go_simp; try (with_reducible rfl)
          try simp only [Act.put, List.setIfInBounds_toArray, List.set_cons_zero, List.set_cons_succ]
          refine take_runs (i := 3) (v := ?_) (by simp only [List.getElem?_toArray, List.getElem?_cons_succ, List.getElem?_cons_zero]; rfl) (by kernel_rfl) (by kernel_rfl) (by kernel_rfl) rfl (by exact fun _ _ _ h => h) (by rfl) ?_ (by assumption) ?_
          rotate_left
          · intro w hSw; (try dsimp only at hSw); go_simp; try (with_reducible rfl)
          try simp only [Act.put, List.setIfInBounds_toArray, List.set_cons_zero, List.set_cons_succ]
          refine take_runs (i := 4) (v := ?_) (by simp only [List.getElem?_toArray, List.getElem?_cons_succ, List.getElem?_cons_zero]; rfl) (by kernel_rfl) (by kernel_rfl) (by kernel_rfl) rfl (by exact fun _ _ _ h => h) (by rfl) ?_ (by assumption) ?_
          rotate_left
          · intro w hSw; (try dsimp only at hSw); go_simp; try (with_reducible rfl)
          try simp only [Act.put, List.setIfInBounds_toArray, List.set_cons_zero, List.set_cons_succ]
          refine take_runs (i := 5) (v := ?_) (by simp only [List.getElem?_toArray, List.getElem?_cons_succ, List.getElem?_cons_zero]; rfl) (by kernel_rfl) (by kernel_rfl) (by kernel_rfl) rfl (by exact fun _ _ _ h => h) (by rfl) ?_ (by assumption) ?_
          rotate_left
          · intro w hSw; (try dsimp only at hSw); go_simp; try (with_reducible rfl)
          try simp only [Act.put, List.setIfInBounds_toArray, List.set_cons_zero, List.set_cons_succ]
          refine take_runs (i := 7) (v := ?_) (by simp only [List.getElem?_toArray, List.getElem?_cons_succ, List.getElem?_cons_zero]; rfl) (by kernel_rfl) (by kernel_rfl) (by kernel_rfl) rfl (by exact fun _ _ _ h => h) (by rfl) ?_ (by assumption) ?_
          rotate_left
          · intro w hSw; (try dsimp only at hSw); go_simp; try (with_reducible rfl)
          try simp only [Act.put, List.setIfInBounds_toArray, List.set_cons_zero, List.set_cons_succ]
          refine take_runs (i := 8) (v := ?_) (by simp only [List.getElem?_toArray, List.getElem?_cons_succ, List.getElem?_cons_zero]; rfl) (by kernel_rfl) (by kernel_rfl) (by kernel_rfl) rfl (by exact fun _ _ _ h => h) (by rfl) ?_ (by assumption) ?_
          rotate_left
          · intro w hSw; (try dsimp only at hSw); go_simp; try (with_reducible rfl)
          try simp only [Act.put, List.setIfInBounds_toArray, List.set_cons_zero, List.set_cons_succ]
          refine take_runs (i := 9) (v := ?_) (by simp only [List.getElem?_toArray, List.getElem?_cons_succ, List.getElem?_cons_zero]; rfl) (by kernel_rfl) (by kernel_rfl) (by kernel_rfl) rfl (by exact fun _ _ _ h => h) (by rfl) ?_ (by assumption) ?_
          rotate_left
          · intro w hSw; (try dsimp only at hSw); go_simp; try (with_reducible rfl)
          try simp only [Act.put, List.setIfInBounds_toArray, List.set_cons_zero, List.set_cons_succ]
          refine take_runs (i := 10) (v := ?_) (by simp only [List.getElem?_toArray, List.getElem?_cons_succ, List.getElem?_cons_zero]; rfl) (by kernel_rfl) (by kernel_rfl) (by kernel_rfl) rfl (by exact fun _ _ _ h => h) (by rfl) ?_ (by assumption) ?_
          rotate_left
          · intro w hSw; (try dsimp only at hSw); go_simp; try (with_reducible rfl)
          try simp only [Act.put, List.setIfInBounds_toArray, List.set_cons_zero, List.set_cons_succ]
          refine take_runs (i := 11) (v := ?_) (by simp only [List.getElem?_toArray, List.getElem?_cons_succ, List.getElem?_cons_zero]; rfl) (by kernel_rfl) (by kernel_rfl) (by kernel_rfl) rfl (by exact fun _ _ _ h => h) (by rfl) ?_ (by assumption) ?_
          rotate_left
          · intro w hSw; (try dsimp only at hSw); go_simp; try (with_reducible rfl)
          try simp only [Act.put, List.setIfInBounds_toArray, List.set_cons_zero, List.set_cons_succ]
          refine wpAnyH_ready (rs := [6]) (by kernel_rfl) (by simp) ?_
          refine (AllReadyH.cons (o := _) (by simp only [List.getElem?_toArray, List.getElem?_cons_succ, List.getElem?_cons_zero]; rfl) (fun K hK => ?_) AllReadyH.nil)
          go_simp
          have hal : Below wr.heap.size (wr.drew) (wr.alloc (.cells #[] 3)).drew := ⟨rfl, rfl, rfl, by show wr.heap.size ≤ (wr.alloc (.cells #[] 3)).heap.size; simp [World.size_alloc], fun k hk => Below.heap_alloc wr _ k hk⟩
          have Y_i := Lib.hid (show wr.heap.size < (wr.alloc (.cells #[] 3)).drew.heap.size by show wr.heap.size < (wr.alloc (.cells #[] 3)).heap.size; simp [World.size_alloc])
          replace B0 := Lib.hid ((hal.block w.heap.size (Array.getElem?_eq_some_iff.1 B0.out).1).trans B0.out)
          replace BX := Lib.hid ((hal.block R (Array.getElem?_eq_some_iff.1 BX.out).1).trans BX.out)
          replace PF := Lib.hid (slO_fresh tVersionS_law PF.out hal)
          replace PP := Lib.hid (slO_fresh tVersion_law PP.out hal)
          replace d := Lib.hid (d.out.trans (hal.mono d.out.size))
          have PI := Lib.hid (slO_fresh tInt_law (slO_empty (T := tInt) wr 3 (fun b => b = wr.heap.size) rfl) (below_drew (Below.refl _ _)))
          have QI := Lib.hid (fun b (h : b = wr.heap.size) => h)
          clear hal
          generalize (wr.alloc (.cells #[] 3)).drew = V1 at *
          have p_C0 := (d.out.cell (p := ⟨b, off + m * 2, none⟩) HBL.out).trans C0.out
          have p_C1 := (d.out.cell (p := ⟨b, off + m * 2 + 1, none⟩) HBL.out).trans C1.out
          refine hK.out _ _ ⟨p_C0, p_C1⟩ (fun hHeld => ?_)
          clear p_C0 p_C1
          clear hK K
          try simp only [Act.put, List.setIfInBounds_toArray, List.set_cons_zero, List.set_cons_succ]
          refine wpAnyH_ready (rs := [12]) (by kernel_rfl) (by simp) ?_
          refine (AllReadyH.cons (o := _) (by simp only [List.getElem?_toArray, List.getElem?_cons_succ, List.getElem?_cons_zero]; rfl) (fun K hK => ?_) AllReadyH.nil)
          refine step_append_flat tInt_law flat_int info_T_int Try.underlying22 rfl rfl (.tmp 47) (.tmp 52) rfl (fun b => b = wr.heap.size) (fun b => (fun b => b = wr.heap.size) b ∨ b = V1.heap.size) _ _ [] xs rfl rfl PI.out (slR_below tInt_law HX.out d.out) (fun b h => Or.inl h) (Or.inr rfl) (by have := HXL.out; simp; omega) ?_
          intro u V2 oB tB
          rw [List.nil_append] at oB
          obtain ⟨ua, uc, rfl⟩ := slO_len oB
          have y0 := Z0.out
          have y1 := Z1.out
          have y2 := Z2.out
          have y3 := Y_i.out
          have yd : w.heap.size ≤ V1.heap.size := d.out.size
          replace B0 := Lib.hid ((tB.block w.heap.size (Array.getElem?_eq_some_iff.1 B0.out).1 (fun h => by have r2 := QI.out _ h; omega)).trans B0.out)
          replace BX := Lib.hid ((tB.block R (Array.getElem?_eq_some_iff.1 BX.out).1 (fun h => by have r2 := QI.out _ h; omega)).trans BX.out)
          replace PF := Lib.hid (slO_turn tVersionS_law PF.out tB (fun b h1 h2 => by have r1 := QF.out b h1; have r2 := QI.out _ h2; omega))
          replace PP := Lib.hid (slO_turn tVersion_law PP.out tB (fun b h1 h2 => by have r1 := QP.out b h1; have r2 := QI.out _ h2; omega))
          replace d := Lib.hid (below_turn d.out tB (fun b h => by have r2 := QI.out _ h; omega) (by omega))
          have Z_V2 := Lib.hid (show V1.heap.size ≤ V2.heap.size from tB.size)
          clear yd y0 y1 y2 y3
          replace PI := Lib.hid (slO_lt tInt_law oB)
          replace QI := Lib.hid (fun b (h : ((fun b => b = wr.heap.size) b ∨ b = V1.heap.size) ∧ b < V2.heap.size) => (show (b = wr.heap.size ∨ b = V1.heap.size) ∧ b < V2.heap.size from h))
          clear oB tB
          have p_C0 := (d.out.cell (p := ⟨b, off + m * 2, none⟩) HBL.out).trans C0.out
          have p_C1 := (d.out.cell (p := ⟨b, off + m * 2 + 1, none⟩) HBL.out).trans C1.out
          refine hK.out _ _ ⟨p_C0, p_C1⟩ (fun hHeld => ?_)
          clear p_C0 p_C1
          clear hK K
          try simp only [Act.put, List.setIfInBounds_toArray, List.set_cons_zero, List.set_cons_succ]
          refine take_runs (i := 13) (v := ?_) (by simp only [List.getElem?_toArray, List.getElem?_cons_succ, List.getElem?_cons_zero]; rfl) (by kernel_rfl) (by kernel_rfl) (by kernel_rfl) rfl (by exact fun _ _ _ h => h) (by rfl) ?_ (by assumption) ?_
          rotate_left
          · intro w hSw; (try dsimp only at hSw); go_simp; try (with_reducible rfl)
          try simp only [Act.put, List.setIfInBounds_toArray, List.set_cons_zero, List.set_cons_succ]
          refine wpAnyH_ready (rs := [14]) (by kernel_rfl) (by simp) ?_
          refine (AllReadyH.cons (o := _) (by simp only [List.getElem?_toArray, List.getElem?_cons_succ, List.getElem?_cons_zero]; rfl) (fun K hK => ?_) AllReadyH.nil)
          go_simp
          have hal : Below V2.heap.size V2 (V2.alloc (.cells #[.int .i64 id, .slice ua xs.length uc, .int .i64 0, .int .i64 (-1)] 88)) := (Below.refl _ _).alloc (Nat.le_refl _) _
          have KB0 := B0
          have KBX := BX
          have KPF := PF
          have KPP := PP
          have KPI := PI
          have Kd := d
          replace B0 := Lib.hid ((hal.block w.heap.size (Array.getElem?_eq_some_iff.1 B0.out).1).trans B0.out)
          replace BX := Lib.hid ((hal.block R (Array.getElem?_eq_some_iff.1 BX.out).1).trans BX.out)
          replace PF := Lib.hid (slO_fresh tVersionS_law PF.out hal)
          replace PP := Lib.hid (slO_fresh tVersion_law PP.out hal)
          replace PI := Lib.hid (slO_fresh tInt_law PI.out hal)
          replace d := Lib.hid (d.out.trans (hal.mono d.out.size))
          clear hal
          have p_C0 := (d.out.cell (p := ⟨b, off + m * 2, none⟩) HBL.out).trans C0.out
          have p_C1 := (d.out.cell (p := ⟨b, off + m * 2 + 1, none⟩) HBL.out).trans C1.out
          refine hK.out _ _ ⟨p_C0, p_C1⟩ (fun hHeld => ?_)
          clear p_C0 p_C1
          clear hK K
          try simp only [Act.put, List.setIfInBounds_toArray, List.set_cons_zero, List.set_cons_succ]
          refine wpAnyH_ready (rs := [15]) (by kernel_rfl) (by simp) ?_
          refine (AllReadyH.cons (o := _) (by simp only [List.getElem?_toArray, List.getElem?_cons_succ, List.getElem?_cons_zero]; rfl) (fun K hK => ?_) AllReadyH.nil)
          have y0 := Z0.out
          have y1 := Z1.out
          have y2 := Z2.out
          have y3 := Y_i.out
          have y4 := Z_V2.out
          have yd : w.heap.size ≤ V2.heap.size := Kd.out.size
          have hD : wr.heap.size ≤ V2.heap.size := by omega
          have hnew : tVersion.O V2 (fun b => wr.heap.size ≤ b) [.int .i64 id, .slice ua xs.length uc, .int .i64 0, .int .i64 (-1)] (id, xs, 0, -1) := tVersion_mkO KPI.out (fun b h => by have r1 := QI.out b h; show wr.heap.size ≤ b; omega)
          refine step_append_T tVersion_law info_T_Version Try.underlying89 rfl rfl (.tmp 41) (.tmp 55) rfl (fun b => Q ≤ b) (wr.heap.size) _ (ys) rfl KPP.out hD (fun b hb => by show Q ≤ b; omega) (by have := HPL.out; omega) [.int .i64 id, .slice ua xs.length uc, .int .i64 0, .int .i64 (-1)] (id, xs, 0, -1) hnew (by simp [Value.oneCell']) 1 _ rfl rfl ?_
          intro v' V3 oN tN
          replace B0 := Lib.hid ((tN.block w.heap.size (Array.getElem?_eq_some_iff.1 KB0.out).1 (fun h => by have r : Q ≤ w.heap.size := h.1; omega)).trans KB0.out)
          replace BX := Lib.hid ((tN.block R (Array.getElem?_eq_some_iff.1 KBX.out).1 (fun h => by have r : Q ≤ R := h.1; omega)).trans KBX.out)
          replace PF := Lib.hid (slO_turn tVersionS_law KPF.out tN (fun b h1 h2 => by have r1 := QF.out b h1; have r2 : Q ≤ b := h2.1; omega))
          replace d := Lib.hid (below_turn Kd.out tN (fun b h => by have r : Q ≤ b := h.1; show w.heap.size ≤ b; omega) yd)
          have zN := Lib.hid (show V2.heap.size ≤ V3.heap.size from tN.size)
          rw [HNX.out] at oN
          have PPN := Lib.hid oN
          clear hnew hD oN tN yd PI KPI KB0 KBX KPF KPP Kd PP y0 y1 y2 y3 y4
          have p_C0 := (d.out.cell (p := ⟨b, off + m * 2, none⟩) HBL.out).trans C0.out
          have p_C1 := (d.out.cell (p := ⟨b, off + m * 2 + 1, none⟩) HBL.out).trans C1.out
          refine hK.out _ _ ⟨p_C0, p_C1⟩ (fun hHeld => ?_)
          clear p_C0 p_C1
          clear hK K
          try simp only [Act.put, List.setIfInBounds_toArray, List.set_cons_zero, List.set_cons_succ]
          refine take_runs (i := 16) (v := ?_) (by simp only [List.getElem?_toArray, List.getElem?_cons_succ, List.getElem?_cons_zero]; rfl) (by kernel_rfl) (by kernel_rfl) (by kernel_rfl) rfl (by exact fun _ _ _ h => h) (by rfl) ?_ (by assumption) ?_
          rotate_left
          · intro w hSw; (try dsimp only at hSw); go_simp; try (with_reducible rfl)
          try simp only [Act.put, List.setIfInBounds_toArray, List.set_cons_zero, List.set_cons_succ]
          refine wpAnyH_done (by kernel_rfl) ?_ _
          clear hHeld
          have y0 := Z0.out
          have y1 := Z1.out
          have y2 := Z2.out
          have y3 := Y_i.out
          have y4 := Z_V2.out
          have y5 := zN.out
          have z9 : Q < V3.heap.size := by omega
          have Z9 := Lib.hid z9
          clear z9 y0 y1 y2 y3 y4 y5
          go_wp2
          go_roundw
          case rel => exact ⟨m + n, by go_num, HMD.out, by omega, B0.out, BX.out, PF.out, PPN.out, d.out, Z9.out⟩
          case measure => have := HN1.out; simp [intOf]; omega
        · have HPE := Lib.hid (part_end (rs := rs) (n := n) (i := k) (k := m) (by omega))
          have PP := Lib.hid hpp
          have PF := Lib.hid hpf
          have B0 := Lib.hid hr0
          have BX := Lib.hid hr1
          have d := Lib.hid hbel
          have ZQ := Lib.hid hQs
          have HDM : Hid (dealTo rs n k rs.length ++ [partTo rs n k m] = dealTo rs n (k + 1) rs.length) := Lib.hid (by rw [HPE.out]; exact deal_more rs n k rs.length)
          have HDL : Hid ((dealTo rs n k rs.length).length ≤ 1048576) := Lib.hid (by rw [deal_len]; omega)
          have cx := (cell_of_row wr _ 0 _ _ _ hr1).trans (show _ = some (Value.slice fa k fc) from rfl)
          have hmi : ¬ (m : Int) < (rs.length : Int) := by omega
          clear hpp hpf hr0 hr1 hbel hQs hmod HPE hm
          go_wp2_with (at_builtin; refine append_T tVersionS_law info_T_VersionS Try.underlying39 rfl rfl (.tmp 58) (.tmp 60) rfl (fun b => R < b) Q _ (dealTo rs n k rs.length) rfl PF.out (Nat.le_of_lt ZQ.out) (fun b hb => Nat.lt_of_lt_of_le YQ.out hb) HDL.out [.slice pa (partTo rs n k m).length pc] (partTo rs n k m) ⟨_, rfl, PP.out⟩ (by simp [Value.oneCell']) 1 _ rfl rfl ?_)
          intro v' w6 o6 t6
          rw [HDM.out] at o6
          obtain ⟨ga, gc, hv⟩ := slO_len o6
          rw [deal_len] at hv
          subst hv
          have y0 := ZQ.out
          have y1 := YQ.out
          have y2 := Y1.out
          have y3 := d.out.size
          have k0 := (t6.block w.heap.size (by omega) (fun h => by have r : R < w.heap.size := h.1; omega)).trans B0.out
          have kx := (t6.block R (by omega) (fun h => by have r : R < R := h.1; omega)).trans BX.out
          have d6 := below_turn d.out t6 (fun b h => by have r : R < b := h.1; omega) y3
          have z6 := t6.size
          have cx1 := (cell_of_row w6 _ 0 _ _ _ kx).trans (show _ = some (Value.slice fa k fc) from rfl)
          have fx1 := frozen_of_row w6 _ 0 _ _ kx
          clear cx PP PF B0 BX d t6
          go_wp2
          have tt : Turn (fun b => b = R) w6 (w6.setCell ⟨R, 0, none⟩ (.slice ga (k + 1) gc)) := turn_set (G := fun b => b = R) (g := R) (j := 0) (u := .slice ga (k + 1) gc) rfl
          have r := heap_setCell_same w6 R 0 _ _ (.slice ga (k + 1) gc) kx
          have q1 : (w6.setCell ⟨R, 0, none⟩ (.slice ga (k + 1) gc)).heap[R]? = some (.cells #[.slice ga (k + 1) gc, .int .i64 0] 41 (0, 0)) := by simpa using r
          have q0 := (tt.block w.heap.size (by omega) (fun h => by omega)).trans k0
          have q2 := slO_turn tVersionS_law o6 tt (fun b h1 h2 => by have h3 : R < b := h1; omega)
          have q3 := below_turn d6 tt (fun b h => by omega) d6.size
          have q4 : R < (w6.setCell ⟨R, 0, none⟩ (.slice ga (k + 1) gc)).heap.size := Nat.lt_of_lt_of_le (by omega) tt.size
          go_roundw
          case rel => exact ⟨k + 1, _, by omega, by go_num, q0, q1, q2, q3, q4⟩
          case measure => simp [intOf]; omega
    · obtain rfl : k = n := by omega
      have cx0 := (cell_of_row wr _ 0 _ _ _ hr1).trans (show _ = some (Value.slice fa k fc) from rfl)
      have cx1 := (cell_of_row wr _ 1 _ _ _ hr1).trans (show _ = some (Value.int .i64 0) from rfl)
      have k0 := hr0
  
      have c0 := cell_of_row wr _ 0 _ _ _ k0
      have c1 := cell_of_row wr _ 1 _ _ _ k0
      simp at c0 c1
      have f0 := frozen_of_row wr _ 0 _ _ k0
      have f1 := frozen_of_row wr _ 1 _ _ k0
      have tt : Turn (fun b => b = w.heap.size) wr ((wr.setCell ⟨w.heap.size, 0, none⟩ (.slice fa k fc)).setCell ⟨w.heap.size, 1, none⟩ (.int .i64 0)) := ((Turn.refl (fun b => b = w.heap.size) _).trans (turn_set (G := fun b => b = w.heap.size) (g := w.heap.size) (j := 0) (u := .slice fa k fc) rfl)).trans (turn_set (G := fun b => b = w.heap.size) (g := w.heap.size) (j := 1) (u := .int .i64 0) rfl)
      have r := heap_setCell_same _ w.heap.size 1 _ _ (.int .i64 0) (heap_setCell_same wr w.heap.size 0 _ _ (.slice fa k fc) k0)
      have e0 := cell_of_row _ _ 0 _ _ _ r
      have e1 := cell_of_row _ _ 1 _ _ _ r
      simp at e0 e1
      have D := Lib.hid (below_turn hbel tt (fun b h => by omega) hbel.size)
      have P1 := Lib.hid (slO_turn tVersionS_law hpf tt (fun b h1 h2 => by have h3 : R < b := h1; have := Y1.out; omega))
      clear r k0 tt hpf hbel hr0 hr1
      go_wp2
      refine bodyPost_ret (v := .tuple #[.agg #[.slice fa k fc, .int .i64 0], .bool true]) ?_ rfl ?_
      · simp [results, Try.f34, go_sem, e0, e1]
      · exact ⟨[.slice fa k fc, .int .i64 0], fun b => R < b, rfl, tStore_mkO P1.out (fun b h => h), fun b h => by have h3 : R < b := h; have := Y1.out; omega, D.out⟩
end Go.Proofs.Ythiiaiholcfhhaa
namespace Go.Proofs.Ythiiaiholcfhhaa
open Go.RowKit
set_option linter.unusedVariables false
set_option linter.unusedSimpArgs false
theorem rowB_three {r : RowD} (h : rowB r = true) : r.2.length = 3 := by
  unfold rowB at h
  rw [Bool.and_eq_true, Bool.and_eq_true] at h
  exact of_decide_eq_true h.2.2
theorem sum_le_mul {c : Nat} : ∀ {l : List Nat}, (∀ x ∈ l, x ≤ c) → l.sum ≤ c * l.length
  | [], _ => by simp
  | x :: l, h => by
    have h1 := h x (by simp)
    have h2 := sum_le_mul (l := l) (c := c) (fun y hy => h y (by simp [hy]))
    simp only [List.sum_cons, List.length_cons, Nat.mul_add, Nat.mul_one]
    omega
theorem zL_threes {l : List VerD} (h : ∀ j, j < l.length → (l.getD j v0D).2.1.length ≤ 3) : zL tVersion l ≤ 4 * l.length := by
  rw [zL_sum]
  have := sum_le_mul (c := 3) (l := l.map tVersion.sz) (fun x hx => by
    obtain ⟨v, hv, rfl⟩ := List.mem_map.1 hx
    obtain ⟨j, hj, rfl⟩ := List.getElem_of_mem hv
    rw [ver_sz]
    have := h j hj
    simpa [List.getD, hj] using this)
  rw [List.length_map] at this
  omega
theorem areB_three {rs : List RowD} (h : areB rs = true) {k : Nat} (hk : k < rs.length) : (rs.getD k (0, [])).2.length = 3 := by
  unfold areB at h
  rw [Bool.and_eq_true, List.all_eq_true] at h
  have := h.1 k (List.mem_range.2 hk)
  rw [Bool.and_eq_true] at this
  exact rowB_three this.1
theorem part_small {rs : List RowD} (h : areB rs = true) (n i k : Nat) : zL tVersion (partTo rs n i k) ≤ 4 * k := by
  have h1 := zL_threes (l := partTo rs n i k) (fun j hj => by
    have hm : (partTo rs n i k).getD j v0D ∈ partTo rs n i k := by
      have e : (partTo rs n i k).getD j v0D = (partTo rs n i k)[j] := by simp [List.getD, hj]
      rw [e]; exact List.getElem_mem _
    unfold partTo at hm
    obtain ⟨q, hq, e⟩ := List.mem_map.1 hm
    have hl := (List.mem_filter.1 hq).2
    rw [decide_eq_true_eq] at hl
    show ((partTo rs n i k).getD j v0D).2.1.length ≤ 3
    unfold partTo
    rw [← e]
    exact Nat.le_of_eq (areB_three h hl.2))
  have h2 := part_len rs n i k
  omega
theorem new_size (rs : List RowD) (g : Int) : tStore.sz (newB rs g).1 ≤ 1048576 := by
  by_cases h : newP rs g
  · unfold newB
    rw [if_pos h]
    show tStore.sz (dealTo rs g.toNat g.toNat rs.length, 0) ≤ 1048576
    rw [tStore_sz, zL_sum]
    obtain ⟨h1, h2, h3⟩ := h
    have := sum_le_mul (c := 128) (l := (dealTo rs g.toNat g.toNat rs.length).map tVersionS.sz) (fun x hx => by
      obtain ⟨s, hs, rfl⟩ := List.mem_map.1 hx
      unfold dealTo at hs
      obtain ⟨i, _, rfl⟩ := List.mem_map.1 hs
      have := part_small h1 g.toNat i rs.length
      show zL tVersion (partTo rs g.toNat i rs.length) ≤ 128
      omega)
    rw [List.length_map, deal_len] at this
    rw [deal_len]
    omega
  · rw [new_no h]
    show tStore.sz ([], 0) ≤ 1048576
    rw [tStore_sz]
    exact Nat.zero_le _
end Go.Proofs.Ythiiaiholcfhhaa
namespace Go.Proofs.Ythiiaiholcfhhaa
open Go.RowKit
set_option linter.unusedVariables false
set_option linter.unusedSimpArgs false
/-- The record of a row. -/
def recV (id : Int) (xs : List Int) : Value := .agg #[.int .i64 id, .int .i64 xs.length, .int .i64 (xs.getD 0 0), .int .i64 (xs.getD 1 0), .int .i64 (xs.getD 2 0)]
theorem info_size {P : Program} {e : TypeId} {z : Option Value} {n b : Nat} (h : (P.info? e).map (fun i => (i.zero, i.size, i.bytes)) = some (z, n, b)) : (P.info? e).map (·.size) = some n := by
  cases hq : P.info? e with
  | none => rw [hq] at h; simp at h
  | some i => rw [hq] at h; simp at h; simp [h.2.1]
theorem copy_src {w : World} {a : Option Addr} {cap g : Nat} {xs : List Int} (h : Ints w (.slice a xs.length cap) xs) : 0 < ((xs.take 3).map (Value.int .i64)).length → (some ⟨g, 2, none⟩ : Option Addr) = some ⟨g, 2, none⟩ ∧ ∃ ad, a = some ad ∧ ∀ j v, ((xs.take 3).map (Value.int .i64))[j]? = some v → w.cell? (ad.add j) = some v := by
  intro h0
  refine ⟨rfl, ?_⟩
  rcases h with ⟨rfl, _⟩ | ⟨b, off, cap', e, _, _, hc⟩
  · simp at h0
  · simp only [Value.slice.injEq] at e
    obtain ⟨rfl, _, _⟩ := e
    refine ⟨_, rfl, fun j v hj => ?_⟩
    rw [Go.WideShapes.add_plain]
    rw [List.getElem?_map, List.getElem?_take] at hj
    by_cases hlt : j < 3
    · rw [if_pos hlt] at hj
      by_cases hl : j < xs.length
      · rw [hc j hl]
        rw [List.getElem?_eq_getElem hl] at hj
        simpa [List.getD, hl] using hj
      · rw [List.getElem?_eq_none (by omega)] at hj
        simp at hj
    · rw [if_neg hlt] at hj
      simp at hj
theorem splice_rec (a b : Value) (xs : List Int) : splice [a, b, .int .i64 0, .int .i64 0, .int .i64 0] 2 ((xs.take 3).map (Value.int .i64)) = [a, b, .int .i64 (xs.getD 0 0), .int .i64 (xs.getD 1 0), .int .i64 (xs.getD 2 0)] := by
  match xs with
  | [] => rfl
  | [x] => rfl
  | [x, y] => rfl
  | x :: y :: z :: r => rfl
set_option maxHeartbeats 4000000 in
set_option maxRecDepth 100000 in
theorem recordOf_any (id : Int) (vv : Value) (xs : List Int) (w : World) (h : Ints w vv xs) (hn : xs.length ≤ 1048576) :
    Calls Try.prog 106 #[.agg #[.int .i64 id, vv]] w fun e w' => e = .returned (recV id xs) ∧ Below w.heap.size w w' := by
  have H := Lib.hid h
  have HN := Lib.hid hn
  obtain ⟨va, vcap, rfl⟩ := ints_len h
  clear h hn
  go_enter Try.func106, Try.ntmps106
  go_wp2
  have hh : Below w.heap.size w (((w.alloc (.cells #[.int .i64 id, .slice va xs.length vcap] 29)).alloc (.cells #[.int .i64 0, .int .i64 0, .int .i64 0, .int .i64 0, .int .i64 0] 154)).alloc (.cells #[.int .i64 id, .int .i64 xs.length, .int .i64 0, .int .i64 0, .int .i64 0] 154)) := (((Below.refl _ w).alloc (Nat.le_refl _) _).alloc (by simp) _).alloc (by simp; omega) _
  have g2 : (((w.alloc (.cells #[.int .i64 id, .slice va xs.length vcap] 29)).alloc (.cells #[.int .i64 0, .int .i64 0, .int .i64 0, .int .i64 0, .int .i64 0] 154)).alloc (.cells #[.int .i64 id, .int .i64 xs.length, .int .i64 0, .int .i64 0, .int .i64 0] 154)).heap[w.heap.size + 2]? = some (.cells #[.int .i64 id, .int .i64 xs.length, .int .i64 0, .int .i64 0, .int .i64 0] 154 (0, 0)) := by
    have := heap_alloc_new ((w.alloc (.cells #[.int .i64 id, .slice va xs.length vcap] 29)).alloc (.cells #[.int .i64 0, .int .i64 0, .int .i64 0, .int .i64 0, .int .i64 0] 154)) (.cells #[.int .i64 id, .int .i64 xs.length, .int .i64 0, .int .i64 0, .int .i64 0] 154)
    simpa only [World.size_alloc] using this
  have g1 : (((w.alloc (.cells #[.int .i64 id, .slice va xs.length vcap] 29)).alloc (.cells #[.int .i64 0, .int .i64 0, .int .i64 0, .int .i64 0, .int .i64 0] 154)).alloc (.cells #[.int .i64 id, .int .i64 xs.length, .int .i64 0, .int .i64 0, .int .i64 0] 154)).heap[w.heap.size + 1]? = some (.cells #[.int .i64 0, .int .i64 0, .int .i64 0, .int .i64 0, .int .i64 0] 154 (0, 0)) := by
    rw [Below.heap_alloc _ _ _ (by simp)]
    have := heap_alloc_new (w.alloc (.cells #[.int .i64 id, .slice va xs.length vcap] 29)) (.cells #[.int .i64 0, .int .i64 0, .int .i64 0, .int .i64 0, .int .i64 0] 154)
    simpa only [World.size_alloc] using this
  have g0 : (((w.alloc (.cells #[.int .i64 id, .slice va xs.length vcap] 29)).alloc (.cells #[.int .i64 0, .int .i64 0, .int .i64 0, .int .i64 0, .int .i64 0] 154)).alloc (.cells #[.int .i64 id, .int .i64 xs.length, .int .i64 0, .int .i64 0, .int .i64 0] 154)).heap[w.heap.size]? = some (.cells #[.int .i64 id, .slice va xs.length vcap] 29 (0, 0)) := by
    rw [Below.heap_alloc _ _ _ (by simp; omega), Below.heap_alloc _ _ _ (by simp)]
    exact heap_alloc_new w _
  have hs : (((w.alloc (.cells #[.int .i64 id, .slice va xs.length vcap] 29)).alloc (.cells #[.int .i64 0, .int .i64 0, .int .i64 0, .int .i64 0, .int .i64 0] 154)).alloc (.cells #[.int .i64 id, .int .i64 xs.length, .int .i64 0, .int .i64 0, .int .i64 0] 154)).heap.size = w.heap.size + 3 := by simp [World.size_alloc]
  generalize (((w.alloc (.cells #[.int .i64 id, .slice va xs.length vcap] 29)).alloc (.cells #[.int .i64 0, .int .i64 0, .int .i64 0, .int .i64 0, .int .i64 0] 154)).alloc (.cells #[.int .i64 id, .int .i64 xs.length, .int .i64 0, .int .i64 0, .int .i64 0] 154)) = W at *
  have b0 := cell_of_row W _ 1 _ _ _ g0
  simp at b0
  have I2 := ints_below H.out hh
  refine wp_region_held_drew (S := fun w' => w'.cell? ⟨w.heap.size, 1, none⟩ = some (.slice va xs.length vcap)) (by kernel_rfl) b0 (fun hHeld => ?_)
  refine take_runs (i := 0) (v := ?_) (by simp only [List.getElem?_toArray, List.getElem?_cons_succ, List.getElem?_cons_zero]; rfl) (by kernel_rfl) (by kernel_rfl) (by kernel_rfl) rfl (by exact fun _ _ _ h => h) (by rfl) ?_ (by assumption) ?_
  rotate_left
  · intro w hSw; (try dsimp only at hSw); go_simp; try (with_reducible rfl)
  try simp only [Act.put, List.setIfInBounds_toArray, List.set_cons_zero, List.set_cons_succ]
  refine take_runs (i := 1) (v := ?_) (by simp only [List.getElem?_toArray, List.getElem?_cons_succ, List.getElem?_cons_zero]; rfl) (by kernel_rfl) (by kernel_rfl) (by kernel_rfl) rfl (by exact fun _ _ _ h => h) (by rfl) ?_ (by assumption) ?_
  rotate_left
  · intro w hSw; (try dsimp only at hSw); go_simp; try (with_reducible rfl)
  try simp only [Act.put, List.setIfInBounds_toArray, List.set_cons_zero, List.set_cons_succ]
  refine take_runs (i := 2) (v := ?_) (by simp only [List.getElem?_toArray, List.getElem?_cons_succ, List.getElem?_cons_zero]; rfl) (by kernel_rfl) (by kernel_rfl) (by kernel_rfl) rfl (by exact fun _ _ _ h => h) (by rfl) ?_ (by assumption) ?_
  rotate_left
  · intro w hSw; (try dsimp only at hSw); go_simp; try (with_reducible rfl)
  try simp only [Act.put, List.setIfInBounds_toArray, List.set_cons_zero, List.set_cons_succ]
  refine take_runs (i := 3) (v := ?_) (by simp only [List.getElem?_toArray, List.getElem?_cons_succ, List.getElem?_cons_zero]; rfl) (by kernel_rfl) (by kernel_rfl) (by kernel_rfl) rfl (by exact fun _ _ _ h => h) (by rfl) ?_ (by assumption) ?_
  rotate_left
  · intro w hSw; (try dsimp only at hSw); go_simp; try (with_reducible rfl)
  try simp only [Act.put, List.setIfInBounds_toArray, List.set_cons_zero, List.set_cons_succ]
  refine wpAnyH_ready (rs := [4]) (by kernel_rfl) (by simp) ?_
  refine AllReadyH.cons (o := _) (by simp only [List.getElem?_toArray, List.getElem?_cons_succ, List.getElem?_cons_zero]; rfl) (fun K hK => ?_) AllReadyH.nil
  refine step_copy_splice rfl (.tmp 11) (.tmp 13) 22 22 rfl 3 Try.underlying22 (info_size Try.infoI64) _ _ _ _ _ _ rfl rfl (w.heap.size + 2) 2 [.int .i64 id, .int .i64 xs.length, .int .i64 0, .int .i64 0, .int .i64 0] _ g2 ((xs.take 3).map (Value.int .i64)) (by simp [Nat.min_comm]) (copy_src I2) (by simp; omega) (fun u hu => by obtain ⟨y, _, rfl⟩ := List.mem_map.1 hu; rfl) (w.heap.size + 2) W (below_drew (Below.refl _ W)) (Nat.le_refl _) ?_
  intro W2 G2 bA
  rw [splice_rec] at G2
  have k0 := (bA.block w.heap.size (by omega)).trans g0
  have b1 := cell_of_row W2 _ 1 _ _ _ k0
  simp at b1
  refine hK.out _ _ b1 (fun hHeld2 => ?_)
  clear hK K hHeld
  try simp only [Act.put, List.setIfInBounds_toArray, List.set_cons_zero, List.set_cons_succ]
  refine wpAnyH_done (by kernel_rfl) ?_ _
  have k1 := (bA.block (w.heap.size + 1) (by omega)).trans g1
  have k2 := G2.out
  have hbb := hh.trans (bA.mono (by omega))
  clear G2 bA g0 g1 g2 I2 hHeld2 b0 b1 k0 hh hs
  obtain ⟨n, hn2⟩ : ∃ n : Nat, n = xs.length := ⟨_, rfl⟩
  have c0 := cell_of_row W2 _ 0 _ _ _ k2
  have d0 := cell_of_row W2 _ 0 _ _ _ k1
  have f0 := frozen_of_row W2 _ 0 _ _ k1
  have c1 := cell_of_row W2 _ 1 _ _ _ k2
  have d1 := cell_of_row W2 _ 1 _ _ _ k1
  have f1 := frozen_of_row W2 _ 1 _ _ k1
  have c2 := cell_of_row W2 _ 2 _ _ _ k2
  have d2 := cell_of_row W2 _ 2 _ _ _ k1
  have f2 := frozen_of_row W2 _ 2 _ _ k1
  have c3 := cell_of_row W2 _ 3 _ _ _ k2
  have d3 := cell_of_row W2 _ 3 _ _ _ k1
  have f3 := frozen_of_row W2 _ 3 _ _ k1
  have c4 := cell_of_row W2 _ 4 _ _ _ k2
  have d4 := cell_of_row W2 _ 4 _ _ _ k1
  have f4 := frozen_of_row W2 _ 4 _ _ k1
  simp at c0 c1 c2 c3 c4 d0 d1 d2 d3 d4
  clear k2 hn2
  generalize hx0 : xs[0]?.getD 0 = x0 at c2
  generalize hx1 : xs[1]?.getD 0 = x1 at c3
  generalize hx2 : xs[2]?.getD 0 = x2 at c4
  have HX := Lib.hid (And.intro hx0 (And.intro hx1 hx2))
  clear hx0 hx1 hx2
  go_wp2
  have r0 := heap_setCell_same W2 (w.heap.size + 1) 0 _ _ (.int .i64 id) k1
  have r1 := heap_setCell_same _ (w.heap.size + 1) 1 _ _ (.int .i64 xs.length) r0
  have r2 := heap_setCell_same _ (w.heap.size + 1) 2 _ _ (.int .i64 x0) r1
  have r3 := heap_setCell_same _ (w.heap.size + 1) 3 _ _ (.int .i64 x1) r2
  have r4 := heap_setCell_same _ (w.heap.size + 1) 4 _ _ (.int .i64 x2) r3
  have B4 := (((((hbb.setCell (p := ⟨w.heap.size + 1, 0, none⟩) (by simp) (.int .i64 id)).setCell (p := ⟨w.heap.size + 1, 1, none⟩) (by simp) (.int .i64 xs.length)).setCell (p := ⟨w.heap.size + 1, 2, none⟩) (by simp) (.int .i64 x0)).setCell (p := ⟨w.heap.size + 1, 3, none⟩) (by simp) (.int .i64 x1)).setCell (p := ⟨w.heap.size + 1, 4, none⟩) (by simp) (.int .i64 x2))
  clear r0 r1 r2 r3 k1
  have e0 := cell_of_row _ _ 0 _ _ _ r4
  have e1 := cell_of_row _ _ 1 _ _ _ r4
  have e2 := cell_of_row _ _ 2 _ _ _ r4
  have e3 := cell_of_row _ _ 3 _ _ _ r4
  have e4 := cell_of_row _ _ 4 _ _ _ r4
  simp at e0 e1 e2 e3 e4
  clear r4
  refine bodyPost_ret (v := .agg #[.int .i64 id, .int .i64 xs.length, .int .i64 x0, .int .i64 x1, .int .i64 x2]) ?_ rfl ?_
  · simp [results, Try.f106, go_sem, e0, e1, e2, e3, e4]
  · obtain ⟨rfl, rfl, rfl⟩ := HX.out
    exact ⟨by simp [recV], B4⟩
end Go.Proofs.Ythiiaiholcfhhaa
namespace Go.Proofs.Ythiiaiholcfhhaa
open Go.RowKit
set_option linter.unusedVariables false
set_option linter.unusedSimpArgs false
/-- A value moved into the range. -/
def limI (x : Int) : Int := min (max x 0) 99
theorem idx0 (a b c : Int) (w : World) : Sem.run Try.prog (Instr.index 152 (.agg #[.int .i64 a, .int .i64 b, .int .i64 c]) (.int .i64 0)) w = .ok (.int .i64 a) w := by
  have u := Try.underlying152
  have z := Try.sizeOf3
  have g := Try.isAgg3
  unfold Instr.index
  go_simp
theorem idx1 (a b c : Int) (w : World) : Sem.run Try.prog (Instr.index 152 (.agg #[.int .i64 a, .int .i64 b, .int .i64 c]) (.int .i64 1)) w = .ok (.int .i64 b) w := by
  have u := Try.underlying152
  have z := Try.sizeOf3
  have g := Try.isAgg3
  unfold Instr.index
  go_simp
theorem idx2 (a b c : Int) (w : World) : Sem.run Try.prog (Instr.index 152 (.agg #[.int .i64 a, .int .i64 b, .int .i64 c]) (.int .i64 2)) w = .ok (.int .i64 c) w := by
  have u := Try.underlying152
  have z := Try.sizeOf3
  have g := Try.isAgg3
  unfold Instr.index
  go_simp
set_option maxHeartbeats 4000000 in
set_option maxRecDepth 100000 in
theorem limited_any (a b c : Int) (w : World) :
    Calls Try.prog 117 #[.agg #[.int .i64 a, .int .i64 b, .int .i64 c]] w fun e w' => e = .returned (.agg #[.int .i64 (limI a), .int .i64 (limI b), .int .i64 (limI c)]) ∧ Below w.heap.size w w' := by
  have i0 := idx0 a b c
  have i1 := idx1 a b c
  have i2 := idx2 a b c
  go_enter Try.func117, Try.ntmps117
  go_wp2
  refine wp_loop_rounds 4 ?_
  rw [rounds_succ]
  go_wp2
  rw [rounds_succ]
  go_wp2
  rw [rounds_succ]
  go_wp2
  rw [rounds_succ]
  go_wp2
  refine bodyPost_ret (v := .agg #[.int .i64 (limI a), .int .i64 (limI b), .int .i64 (limI c)]) ?_ rfl ?_
  · simp [results, Try.f117, go_sem, limI]
  refine ⟨rfl, ?_⟩
  exact ((Below.refl _ w).alloc (Nat.le_refl _) _).alloc (by simp) _
end Go.Proofs.Ythiiaiholcfhhaa
namespace Go.Proofs.Ythiiaiholcfhhaa
open Go.RowKit
set_option linter.unusedVariables false
set_option linter.unusedSimpArgs false
theorem eqIn_arr (d : Nat) (a b c x y z : Int) (w : World) : (Op.equalIn (d + 2) 152 (.agg #[.int .i64 a, .int .i64 b, .int .i64 c]) (.agg #[.int .i64 x, .int .i64 y, .int .i64 z])).run Try.prog w = .ok (a == x && b == y && c == z) w := by
  have u := Try.underlying152
  have u3 := Try.underlying3
  have z3 := Try.sizeOf3
  have g := Try.isAgg3
  rw [Op.equalIn]
  simp only [Sem.run_bind, run_underlying u, Result.andThen_ok, z3]
  simp only [Std.Legacy.Range.forIn_eq_forIn_range', Std.Legacy.Range.size]
  simp [List.range', g, z3, go_sem, run_equalIn_int (P := Try.prog) _ d _ _ _ _ _ u3]
  by_cases h1 : a = x <;> by_cases h2 : b = y <;> by_cases h3 : c = z <;> simp [h1, h2, h3]
theorem eql_arr (a b c x y z : Int) (w : World) : Sem.run Try.prog (binOp .eql 152 (.agg #[.int .i64 a, .int .i64 b, .int .i64 c]) (.agg #[.int .i64 x, .int .i64 y, .int .i64 z])) w = .ok (.bool (a == x && b == y && c == z)) w := by
  rw [run_eql_struct, show (10000 : Nat) = 9998 + 2 from rfl, eqIn_arr]
  rfl
theorem guard_arr (o1 o2 : Operand) (xs ys : Array Value) (w : World) : Sem.run Try.prog (eqGuard .eql 152 o1 o2 (.agg xs) (.agg ys)) w = .ok () w := run_eqGuard_agg w _ _ _ _ _ _ (by kernel_rfl)
end Go.Proofs.Ythiiaiholcfhhaa
