/-
 Texts of the proof, merged: UpdP7, UpdP8, UpdFit2, LawReclaimStore.
-/
import Derived.Test.YthiiaiholcfhhaaUE1
import Derived.Test.YthiiaiholcfhhaaUE2
import Derived.Test.YthiiaiholcfhhaaUE3
import Derived.Test.YthiiaiholcfhhaaUE6
import Derived.Deep.Cut
namespace Go.Proofs.Ythiiaiholcfhhaa
open Go.RowKit
set_option linter.unusedVariables false
set_option linter.unusedSimpArgs false
theorem anyT_yes {f : Int → Bool} {l : List Int} {j : Nat} (hj : j < l.length) (h : f (l.getD j 0) = true) : l.any f = true := by
 rw [List.any_eq_true]
 have e : l.getD j 0 = l[j] := by simp [List.getD, hj]
 exact ⟨l[j], List.getElem_mem _, by rw [← e]; exact h⟩
theorem anyT_no {f : Int → Bool} {l : List Int} (h : ∀ j, j < l.length → f (l.getD j 0) = false) : l.any f = false := by
 rw [List.any_eq_false]
 intro y hy
 obtain ⟨j, hj, rfl⟩ := List.getElem_of_mem hy
 have := h j hj
 have e : l.getD j 0 = l[j] := by simp [List.getD, hj]
 rw [e] at this
 rw [this]; simp
set_option maxHeartbeats 16000000 in
set_option maxRecDepth 100000 in
theorem needClos (id born died t : Int) (va : Option Addr) (n vc B : Nat) (w : World) (h : w.heap[B]? = some (.cells #[.int .i64 id, .slice va n vc, .int .i64 born, .int .i64 died] 88 (0, 0))) :
  Calls Try.prog 104 #[.int .i64 t, .pointer (some ⟨B, 0, none⟩)] w fun e w' => e = .returned (.bool (decide (visP born died t))) ∧ Below w.heap.size w w' := by
 have HV := Lib.hid (fun W => implVisible id born died t (.slice va n vc) W)
 have c0 := (cell_of_row w _ 0 _ _ _ h).trans (show _ = some (Value.int .i64 id) from rfl)
 have c1 := (cell_of_row w _ 1 _ _ _ h).trans (show _ = some (Value.slice va n vc) from rfl)
 have c2 := (cell_of_row w _ 2 _ _ _ h).trans (show _ = some (Value.int .i64 born) from rfl)
 have c3 := (cell_of_row w _ 3 _ _ _ h).trans (show _ = some (Value.int .i64 died) from rfl)
 clear h
 go_enter Try.func104, Try.ntmps104
 go_wp2_with fail
 refine (HV.out _).mono ?_
 rintro e w1 ⟨rfl, b1⟩
 clear c0 c1 c2 c3 HV
 go_wp2
 go_ret
 exact ⟨rfl, b1⟩
set_option maxHeartbeats 16000000 in
set_option maxRecDepth 100000 in
theorem needIndex (kv : Value) (keep : List Int) (id born died : Int) (va : Option Addr) (n vc B : Nat) (w : World) (h : SlR tInt w kv keep) (hs : keep.length ≤ 1048576) (hB : w.heap[B]? = some (.cells #[.int .i64 id, .slice va n vc, .int .i64 born, .int .i64 died] 88 (0, 0))) :
  Calls Try.prog 115 #[kv, .func (.func 104) #[] #[.pointer (some ⟨B, 0, none⟩)]] w fun e w' => (∃ r : Int, e = .returned (.int .i64 r) ∧ decide (0 ≤ r) = keep.any (fun t => decide (visP born died t))) ∧ Below w.heap.size w w' := by
 have H := Lib.hid h
 obtain ⟨a, cap, rfl⟩ := slR_len h
 have BB := Lib.hid hB
 clear h hB
 go_enter Try.func115, Try.ntmps115
 go_wp2
 go_loopw [8] (fun i wr => ∃ k : Nat, k ≤ keep.length ∧ i = .int .i64 k ∧ Hid (∀ j, j < k → decide (visP born died (keep.getD j 0)) = false) ∧ Below w.heap.size w wr) (fun i _ => keep.length - (intOf i).toNat)
 case atStart => exact ⟨0, Nat.zero_le _, rfl, Lib.hid (fun j hj => by omega), Below.refl _ _⟩
 case round =>
  obtain ⟨k, hk, rfl, hall, hbel⟩ := hrel
  by_cases hlt : k < keep.length
  ·
   have i1' : (0 : Int) ≤ (k : Int) := by omega
   have i2' : (k : Int) < (keep.length : Int) := by omega
   obtain ⟨b, off, cap', cs, hv, hbl, hcs, hR⟩ := slR_at H.out hlt
   simp only [Value.slice.injEq] at hv
   obtain ⟨rfl, _, rfl⟩ := hv
   have hR2 : cs = [.int .i64 (keep.getD k 0)] := hR
   have q0 := hcs 0 (by decide)
   rw [show tInt.n = 1 from rfl, Nat.mul_one, Nat.add_zero, hR2] at q0
   have c0 := (hbel.cell (p := ⟨b, off + k, none⟩) hbl).trans (q0.trans (show _ = some (Value.int .i64 (keep.getD k 0)) from rfl))
   have HYS := Lib.hid (fun g => anyT_yes (f := fun t => decide (visP born died t)) hlt g)
   have HNO : Hid (decide (visP born died (keep.getD k 0)) = false → ∀ j, j < k + 1 → decide (visP born died (keep.getD j 0)) = false) := Lib.hid (fun g j hj => by
    by_cases e : j = k
    ·
     rw [e]; exact g
    ·
     exact hall.out j (by omega))
   have d := Lib.hid hbel
   have HC := Lib.hid (needClos id born died (keep.getD k 0) va n vc B wr ((hbel.block B (Array.getElem?_eq_some_iff.1 BB.out).1).trans BB.out))
   clear hall hbel hcs hR hR2 q0
   generalize keep.getD k 0 = y at *
   cases hse : decide (visP born died y) with
   | true =>
    have HT := Lib.hid (HYS.out hse)
    rw [hse] at HC
    clear hse HYS HNO
    go_wp2_with fail
    refine HC.out.mono ?_
    rintro e w2 ⟨rfl, b2⟩
    have d2 := Lib.hid (d.out.trans (b2.mono d.out.size))
    clear b2 c0 d HC
    go_wp2
    go_ret
    exact ⟨⟨_, rfl, by rw [HT.out]; exact decide_eq_true i1'⟩, d2.out⟩
   | false =>
    have HN := Lib.hid (HNO.out hse)
    rw [hse] at HC
    clear hse HYS HNO
    go_wp2_with fail
    refine HC.out.mono ?_
    rintro e w2 ⟨rfl, b2⟩
    have d2 := Lib.hid (d.out.trans (b2.mono d.out.size))
    clear b2 c0 d HC
    go_wp2
    go_roundw
    case rel => exact ⟨k + 1, by omega, by go_num, HN, d2.out⟩
    case measure => simp [intOf]; omega
  ·
   obtain rfl : k = keep.length := by omega
   have HF := Lib.hid (anyT_no (f := fun t => decide (visP born died t)) hall.out)
   clear hall
   go_wp2
   go_ret
   exact ⟨⟨-1, rfl, by rw [HF.out]; rfl⟩, hbel⟩
set_option maxHeartbeats 16000000 in
set_option maxRecDepth 100000 in
theorem needContains (kv : Value) (keep : List Int) (id born died : Int) (va : Option Addr) (n vc B : Nat) (w : World) (h : SlR tInt w kv keep) (hs : keep.length ≤ 1048576) (hB : w.heap[B]? = some (.cells #[.int .i64 id, .slice va n vc, .int .i64 born, .int .i64 died] 88 (0, 0))) :
  Calls Try.prog 103 #[kv, .func (.func 104) #[] #[.pointer (some ⟨B, 0, none⟩)]] w fun e w' => e = .returned (.bool (keep.any (fun t => decide (visP born died t)))) ∧ Below w.heap.size w w' := by
 have HC := Lib.hid (needIndex kv keep id born died va n vc B w h hs hB)
 clear h hs hB
 go_enter Try.func103, Try.ntmps103
 go_wp2_with fail
 refine HC.out.mono ?_
 rintro e w1 ⟨⟨r, rfl, hr⟩, b1⟩
 have HR := Lib.hid hr
 clear hr
 go_wp2
 go_ret
 exact ⟨ret_b (by rw [← HR.out]), b1⟩
set_option maxHeartbeats 16000000 in
set_option maxRecDepth 100000 in
theorem isNeeded_any (id born died : Int) (va : Option Addr) (vc : Nat) (xs : List Int) (kv : Value) (keep : List Int) (w : World) (h : SlR tInt w kv keep) (hs : keep.length ≤ 1048576) :
  Calls Try.prog 87 #[.agg #[.int .i64 id, .slice va xs.length vc, .int .i64 born, .int .i64 died], kv] w fun e w' => e = .returned (.bool (needB keep (id, xs, born, died))) ∧ Below w.heap.size w w' := by
 have hal : Below w.heap.size w (w.alloc (.cells #[.int .i64 id, .slice va xs.length vc, .int .i64 born, .int .i64 died] 88)) := (Below.refl _ _).alloc (Nat.le_refl _) _
 have d := Lib.hid hal
 have hB := heap_alloc_new w (.cells #[.int .i64 id, .slice va xs.length vc, .int .i64 born, .int .i64 died] 88)
 have HC := Lib.hid (needContains kv keep id born died va xs.length vc w.heap.size _ (slR_below tInt_law h hal) hs hB)
 have c3 := (cell_of_row _ _ 3 _ _ _ hB).trans (show _ = some (Value.int .i64 died) from rfl)
 have hmf : ∀ (fn : Fn) (first cap : Array Value) (w : World), (Instr.makeFunc fn first cap).run Try.prog w = .ok (.func fn first cap) w := fun _ _ _ _ => rfl
 obtain ⟨a, cap, rfl⟩ := slR_len h
 have e : needB keep (id, xs, born, died) = (decide (died = -1) || keep.any (fun t => decide (visP born died t))) := rfl
 rw [e]
 clear hal hB h e
 by_cases hdd : died = -1
 ·
  subst hdd
  clear HC hmf
  go_enter Try.func87, Try.ntmps87
  go_wp2
  go_ret
  exact ⟨ret_b (by simp), d.out⟩
 ·
  rw [decide_eq_false hdd, Bool.false_or]
  go_enter Try.func87, Try.ntmps87
  go_wp2_with fail
  generalize w.alloc (.cells #[.int .i64 id, .slice va xs.length vc, .int .i64 born, .int .i64 died] 88) = W at *
  refine HC.out.mono ?_
  rintro e w1 ⟨rfl, b1⟩
  have D1 := Lib.hid (d.out.trans (b1.mono d.out.size))
  clear b1 c3 d HC hmf
  go_wp2
  go_ret
  exact ⟨ret_b (by simp [hdd]), D1.out⟩
def Reclaimed (w : World) (b : Nat) (F1 : Nat → Prop) (ys : List VerD) (e : Ending) (w' : World) : Prop := ∃ u', e = .returned (.tuple #[]) ∧ w'.heap[b]? = some (segCells u') ∧ SlO 88 tVersion w' (fun q => F1 q ∨ w.heap.size ≤ q) u' ys ∧ Turn (fun q => q = b) w w'
set_option maxHeartbeats 16000000 in
set_option maxRecDepth 100000 in
theorem reclaim_any (b : Nat) (F1 : Nat → Prop) (u kv : Value) (l : List VerD) (keep : List Int) (w : World) (hb : w.heap[b]? = some (segCells u)) (hu : SlO 88 tVersion w F1 u l) (hnb : ¬ F1 b) (hn : l.length ≤ 1048576) (hk : SlR tInt w kv keep) (hkn : keep.length ≤ 1048576) :
  Calls Try.prog 62 #[ptrV b, kv] w (Reclaimed w b F1 (needL keep l)) := by
 obtain ⟨us, Fs, he, hd⟩ := slO_each tVersion_law hu
 have HFORM := Lib.hid (slO_form hu)
 obtain ⟨ua, uc, rfl⟩ := slO_len hu
 have HE := Lib.hid he
 have HKO := Lib.hid (fun (w1 : World) (pv : Value) (h : SlO 88 (tRaw 4) w1 (fun b => w.heap.size ≤ b) pv ((keptI keep l l.length).map us)) (hb : Below w.heap.size w w1) => kept_own (u := .bool false) (Fj := F1) h (fun j hj => ⟨(he j hj).1, (he j hj).2.1⟩) hd hb)
 have BS := Lib.hid hb
 have HNE := Lib.hid (fun W id born died va vc xs (g : Below w.heap.size w W) => isNeeded_any id born died va vc xs kv keep W (slR_below tInt_law hk g) hkn)
 have HNB := Lib.hid hnb
 obtain ⟨ka, kc, rfl⟩ := slR_len hk
 have p0 := (cell_of_row w b 0 _ _ _ hb).trans (show _ = some (Value.slice ua l.length uc) from rfl)
 clear hu he hd hb hnb hk
 unfold ptrV
 go_enter Try.func62, Try.ntmps62
 go_wp2
 clear p0
 go_loopw [4, 12] (fun nv i wr => ∃ k : Nat, k ≤ l.length ∧ i = .int .i64 k ∧ SlO 88 (tRaw 4) wr (fun q => w.heap.size ≤ q) nv ((keptI keep l k).map us) ∧ Below w.heap.size w wr) (fun _ i _ => l.length - (intOf i).toNat)
 case atStart => exact ⟨0, Nat.zero_le _, rfl, slO_nil _ _ _ _, Below.refl _ _⟩
 case round =>
  obtain ⟨k, hkl, rfl, hown, hbel⟩ := hrel
  by_cases hlt : k < l.length
  ·
   have i1 : (0 : Int) ≤ (k : Int) := by omega
   have i2 : (k : Int) < (l.length : Int) := by omega
   obtain ⟨g, cap, hg, hgl⟩ : ∃ g cap, Value.slice ua l.length uc = .slice (some ⟨g, 0, none⟩) l.length cap ∧ g < w.heap.size := by
    rcases HFORM.out with ⟨_, e⟩ | ⟨g, cap, e, _, e2⟩
    ·
     rw [e] at hlt; simp at hlt
    ·
     exact ⟨g, cap, e, e2⟩
   simp only [Value.slice.injEq] at hg
   obtain ⟨rfl, _, rfl⟩ := hg
   obtain ⟨h1, _, h3⟩ := HE.out k hlt
   have h4 := h3 g _ _ rfl
   have HKY := Lib.hid (fun q => kept_yes (keep := keep) (l := l) (k := k) q)
   have HKN := Lib.hid (fun q => kept_no (keep := keep) (l := l) (k := k) q)
   have e3 : l.getD k tVersion.d = l.getD k v0D := rfl
   rw [e3] at h1
   generalize l.getD k v0D = x at *
   obtain ⟨id, xs, born, died⟩ := x
   obtain ⟨v1, F2, hcs, hv1, _⟩ := tVersion_O h1
   obtain ⟨xa, xc, rfl⟩ := slO_len hv1
   have HUS := Lib.hid hcs
   rw [hcs] at h4
   have c0 := (hbel.cell (p := ⟨g, k * 4 + 0, none⟩) hgl).trans (h4 0 (by decide))
   have c1 := (hbel.cell (p := ⟨g, k * 4 + 1, none⟩) hgl).trans (h4 1 (by decide))
   have c2 := (hbel.cell (p := ⟨g, k * 4 + 2, none⟩) hgl).trans (h4 2 (by decide))
   have c3 := (hbel.cell (p := ⟨g, k * 4 + 3, none⟩) hgl).trans (h4 3 (by decide))
   replace c0 := c0.trans (show _ = some (Value.int .i64 id) from rfl)
   replace c1 := c1.trans (show _ = some (Value.slice xa xs.length xc) from rfl)
   replace c2 := c2.trans (show _ = some (Value.int .i64 born) from rfl)
   replace c3 := c3.trans (show _ = some (Value.int .i64 died) from rfl)
   rw [Nat.add_zero] at c0
   have hal : Below wr.heap.size wr (wr.alloc (.cells #[.int .i64 id, .slice xa xs.length xc, .int .i64 born, .int .i64 died] 88)) := (Below.refl _ _).alloc (Nat.le_refl _) _
   have BV := Lib.hid (heap_alloc_new wr (.cells #[.int .i64 id, .slice xa xs.length xc, .int .i64 born, .int .i64 died] 88))
   have d := Lib.hid (hbel.trans (hal.mono hbel.size))
   obtain ⟨oa, oc, hv⟩ := slO_len hown
   obtain ⟨m, hm⟩ : ∃ m, m = (List.map us (keptI keep l k)).length := ⟨_, rfl⟩
   rw [← hm] at hv
   subst hv
   have HM := Lib.hid hm
   clear hm
   have OW := Lib.hid (slO_fresh (tRaw_law (by decide)) (slO_lt (tRaw_law (by decide)) hown) hal)
   have HKL := Lib.hid (kept_len_le keep l k)
   clear h1 h3 h4 hcs hv1 hown hbel hal e3
   have HNX := Lib.hid (HNE.out (wr.alloc (.cells #[.int .i64 id, .slice xa xs.length xc, .int .i64 born, .int .i64 died] 88)) id born died xa xc xs d.out)
   go_wp2_with fail
   generalize wr.alloc (.cells #[.int .i64 id, .slice xa xs.length xc, .int .i64 born, .int .i64 died] 88) = W1 at *
   refine HNX.out.mono ?_
   rintro e w2 ⟨rfl, b2⟩
   replace BV := Lib.hid ((b2.block wr.heap.size (Array.getElem?_eq_some_iff.1 BV.out).1).trans BV.out)
   have OW2 := Lib.hid (slO_fresh (tRaw_law (by decide)) OW.out b2)
   have d2 := Lib.hid (d.out.trans (b2.mono d.out.size))
   clear OW d b2 HNX c0 c1 c2 c3
   generalize wr.heap.size = R at *
   cases hne : needB keep (id, xs, born, died) with
   | true =>
    have HK1 := Lib.hid (HKY.out hne)
    have hal : Below w2.heap.size w2 (w2.alloc (.cells #[.int .i64 id, .slice xa xs.length xc, .int .i64 born, .int .i64 died] 88)) := (Below.refl _ _).alloc (Nat.le_refl _) _
    have BO := Lib.hid (heap_alloc_new w2 (.cells #[.int .i64 id, .slice xa xs.length xc, .int .i64 born, .int .i64 died] 88))
    have OW3 := Lib.hid (slO_mono (slO_fresh (tRaw_law (by decide)) (slO_lt (tRaw_law (by decide)) OW2.out) hal) (F' := fun q => w.heap.size ≤ q ∧ q < w2.heap.size) (fun q h => ⟨h.1.1, h.2⟩))
    have d3 := Lib.hid (d2.out.trans (hal.mono d2.out.size))
    have Y3 : Hid (w2.heap.size < (w2.alloc (.cells #[.int .i64 id, .slice xa xs.length xc, .int .i64 born, .int .i64 died] 88)).heap.size) := Lib.hid (by simp [World.size_alloc])
    have c0 := (cell_of_row w2 _ 0 _ _ _ BV.out).trans (show _ = some (Value.int .i64 id) from rfl)
    have c1 := (cell_of_row w2 _ 1 _ _ _ BV.out).trans (show _ = some (Value.slice xa xs.length xc) from rfl)
    have c2 := (cell_of_row w2 _ 2 _ _ _ BV.out).trans (show _ = some (Value.int .i64 born) from rfl)
    have c3 := (cell_of_row w2 _ 3 _ _ _ BV.out).trans (show _ = some (Value.int .i64 died) from rfl)
    have Y2 := Lib.hid d2.out.size
    clear hne HKY HKN BV hal d2 OW2
    go_wp2_with (at_builtin; refine append_flat (tRaw_law (by decide)) (flat_raw 4) info_R_Version Try.underlying89 rfl rfl (.tmp 19) (.tmp 21) rfl (fun q => w.heap.size ≤ q ∧ q < w2.heap.size) (fun q => w.heap.size ≤ q) _ _ ((keptI keep l k).map us) [[.int .i64 id, .slice xa xs.length xc, .int .i64 born, .int .i64 died]] rfl rfl OW3.out (raw_one BO.out rfl rfl rfl rfl) (fun b h => h.1) d3.out.size (by have := HKL.out; rw [List.length_map]; simp only [List.length_cons, List.length_nil]; omega) ?_)
    intro v' w4 o4 t4
    clear c0 c1 c2 c3
    have O4 : Hid (SlO 88 (tRaw 4) w4 (fun q => w.heap.size ≤ q) v' ((keptI keep l (k + 1)).map us)) := Lib.hid (by
     rw [HK1.out, List.map_append, List.map_cons, List.map_nil, HUS.out]; exact o4)
    have D4 := Lib.hid (below_turn d3.out t4 (fun q h => h.1) d3.out.size)
    clear o4 t4 d3 OW3
    go_wp2
    go_roundw
    case rel => exact ⟨k + 1, by omega, by go_num, O4.out, D4.out⟩
    case measure => simp [intOf]; omega
   | false =>
    have O4 : Hid (SlO 88 (tRaw 4) w2 (fun q => w.heap.size ≤ q) (.slice oa m oc) ((keptI keep l (k + 1)).map us)) := Lib.hid (by
     rw [HKN.out hne]
     exact slO_mono OW2.out (fun q h => h.1))
    clear hne HKY HKN BV OW2
    go_wp2
    go_roundw
    case rel => exact ⟨k + 1, by omega, by go_num, O4.out, d2.out⟩
    case measure => simp [intOf]; omega
  ·
   obtain rfl : k = l.length := by omega
   have PF := Lib.hid (HKO.out wr _ hown hbel)
   obtain ⟨oa, oc, rfl⟩ := slO_len hown
   rw [List.length_map, kept_len] at PF
   rw [List.length_map, kept_len]
   have B2 := Lib.hid ((hbel.block b (Array.getElem?_eq_some_iff.1 BS.out).1).trans BS.out)
   have p0 := (cell_of_row wr b 0 _ _ _ B2.out).trans (show _ = some (Value.slice ua l.length uc) from rfl)
   have f0 := frozen_of_row wr b 0 _ _ B2.out
   have hbl := (Array.getElem?_eq_some_iff.1 BS.out).1
   have tt : Turn (fun q => q = b) wr (wr.setCell ⟨b, 0, none⟩ (.slice oa (needL keep l).length oc)) := turn_set (G := fun q => q = b) (g := b) (j := 0) (u := .slice oa (needL keep l).length oc) rfl
   have r := heap_setCell_same wr b 0 _ _ (.slice oa (needL keep l).length oc) B2.out
   simp at r
   have RR := Lib.hid r
   have PE := Lib.hid (slO_turn tVersion_law PF.out tt (fun q h1 h2 => by have r2 : q = b := h2; subst r2; rcases h1 with h3 | h3; exact HNB.out h3; omega))
   have TT := Lib.hid ((turn_below (G := fun q => q = b) hbel).trans tt)
   clear hown hbel tt r PF
   go_wp2
   refine bodyPost_ret (v := .tuple #[]) ?_ rfl ?_
   ·
    simp [results, Try.f62, go_sem]
   ·
    exact ⟨_, rfl, RR.out, PE.out, TT.out⟩
theorem flat_small {ss : List (List VerD)} (hs : zL tVersionS ss ≤ 1048576) : ss.flatten.length ≤ 1048576 := by
 rw [← zL_all, zL_sum] at hs; omega
theorem rec_zL {ss : List (List VerD)} {now : Int} {keep : List Int} (hst : storeB ss now = true) (hs : zL tVersionS ss ≤ 1048576) : zL tVersionS (reclaimL keep ss) ≤ 1048576 := by
 have r := rec_small (now := now) (keep := keep) hs
 rw [reclaim_yes hst] at r
 change tStore.sz (reclaimL keep ss, now) ≤ 1048576 at r
 rw [tStore_sz] at r
 exact r
set_option maxHeartbeats 16000000 in
set_option maxRecDepth 100000 in
theorem implReclaimStore (now : Int) (sv kv : Value) (ss : List (List VerD)) (keep : List Int) (w : World) (h : SlR tVersionS w sv ss) (hs : zL tVersionS ss ≤ 1048576) (g : SlR tInt w kv keep) (hkn : keep.length ≤ 1048576) :
  Calls Try.prog 30 #[.agg #[sv, .int .i64 now], kv] w (FreshNI w (reclaimB (ss, now) keep)) := by
 obtain ⟨a, cap, rfl⟩ := slR_len h
 have HSL := Lib.hid (zL_len hs)
 have HZS := Lib.hid hs
 have H := Lib.hid h
 have G := Lib.hid g
 have HKN := Lib.hid hkn
 have HC := Lib.hid (fun W h => copyStore_X now (.slice a ss.length cap) ss W h hs)
 obtain ⟨ka, kc, rfl⟩ := slR_len g
 clear h g hs hkn
 cases hst : storeB ss now with
 | false =>
  have HE : Hid (reclaimB (ss, now) keep = ((ss, now), 0)) := Lib.hid (reclaim_no hst)
  have HST := Lib.hid hst
  clear hst
  have d := Lib.hid (show Below w.heap.size w ((w.alloc (.cells #[.slice a ss.length cap, .int .i64 now] 41)).alloc (.cells #[.slice none 0 0, .int .i64 0] 41)) from ((Below.refl _ _).alloc (Nat.le_refl _) _).alloc (by simp <;> omega) _)
  have B0 : Hid (((w.alloc (.cells #[.slice a ss.length cap, .int .i64 now] 41)).alloc (.cells #[.slice none 0 0, .int .i64 0] 41)).heap[w.heap.size]? = some (.cells #[.slice a ss.length cap, .int .i64 now] 41 (0, 0))) := Lib.hid (by
   rw [Below.heap_alloc _ _ _ (by simp <;> omega)]; exact heap_alloc_new w (.cells #[.slice a ss.length cap, .int .i64 now] 41))
  have BZ : Hid (((w.alloc (.cells #[.slice a ss.length cap, .int .i64 now] 41)).alloc (.cells #[.slice none 0 0, .int .i64 0] 41)).heap[(w.heap.size + 1)]? = some (.cells #[.slice none 0 0, .int .i64 0] 41 (0, 0))) := Lib.hid (by
   have := heap_alloc_new (w.alloc (.cells #[.slice a ss.length cap, .int .i64 now] 41)) (.cells #[.slice none 0 0, .int .i64 0] 41)
   simpa only [World.size_alloc] using this)
  have YW : Hid (w.heap.size + 1 < ((w.alloc (.cells #[.slice a ss.length cap, .int .i64 now] 41)).alloc (.cells #[.slice none 0 0, .int .i64 0] 41)).heap.size) := Lib.hid (by simp)
  go_enter Try.func30, Try.ntmps30
  go_wp2_with fail
  generalize ((w.alloc (.cells #[.slice a ss.length cap, .int .i64 now] 41)).alloc (.cells #[.slice none 0 0, .int .i64 0] 41)) = W at *
  refine (HC.out W (slR_below tVersionS_law H.out d.out)).mono ?_
  rintro e w4 ⟨fa, fc, rfl, of, c4⟩
  have PF := Lib.hid (slO_lt tX_law of)
  replace B0 := Lib.hid ((c4.block w.heap.size (Array.getElem?_eq_some_iff.1 B0.out).1).trans B0.out)
  replace BZ := Lib.hid ((c4.block (w.heap.size + 1) (Array.getElem?_eq_some_iff.1 BZ.out).1).trans BZ.out)
  replace d := Lib.hid (d.out.trans (c4.mono d.out.size))
  have Z_w4 := Lib.hid (show W.heap.size ≤ w4.heap.size from c4.size)
  have QF := Lib.hid (fun q (h : since W q ∧ q < w4.heap.size) => (show W.heap.size ≤ q ∧ q < w4.heap.size from h))
  clear of c4
  have hal : Below w4.heap.size w4 (w4.alloc (.cells #[.slice fa ss.length fc, .int .i64 now] 41)) := (Below.refl _ _).alloc (Nat.le_refl _) _
  have BX := Lib.hid (heap_alloc_new w4 (.cells #[.slice fa ss.length fc, .int .i64 now] 41))
  have Y_X := Lib.hid (show w4.heap.size < (w4.alloc (.cells #[.slice fa ss.length fc, .int .i64 now] 41)).heap.size by simp [World.size_alloc])
  replace B0 := Lib.hid ((hal.block w.heap.size (Array.getElem?_eq_some_iff.1 B0.out).1).trans B0.out)
  replace BZ := Lib.hid ((hal.block (w.heap.size + 1) (Array.getElem?_eq_some_iff.1 BZ.out).1).trans BZ.out)
  replace PF := Lib.hid (slO_fresh tX_law PF.out hal)
  replace d := Lib.hid (d.out.trans (hal.mono d.out.size))
  clear hal
  have p_BX_0 := (cell_of_row (w4.alloc (.cells #[.slice fa ss.length fc, .int .i64 now] 41)) _ 0 _ _ _ BX.out).trans (show _ = some (Value.slice fa ss.length fc) from rfl)
  have p_BX_1 := (cell_of_row (w4.alloc (.cells #[.slice fa ss.length fc, .int .i64 now] 41)) _ 1 _ _ _ BX.out).trans (show _ = some (Value.int .i64 now) from rfl)
  go_wp2_with fail
  clear p_BX_0 p_BX_1
  generalize w4.alloc (.cells #[.slice fa ss.length fc, .int .i64 now] 41) = w5 at *
  refine (checkStore_no (.slice fa ss.length fc) ss now w5 (slO_reads tVersionS_law (slO_X PF.out)) HZS.out HST.out).mono ?_
  rintro e w6 ⟨rfl, c6⟩
  replace B0 := Lib.hid ((c6.block w.heap.size (Array.getElem?_eq_some_iff.1 B0.out).1).trans B0.out)
  replace BZ := Lib.hid ((c6.block (w.heap.size + 1) (Array.getElem?_eq_some_iff.1 BZ.out).1).trans BZ.out)
  replace BX := Lib.hid ((c6.block w4.heap.size (Array.getElem?_eq_some_iff.1 BX.out).1).trans BX.out)
  replace PF := Lib.hid (slO_fresh tX_law PF.out c6)
  replace d := Lib.hid (d.out.trans (c6.mono d.out.size))
  have Z_w6 := Lib.hid (show w5.heap.size ≤ w6.heap.size from c6.size)
  clear c6
  have p_BX_0 := (cell_of_row w6 _ 0 _ _ _ BX.out).trans (show _ = some (Value.slice fa ss.length fc) from rfl)
  have p_BX_1 := (cell_of_row w6 _ 1 _ _ _ BX.out).trans (show _ = some (Value.int .i64 now) from rfl)
  have p_BZ_0 := (cell_of_row w6 _ 0 _ _ _ BZ.out).trans (show _ = some (Value.slice none 0 0) from rfl)
  have p_BZ_1 := (cell_of_row w6 _ 1 _ _ _ BZ.out).trans (show _ = some (Value.int .i64 0) from rfl)
  have f_BZ_0 := frozen_of_row w6 _ 0 _ _ BZ.out
  have f_BZ_1 := frozen_of_row w6 _ 1 _ _ BZ.out
  have tt : Turn (fun q => q = w.heap.size + 1) w6 ((w6.setCell ⟨w.heap.size + 1, 0, none⟩ (.slice fa ss.length fc)).setCell ⟨w.heap.size + 1, 1, none⟩ (.int .i64 now)) := ((Turn.refl (fun q => q = w.heap.size + 1) _).trans (turn_set (G := fun q => q = w.heap.size + 1) (g := w.heap.size + 1) (j := 0) (u := .slice fa ss.length fc) rfl)).trans (turn_set (G := fun q => q = w.heap.size + 1) (g := w.heap.size + 1) (j := 1) (u := .int .i64 now) rfl)
  have r := heap_setCell_same _ (w.heap.size + 1) 1 _ _ (.int .i64 now) (heap_setCell_same w6 (w.heap.size + 1) 0 _ _ (.slice fa ss.length fc) BZ.out)
  have e0 := cell_of_row _ _ 0 _ _ _ r
  have e1 := cell_of_row _ _ 1 _ _ _ r
  simp at e0 e1
  have y0 := YW.out
  have y1 := Z_w4.out
  have y2 := Y_X.out
  have y3 := Z_w6.out
  have DF := Lib.hid (below_turn d.out tt (fun q h => by omega) d.out.size)
  have PE := Lib.hid (slO_turn tX_law PF.out tt (fun q h1 h2 => by have r1 := QF.out q h1; omega))
  have QE := Lib.hid (fun q h => (show w.heap.size ≤ q by have r1 := QF.out q h; omega))
  clear tt r y0 y1 y2 y3
  go_wp2
  refine bodyPost_ret (v := .tuple #[.agg #[.slice fa ss.length fc, .int .i64 now], .int .i64 0]) ?_ rfl ?_
  ·
   simp [results, Try.f30, go_sem, e0, e1]
  ·
   show FreshNI _ _ _ _; rw [HE.out]; exact ⟨[.slice fa ss.length fc, .int .i64 now], _, rfl, tStore_mkO (slO_X PE.out) (fun q h => h), QE.out, DF.out⟩
 | true =>
  have HST := Lib.hid hst
  clear hst
  have d := Lib.hid (show Below w.heap.size w ((w.alloc (.cells #[.slice a ss.length cap, .int .i64 now] 41)).alloc (.cells #[.slice none 0 0, .int .i64 0] 41)) from ((Below.refl _ _).alloc (Nat.le_refl _) _).alloc (by simp <;> omega) _)
  have B0 : Hid (((w.alloc (.cells #[.slice a ss.length cap, .int .i64 now] 41)).alloc (.cells #[.slice none 0 0, .int .i64 0] 41)).heap[w.heap.size]? = some (.cells #[.slice a ss.length cap, .int .i64 now] 41 (0, 0))) := Lib.hid (by
   rw [Below.heap_alloc _ _ _ (by simp <;> omega)]; exact heap_alloc_new w (.cells #[.slice a ss.length cap, .int .i64 now] 41))
  have BZ : Hid (((w.alloc (.cells #[.slice a ss.length cap, .int .i64 now] 41)).alloc (.cells #[.slice none 0 0, .int .i64 0] 41)).heap[(w.heap.size + 1)]? = some (.cells #[.slice none 0 0, .int .i64 0] 41 (0, 0))) := Lib.hid (by
   have := heap_alloc_new (w.alloc (.cells #[.slice a ss.length cap, .int .i64 now] 41)) (.cells #[.slice none 0 0, .int .i64 0] 41)
   simpa only [World.size_alloc] using this)
  have YW : Hid (w.heap.size + 1 < ((w.alloc (.cells #[.slice a ss.length cap, .int .i64 now] 41)).alloc (.cells #[.slice none 0 0, .int .i64 0] 41)).heap.size) := Lib.hid (by simp)
  go_enter Try.func30, Try.ntmps30
  go_wp2_with fail
  generalize ((w.alloc (.cells #[.slice a ss.length cap, .int .i64 now] 41)).alloc (.cells #[.slice none 0 0, .int .i64 0] 41)) = W at *
  refine (HC.out W (slR_below tVersionS_law H.out d.out)).mono ?_
  rintro e w4 ⟨fa, fc, rfl, of, c4⟩
  have PF := Lib.hid (slO_lt tX_law of)
  replace B0 := Lib.hid ((c4.block w.heap.size (Array.getElem?_eq_some_iff.1 B0.out).1).trans B0.out)
  replace BZ := Lib.hid ((c4.block (w.heap.size + 1) (Array.getElem?_eq_some_iff.1 BZ.out).1).trans BZ.out)
  replace d := Lib.hid (d.out.trans (c4.mono d.out.size))
  have Z_w4 := Lib.hid (show W.heap.size ≤ w4.heap.size from c4.size)
  have QF := Lib.hid (fun q (h : since W q ∧ q < w4.heap.size) => (show W.heap.size ≤ q ∧ q < w4.heap.size from h))
  clear of c4
  have hal : Below w4.heap.size w4 (w4.alloc (.cells #[.slice fa ss.length fc, .int .i64 now] 41)) := (Below.refl _ _).alloc (Nat.le_refl _) _
  have BX := Lib.hid (heap_alloc_new w4 (.cells #[.slice fa ss.length fc, .int .i64 now] 41))
  have Y_X := Lib.hid (show w4.heap.size < (w4.alloc (.cells #[.slice fa ss.length fc, .int .i64 now] 41)).heap.size by simp [World.size_alloc])
  replace B0 := Lib.hid ((hal.block w.heap.size (Array.getElem?_eq_some_iff.1 B0.out).1).trans B0.out)
  replace BZ := Lib.hid ((hal.block (w.heap.size + 1) (Array.getElem?_eq_some_iff.1 BZ.out).1).trans BZ.out)
  replace PF := Lib.hid (slO_fresh tX_law PF.out hal)
  replace d := Lib.hid (d.out.trans (hal.mono d.out.size))
  clear hal
  have p_BX_0 := (cell_of_row (w4.alloc (.cells #[.slice fa ss.length fc, .int .i64 now] 41)) _ 0 _ _ _ BX.out).trans (show _ = some (Value.slice fa ss.length fc) from rfl)
  have p_BX_1 := (cell_of_row (w4.alloc (.cells #[.slice fa ss.length fc, .int .i64 now] 41)) _ 1 _ _ _ BX.out).trans (show _ = some (Value.int .i64 now) from rfl)
  go_wp2_with fail
  clear p_BX_0 p_BX_1
  generalize w4.alloc (.cells #[.slice fa ss.length fc, .int .i64 now] 41) = w5 at *
  obtain ⟨us, Fs, hls, hsr, hX, hdj⟩ := ls_X PF.out
  have HUL := Lib.hid hsr.1
  refine (checkStore_own (.slice fa ss.length fc) ss now us w5 (slO_reads tVersionS_law (slO_X PF.out)) HZS.out HST.out hls hsr).mono ?_
  rintro e w6 ⟨tg, tbs, rfl, ho, htb, c6⟩
  have PT0 := tab_of ho htb HUL.out hX hdj c6 (Nat.le_refl _)
  rw [HUL.out]
  have y0 := YW.out
  have y1 := Z_w4.out
  have y2 := Y_X.out
  have PT := Lib.hid (slO_mono PT0 (F' := fun q => w.heap.size + 1 < q ∧ q ≠ w4.heap.size) (fun q h => by
   rcases h with h | h
   ·
    have r := QF.out q h.1; exact ⟨by omega, by omega⟩
   ·
    exact ⟨by omega, by omega⟩))
  replace B0 := Lib.hid ((c6.block w.heap.size (Array.getElem?_eq_some_iff.1 B0.out).1).trans B0.out)
  replace BZ := Lib.hid ((c6.block (w.heap.size + 1) (Array.getElem?_eq_some_iff.1 BZ.out).1).trans BZ.out)
  replace BX := Lib.hid ((c6.block w4.heap.size (Array.getElem?_eq_some_iff.1 BX.out).1).trans BX.out)
  replace d := Lib.hid (d.out.trans (c6.mono d.out.size))
  have Z_w6 := Lib.hid (show w5.heap.size ≤ w6.heap.size from c6.size)
  have zz : w.heap.size + 1 < w4.heap.size ∧ w4.heap.size < w6.heap.size := ⟨by omega, by have := c6.size; omega⟩
  have ZZ := Lib.hid zz
  clear PF QF PT0 hls hsr hX hdj ho htb c6 zz HUL YW Z_w4 Y_X Z_w6 y0 y1 y2
  generalize w4.heap.size = R at *
  go_wp2
  go_loopw [23] (fun i wr => ∃ k : Nat, k ≤ ss.length ∧ i = .int .i64 k ∧ wr.heap[w.heap.size]? = some (.cells #[.slice a ss.length cap, .int .i64 now] 41 (0, 0)) ∧ wr.heap[w.heap.size + 1]? = some (.cells #[.slice none 0 0, .int .i64 0] 41 (0, 0)) ∧ wr.heap[R]? = some (.cells #[.slice fa ss.length fc, .int .i64 now] 41 (0, 0)) ∧ SlO 102 tSegP wr (fun q => w.heap.size + 1 < q ∧ q ≠ R) (.slice (some ⟨tg, 0, none⟩) ss.length ss.length) (recTo keep ss k) ∧ Below w.heap.size w wr ∧ R < wr.heap.size) (fun i _ => ss.length - (intOf i).toNat)
  case atStart => exact ⟨0, Nat.zero_le _, rfl, B0.out, BZ.out, BX.out, by rw [rec_zero]; exact PT.out, d.out, ZZ.out.2⟩
  case round =>
   obtain ⟨k, hk, rfl, r0, r1, r2, hown, hbel, hsz⟩ := hrel
   clear B0 BZ BX PT d
   by_cases hlt : k < ss.length
   ·
    have i1 : (0 : Int) ≤ (k : Int) := by omega
    have i2 : (k : Int) < (ss.length : Int) := by omega
    have hsl := HSL.out
    obtain ⟨g, gcap, b, u, F1, Fj, hv, hFg, hg, hc, hb, hu, h0, h1, h2, hput⟩ := tab_at (slO_lt tSegP_law hown) (Nat.le_refl _) (j := k) (by rw [rec_len]; exact hlt)
    simp only [Value.slice.injEq, Option.some.injEq, Addr.mk.injEq] at hv
    have hgg := hv.1.1
    clear hv
    subst hgg
    rw [rec_at hlt] at hu
    have HPUT := Lib.hid hput
    have HSET := Lib.hid (rec_step (keep := keep) hlt)
    have hll : (ss.getD k []).length ≤ 1048576 := (short_segs HST.out).2 k hlt
    have HBB := Lib.hid (h2 b h0)
    have HB0 := Lib.hid h0
    have HF1 := Lib.hid h1
    have HFJ := Lib.hid h2
    have HRC := Lib.hid (reclaim_any b F1 u (.slice ka keep.length kc) (ss.getD k []) keep wr hb hu (fun q => (h1 b q).2 rfl) hll (slR_below tInt_law G.out hbel) HKN.out)
    have B0 := Lib.hid r0
    have BZ := Lib.hid r1
    have BX := Lib.hid r2
    have d := Lib.hid hbel
    have ZR := Lib.hid hsz
    have ZR2 := Lib.hid ZZ.out.1
    unfold ptrV at hc
    unfold ptrV at HRC
    clear hput h0 h1 h2 hu hb hown r0 r1 r2 hbel hsz hFg hg hll
    go_wp2_with fail
    refine HRC.out.mono ?_
    rintro e w7 ⟨u7, rfl, q7, o7, t7⟩
    have hb3 := HBB.out
    have y0 := ZR.out
    have y1 := ZR2.out
    have PN := Lib.hid (HPUT.out w7 u7 (fun q => F1 q ∨ wr.heap.size ≤ q) _ q7 o7 (fun q h => by
     rcases h with h | h
     ·
      obtain ⟨h3, h4⟩ := HF1.out q h
      exact ⟨(HFJ.out q h3).1, h4, Or.inl h3⟩
     ·
      exact ⟨⟨by omega, by omega⟩, by have := hb3.2.2; omega, Or.inr h⟩) (t7.mono (fun q h => Or.inl (by have h5 : q = b := h; rw [h5]; exact HB0.out))))
    rw [HSET.out] at PN
    have hq : w.heap.size + 1 < b ∧ b ≠ R := hb3.1
    replace B0 := Lib.hid ((t7.block w.heap.size (Array.getElem?_eq_some_iff.1 B0.out).1 (fun h => by have h5 : w.heap.size = b := h; omega)).trans B0.out)
    replace BZ := Lib.hid ((t7.block (w.heap.size + 1) (Array.getElem?_eq_some_iff.1 BZ.out).1 (fun h => by have h5 : w.heap.size + 1 = b := h; omega)).trans BZ.out)
    replace BX := Lib.hid ((t7.block R (Array.getElem?_eq_some_iff.1 BX.out).1 (fun h => by have h5 : R = b := h; omega)).trans BX.out)
    replace d := Lib.hid (below_turn d.out t7 (fun q h => by have h5 : q = b := h; omega) d.out.size)
    have ZN := Lib.hid (Nat.lt_of_lt_of_le ZR.out t7.size)
    clear hb3 y0 y1 hq q7 o7 t7 HPUT HSET HBB HB0 HF1 HFJ HRC hc
    go_wp2
    go_roundw
    case rel =>
     exact ⟨k + 1, by omega, by go_num, B0.out, BZ.out, BX.out, PN.out, d.out, ZN.out⟩
    case measure => simp [intOf]; omega
   ·
    obtain rfl : k = ss.length := by omega
    rw [rec_all] at hown
    have HKL : Hid ((reclaimL keep ss).length = ss.length) := Lib.hid (by simp [reclaimL])
    have HE : Hid (reclaimB (ss, now) keep = ((reclaimL keep ss, now), (ss.flatten.length : Int) - ((reclaimL keep ss).flatten.length : Int))) := Lib.hid (reclaim_yes HST.out)
    have HZR := Lib.hid (rec_zL (keep := keep) HST.out HZS.out)
    have f1 := flat_small HZS.out
    have f2 := flat_small HZR.out
    have B0 := Lib.hid r0
    have BZ := Lib.hid r1
    have BX := Lib.hid r2
    have d := Lib.hid hbel
    have HLI := Lib.hid (lists_any tg ss.length (fun q => w.heap.size + 1 < q ∧ q ≠ R) (reclaimL keep ss) wr hown HKL.out.symm HSL.out)
    have HCS := Lib.hid (fun W h => implCountVersions (.slice a ss.length cap) ss now W h HZS.out)
    have HCR := Lib.hid (fun sv W h => implCountVersions sv (reclaimL keep ss) now W h HZR.out)
    have ZR := Lib.hid hsz
    have ZR2 := Lib.hid ZZ.out.1
    clear r0 r1 r2 hown hbel hsz hlt
    generalize ss.flatten.length = p at *
    generalize (reclaimL keep ss).flatten.length = p2 at *
    go_wp2_with fail
    refine HLI.out.mono ?_
    rintro e w9 ⟨lv2, rfl, ol, c9⟩
    obtain ⟨va9, vc9, rfl⟩ := slO_len ol
    rw [HKL.out] at ol
    rw [HKL.out]
    have PF0 := Lib.hid ol
    replace B0 := Lib.hid ((c9.block w.heap.size (Array.getElem?_eq_some_iff.1 B0.out).1).trans B0.out)
    replace BZ := Lib.hid ((c9.block (w.heap.size + 1) (Array.getElem?_eq_some_iff.1 BZ.out).1).trans BZ.out)
    replace BX := Lib.hid ((c9.block R (Array.getElem?_eq_some_iff.1 BX.out).1).trans BX.out)
    replace d := Lib.hid (d.out.trans (c9.mono d.out.size))
    have Z_w9 := Lib.hid (show wr.heap.size ≤ w9.heap.size from c9.size)
    clear c9 ol HLI
    have p_BX_0 := (cell_of_row w9 _ 0 _ _ _ BX.out).trans (show _ = some (Value.slice fa ss.length fc) from rfl)
    have p_BX_1 := (cell_of_row w9 _ 1 _ _ _ BX.out).trans (show _ = some (Value.int .i64 now) from rfl)
    have f_BX_0 := frozen_of_row w9 _ 0 _ _ BX.out
    have f_BX_1 := frozen_of_row w9 _ 1 _ _ BX.out
    have y0 := ZR.out
    have y1 := ZR2.out
    have y2 := Z_w9.out
    have tt : Turn (fun q => q = R) w9 (w9.setCell ⟨R, 0, none⟩ (.slice va9 ss.length vc9)) := turn_set (G := fun q => q = R) (g := R) (j := 0) (u := .slice va9 ss.length vc9) rfl
    have r := heap_setCell_same w9 R 0 _ _ (.slice va9 ss.length vc9) BX.out
    simp at r
    go_upto_region 11 with fail
    clear p_BX_0 p_BX_1 f_BX_0 f_BX_1
    generalize (w9.setCell ⟨R, 0, none⟩ (.slice va9 ss.length vc9)) = w10 at *
    replace BX : Hid (w10.heap[R]? = some (.cells #[.slice va9 ss.length vc9, .int .i64 now] 41 (0, 0))) := Lib.hid r
    replace BZ := Lib.hid ((tt.block (w.heap.size + 1) (Array.getElem?_eq_some_iff.1 BZ.out).1 (fun h => by have r2 : _ = R := h; omega)).trans BZ.out)
    replace B0 := Lib.hid ((tt.block w.heap.size (Array.getElem?_eq_some_iff.1 B0.out).1 (fun h => by have r2 : _ = R := h; omega)).trans B0.out)
    have PF := Lib.hid (slO_lt tVersionS_law (slO_turn tVersionS_law PF0.out tt (fun q h1 h2 => by have r2 : q = R := h2; rcases h1 with r3 | r3; exact r3.2 r2; omega)))
    replace d := Lib.hid (below_turn d.out tt (fun q h => by have r2 : q = R := h; omega) d.out.size)
    have QF := Lib.hid (fun q (h : ((w.heap.size + 1 < q ∧ q ≠ R) ∨ wr.heap.size ≤ q) ∧ q < w10.heap.size) => (show w.heap.size + 1 < q by rcases h.1 with h | h; exact h.1; omega))
    clear r tt PF0 y0 y1 y2
    have p_B0_0 := (cell_of_row w10 _ 0 _ _ _ B0.out).trans (show _ = some (Value.slice a ss.length cap) from rfl)
    have p_B0_1 := (cell_of_row w10 _ 1 _ _ _ B0.out).trans (show _ = some (Value.int .i64 now) from rfl)
    have p_BX_0 := (cell_of_row w10 _ 0 _ _ _ BX.out).trans (show _ = some (Value.slice va9 ss.length vc9) from rfl)
    have p_BX_1 := (cell_of_row w10 _ 1 _ _ _ BX.out).trans (show _ = some (Value.int .i64 now) from rfl)
    refine wp_region_held_drew (S := fun w' => w'.cell? ⟨w.heap.size, 0, none⟩ = some (Value.slice a ss.length cap) ∧ w'.cell? ⟨w.heap.size, 1, none⟩ = some (Value.int .i64 now) ∧ w'.cell? ⟨R, 0, none⟩ = some (Value.slice va9 ss.length vc9) ∧ w'.cell? ⟨R, 1, none⟩ = some (Value.int .i64 now)) (by kernel_rfl) ⟨p_B0_0, p_B0_1, p_BX_0, p_BX_1⟩ (fun hHeld => ?_)
    clear p_B0_0 p_B0_1 p_BX_0 p_BX_1
    have cdr : Below w10.heap.size w10 w10.drew := below_drew (Below.refl _ _)
    replace B0 := Lib.hid ((cdr.block w.heap.size (Array.getElem?_eq_some_iff.1 B0.out).1).trans B0.out)
    replace BZ := Lib.hid ((cdr.block (w.heap.size + 1) (Array.getElem?_eq_some_iff.1 BZ.out).1).trans BZ.out)
    replace BX := Lib.hid ((cdr.block R (Array.getElem?_eq_some_iff.1 BX.out).1).trans BX.out)
    replace PF := Lib.hid (slO_fresh tVersionS_law PF.out cdr)
    replace d := Lib.hid (d.out.trans (cdr.mono d.out.size))
    clear cdr
    have Z_dr := Lib.hid (show w10.heap.size ≤ w10.drew.heap.size from Nat.le_refl _)
    generalize w10.drew = Wd at *
    refine tR (i := 0) (v := ?_) ?_ ?_; rotate_left
    ·
     intro w hSw; (try dsimp only at hSw); go_simp; try (with_reducible rfl)
    try simp only [Act.put, lA, lB, lC]
    refine tR (i := 1) (v := ?_) ?_ ?_; rotate_left
    ·
     intro w hSw; (try dsimp only at hSw); go_simp; try (with_reducible rfl)
    try simp only [Act.put, lA, lB, lC]
    refine tR (i := 3) (v := ?_) ?_ ?_; rotate_left
    ·
     intro w hSw; (try dsimp only at hSw); go_simp; try (with_reducible rfl)
    try simp only [Act.put, lA, lB, lC]
    refine wpAnyH_ready (rs := [2]) (by kernel_rfl) (by simp) ?_
    refine (AllReadyH.cons (o := _) (by simp only [hA, hB, hC]; rfl) (fun K hK => ?_) AllReadyH.nil)
    go_simp
    refine (HCS.out Wd (slR_below tVersionS_law H.out d.out)).mono ?_
    rintro e w11 ⟨rfl, c11⟩
    replace B0 := Lib.hid ((c11.block w.heap.size (Array.getElem?_eq_some_iff.1 B0.out).1).trans B0.out)
    replace BZ := Lib.hid ((c11.block (w.heap.size + 1) (Array.getElem?_eq_some_iff.1 BZ.out).1).trans BZ.out)
    replace BX := Lib.hid ((c11.block R (Array.getElem?_eq_some_iff.1 BX.out).1).trans BX.out)
    replace PF := Lib.hid (slO_fresh tVersionS_law PF.out c11)
    replace d := Lib.hid (d.out.trans (c11.mono d.out.size))
    have Z_w11 := Lib.hid (show Wd.heap.size ≤ w11.heap.size from c11.size)
    clear c11
    have p_B0_0 := (cell_of_row w11 _ 0 _ _ _ B0.out).trans (show _ = some (Value.slice a ss.length cap) from rfl)
    have p_B0_1 := (cell_of_row w11 _ 1 _ _ _ B0.out).trans (show _ = some (Value.int .i64 now) from rfl)
    have p_BX_0 := (cell_of_row w11 _ 0 _ _ _ BX.out).trans (show _ = some (Value.slice va9 ss.length vc9) from rfl)
    have p_BX_1 := (cell_of_row w11 _ 1 _ _ _ BX.out).trans (show _ = some (Value.int .i64 now) from rfl)
    refine hK.out _ _ ⟨p_B0_0, p_B0_1, p_BX_0, p_BX_1⟩ (fun hHeld => ?_)
    clear p_B0_0 p_B0_1 p_BX_0 p_BX_1
    clear hK K
    try simp only [Act.put, lA, lB, lC]
    refine wpAnyH_ready (rs := [4]) (by kernel_rfl) (by simp) ?_
    refine (AllReadyH.cons (o := _) (by simp only [hA, hB, hC]; rfl) (fun K hK => ?_) AllReadyH.nil)
    go_simp
    refine (HCR.out (.slice va9 ss.length vc9) w11 (slO_reads tVersionS_law PF.out)).mono ?_
    rintro e w12 ⟨rfl, c12⟩
    replace B0 := Lib.hid ((c12.block w.heap.size (Array.getElem?_eq_some_iff.1 B0.out).1).trans B0.out)
    replace BZ := Lib.hid ((c12.block (w.heap.size + 1) (Array.getElem?_eq_some_iff.1 BZ.out).1).trans BZ.out)
    replace BX := Lib.hid ((c12.block R (Array.getElem?_eq_some_iff.1 BX.out).1).trans BX.out)
    replace PF := Lib.hid (slO_fresh tVersionS_law PF.out c12)
    replace d := Lib.hid (d.out.trans (c12.mono d.out.size))
    have Z_w12 := Lib.hid (show w11.heap.size ≤ w12.heap.size from c12.size)
    clear c12
    have p_B0_0 := (cell_of_row w12 _ 0 _ _ _ B0.out).trans (show _ = some (Value.slice a ss.length cap) from rfl)
    have p_B0_1 := (cell_of_row w12 _ 1 _ _ _ B0.out).trans (show _ = some (Value.int .i64 now) from rfl)
    have p_BX_0 := (cell_of_row w12 _ 0 _ _ _ BX.out).trans (show _ = some (Value.slice va9 ss.length vc9) from rfl)
    have p_BX_1 := (cell_of_row w12 _ 1 _ _ _ BX.out).trans (show _ = some (Value.int .i64 now) from rfl)
    refine hK.out _ _ ⟨p_B0_0, p_B0_1, p_BX_0, p_BX_1⟩ (fun hHeld => ?_)
    clear p_B0_0 p_B0_1 p_BX_0 p_BX_1
    clear hK K
    try simp only [Act.put, lA, lB, lC]
    refine tR (i := 5) (v := ?_) ?_ ?_; rotate_left
    ·
     intro w hSw; (try dsimp only at hSw); go_simp; try (with_reducible rfl)
    try simp only [Act.put, lA, lB, lC]
    refine wpAnyH_ready (rs := [6]) (by kernel_rfl) (by simp) ?_
    refine (AllReadyH.cons (o := _) (by simp only [hA, hB, hC]; rfl) (fun K hK => ?_) AllReadyH.nil)
    have p_BZ_0 := (cell_of_row w12 _ 0 _ _ _ BZ.out).trans (show _ = some (Value.slice none 0 0) from rfl)
    have p_BZ_1 := (cell_of_row w12 _ 1 _ _ _ BZ.out).trans (show _ = some (Value.int .i64 0) from rfl)
    have f_BZ_0 := frozen_of_row w12 _ 0 _ _ BZ.out
    have f_BZ_1 := frozen_of_row w12 _ 1 _ _ BZ.out
    go_simp
    clear p_BZ_0 p_BZ_1 f_BZ_0 f_BZ_1
    have tt : Turn (fun q => q = w.heap.size + 1) w12 ((w12.setCell ⟨w.heap.size + 1, 0, none⟩ (.slice va9 ss.length vc9)).setCell ⟨w.heap.size + 1, 1, none⟩ (.int .i64 now)) := ((Turn.refl (fun q => q = w.heap.size + 1) _).trans (turn_set (G := fun q => q = w.heap.size + 1) (g := w.heap.size + 1) (j := 0) (u := .slice va9 ss.length vc9) rfl)).trans (turn_set (G := fun q => q = w.heap.size + 1) (g := w.heap.size + 1) (j := 1) (u := .int .i64 now) rfl)
    have r := heap_setCell_same _ (w.heap.size + 1) 1 _ _ (.int .i64 now) (heap_setCell_same w12 (w.heap.size + 1) 0 _ _ (.slice va9 ss.length vc9) BZ.out)
    simp at r
    have y0 := ZR.out
    have y1 := ZR2.out
    have y2 := Z_w9.out
    have y3 := Z_dr.out
    have y4 := Z_w11.out
    have y5 := Z_w12.out
    generalize ((w12.setCell ⟨w.heap.size + 1, 0, none⟩ (.slice va9 ss.length vc9)).setCell ⟨w.heap.size + 1, 1, none⟩ (.int .i64 now)) = w13 at *
    replace B0 := Lib.hid ((tt.block w.heap.size (Array.getElem?_eq_some_iff.1 B0.out).1 (fun h => by have r2 : _ = w.heap.size + 1 := h; omega)).trans B0.out)
    replace BX := Lib.hid ((tt.block R (Array.getElem?_eq_some_iff.1 BX.out).1 (fun h => by have r2 : _ = w.heap.size + 1 := h; omega)).trans BX.out)
    replace BZ : Hid (w13.heap[w.heap.size + 1]? = some (.cells #[.slice va9 ss.length vc9, .int .i64 now] 41 (0, 0))) := Lib.hid r
    replace d := Lib.hid (below_turn d.out tt (fun q h => by omega) d.out.size)
    have PE := Lib.hid (slO_turn tVersionS_law PF.out tt (fun q h1 h2 => by have r1 := QF.out q h1; omega))
    have QE := Lib.hid (fun q h => (show w.heap.size ≤ q by have r1 := QF.out q h; omega))
    clear tt r PF y0 y1 y2 y3 y4 y5
    have p_B0_0 := (cell_of_row w13 _ 0 _ _ _ B0.out).trans (show _ = some (Value.slice a ss.length cap) from rfl)
    have p_B0_1 := (cell_of_row w13 _ 1 _ _ _ B0.out).trans (show _ = some (Value.int .i64 now) from rfl)
    have p_BX_0 := (cell_of_row w13 _ 0 _ _ _ BX.out).trans (show _ = some (Value.slice va9 ss.length vc9) from rfl)
    have p_BX_1 := (cell_of_row w13 _ 1 _ _ _ BX.out).trans (show _ = some (Value.int .i64 now) from rfl)
    refine hK.out _ _ ⟨p_B0_0, p_B0_1, p_BX_0, p_BX_1⟩ (fun hHeld => ?_)
    clear p_B0_0 p_B0_1 p_BX_0 p_BX_1
    clear hK K
    try simp only [Act.put, lA, lB, lC]
    refine tR (i := 7) (v := ?_) ?_ ?_; rotate_left
    ·
     intro w hSw; (try dsimp only at hSw); go_simp; try (with_reducible rfl)
    try simp only [Act.put, lA, lB, lC]
    refine wpAnyH_done (by kernel_rfl) ?_ _
    clear hHeld
    have e0 := cell_of_row _ _ 0 _ _ _ BZ.out
    have e1 := cell_of_row _ _ 1 _ _ _ BZ.out
    simp at e0 e1
    go_wp2
    refine bodyPost_ret (v := .tuple #[.agg #[.slice va9 ss.length vc9, .int .i64 now], .int .i64 ((p : Int) - (p2 : Int))]) ?_ rfl ?_
    ·
     simp [results, Try.f30, go_sem, e0, e1]; exact IntWalk.i64_in _ (by omega)
    ·
     show FreshNI _ _ _ _; rw [HE.out]; exact ⟨[.slice va9 ss.length vc9, .int .i64 now], _, rfl, tStore_mkO PE.out (fun q h => h), QE.out, d.out⟩
def fitR (n : Nat) (r : StoreD) : StoreD := if n ≤ 1048576 then r else ([], 0)
theorem fitR_yes {n : Nat} {r : StoreD} (h : n ≤ 1048576) : fitR n r = r := if_pos h
theorem rec_fit (ss : List (List VerD)) (now : Int) (keep : List Int) : tStore.sz (fitR (zL tVersionS ss) (reclaimB (ss, now) keep).1) ≤ 1048576 := by
 unfold fitR
 split
 ·
  rename_i h
  exact rec_small h
 ·
  rw [tStore_sz]; decide
theorem fitSpecRec (ss : List (List VerD)) (now : Int) (keep : List Int) (sv kv : Value) (w : World) (h : SlR tVersionS w sv ss) (g : SlR tInt w kv keep) (hz : zL tVersionS ss ≤ 1048576) (hk : keep.length ≤ 1048576) :
  Calls Try.prog 28 #[.agg #[sv, .int .i64 now], kv] w (fun e w' => ∃ (g0 : List Value) (G0 : Nat → Prop), e = .returned (.tuple #[.agg g0.toArray, .int .i64 (reclaimB (ss, now) keep).2]) ∧ tStore.O w' G0 g0 (fitR (zL tVersionS ss) (reclaimB (ss, now) keep).1) ∧ (∀ b, G0 b → w.heap.size ≤ b) ∧ Below w.heap.size w w') := by
 rw [fitR_yes hz]
 exact specReclaimStore now sv kv ss keep w h hz g hk
theorem fitImplRec (ss : List (List VerD)) (now : Int) (keep : List Int) (sv kv : Value) (w : World) (h : SlR tVersionS w sv ss) (g : SlR tInt w kv keep) (hz : zL tVersionS ss ≤ 1048576) (hk : keep.length ≤ 1048576) :
  Calls Try.prog 30 #[.agg #[sv, .int .i64 now], kv] w (fun e w' => ∃ (g0 : List Value) (G0 : Nat → Prop), e = .returned (.tuple #[.agg g0.toArray, .int .i64 (reclaimB (ss, now) keep).2]) ∧ tStore.O w' G0 g0 (fitR (zL tVersionS ss) (reclaimB (ss, now) keep).1) ∧ (∀ b, G0 b → w.heap.size ≤ b) ∧ Below w.heap.size w w') := by
 rw [fitR_yes hz]
 exact implReclaimStore now sv kv ss keep w h hz g hk
set_option maxHeartbeats 32000000 in
set_option maxRecDepth 100000 in
theorem law_fnExactReclaimStore (a0_1 : Int) (v0_0 : Value) (x0_0 : List (List (Int × List Int × Int × Int))) (v1_0 : Value) (x1_0 : List Int) (r0 : List (List (Int × List Int × Int × Int)) × Int) (r1 : Int) (w : World) (h0_0 : SlR tVersionS w v0_0 x0_0) (h1_0 : SlR tInt w v1_0 x1_0) (o0_0 : tVersionSS.ok x0_0) (o1_0 : tIntS.ok x1_0) (z0 : tStore.sz r0 ≤ 1048576)
  (hspec : ∀ (v0_0 v1_0 : Value) (w : World), SlR tVersionS w v0_0 x0_0 → SlR tInt w v1_0 x1_0 → zL tVersionS x0_0 ≤ 1048576 → x1_0.length ≤ 1048576 → Calls Try.prog 28 #[.agg #[v0_0, .int .i64 a0_1], v1_0] w (fun e w' => ∃ (g0 : List Value) (G0 : Nat → Prop), e = .returned (.tuple #[.agg g0.toArray, .int .i64 r1]) ∧ tStore.O w' G0 g0 r0 ∧ (∀ b, G0 b → w.heap.size ≤ b) ∧ Below w.heap.size w w'))
  (himpl : ∀ (v0_0 v1_0 : Value) (w : World), SlR tVersionS w v0_0 x0_0 → SlR tInt w v1_0 x1_0 → zL tVersionS x0_0 ≤ 1048576 → x1_0.length ≤ 1048576 → Calls Try.prog 30 #[.agg #[v0_0, .int .i64 a0_1], v1_0] w (fun e w' => ∃ (g0 : List Value) (G0 : Nat → Prop), e = .returned (.tuple #[.agg g0.toArray, .int .i64 r1]) ∧ tStore.O w' G0 g0 r0 ∧ (∀ b, G0 b → w.heap.size ≤ b) ∧ Below w.heap.size w w')) :
  Calls Try.prog 6 #[.agg #[v0_0, .int .i64 a0_1], v1_0] w fun e w' => e = .returned (.bool true) ∧ Below w.heap.size w w' := by
 obtain ⟨c0_0, k0_0, rfl⟩ := slR_len h0_0
 obtain ⟨c1_0, k1_0, rfl⟩ := slR_len h1_0
 have HB0 : Hid (Below w.heap.size w (w.alloc (.cells #[.slice c0_0 x0_0.length k0_0, .int .i64 a0_1] 37))) := Lib.hid ((Below.refl _ w).alloc (Nat.le_refl _) _)
 have B0 : Hid ((w.alloc (.cells #[.slice c0_0 x0_0.length k0_0, .int .i64 a0_1] 37)).heap[w.heap.size]? = some (.cells #[.slice c0_0 x0_0.length k0_0, .int .i64 a0_1] 37 (0, 0))) := Lib.hid (by have := heap_alloc_new w (.cells #[.slice c0_0 x0_0.length k0_0, .int .i64 a0_1] 37); simpa only [World.size_alloc] using this)
 have A0_0 : Hid (SlR tVersionS (w.alloc (.cells #[.slice c0_0 x0_0.length k0_0, .int .i64 a0_1] 37)) (.slice c0_0 x0_0.length k0_0) x0_0) := Lib.hid (slR_below tVersionS_law h0_0 HB0.out)
 have A1_0 : Hid (SlR tInt (w.alloc (.cells #[.slice c0_0 x0_0.length k0_0, .int .i64 a0_1] 37)) (.slice c1_0 x1_0.length k1_0) x1_0) := Lib.hid (slR_below tInt_law h1_0 HB0.out)
 have O0_0 := Lib.hid o0_0
 have O1_0 := Lib.hid o1_0
 clear h0_0 o0_0 h1_0 o1_0
 have HSP := Lib.hid hspec
 have HIM := Lib.hid himpl
 clear hspec himpl
 have Z0 := Lib.hid z0
 clear z0
 by_cases c0 : x1_0.length ≤ 1048576
 ·
  by_cases c1 : ((zL tVersionS x0_0 : Nat) : Int) ≤ (1048576 : Int)
  ·
   have HZ0 : Hid (((zL tVersionS x0_0 : Nat) : Int) ≤ (1048576 : Int)) := Lib.hid c1
   have HK0 : Hid ((1048576 : Int) ≤ 1048576) := Lib.hid (by omega)
   have hn0 : ¬ (1048576 : Int) - ((zL tVersionS x0_0 : Nat) : Int) < 0 := by omega
   have hl1 : ¬ (1048576 : Int) < (x1_0.length : Int) := by omega
   have HL1 := Lib.hid c0
   have HT : Hid (zL tVersionS x0_0 ≤ 1048576) := Lib.hid (by omega)
   have S0_0 : Hid (zL tVersionS x0_0 ≤ 1048576) := Lib.hid (by omega)
   have S1_0 : Hid (zL tInt x1_0 ≤ 1048576) := Lib.hid (by rw [zL_ints]; exact HL1.out)
   have N0_0 := ndL_le tVersionS_law (by decide) x0_0
   have N1_0 := ndL_le tInt_law (by decide) x1_0
   have M0 : Hid (0 ≤ (1 : Int) ∧ (1 : Int) ≤ 134217728) := Lib.hid (by have := HT.out; have := S1_0.out; omega)
   have M1 : Hid (0 ≤ (1 + (ndL tVersionS x0_0 : Int) : Int) ∧ (1 + (ndL tVersionS x0_0 : Int) : Int) ≤ 134217728) := Lib.hid (by have := HT.out; have := S1_0.out; omega)
   have hk : ¬ (1 + (ndL tVersionS x0_0 : Int) + (ndL tInt x1_0 : Int) : Int) < 0 := by omega
   clear N0_0 N1_0
   have e1 : (r1 != r1) = false := by simp
   obtain ⟨xr0_0, ar0_1⟩ := r0
   have ZZ0 := Z0.out
   rw [tStore_sz] at ZZ0
   have NR0_0 := ndL_le tVersionS_law (by decide) xr0_0
   have Z0_0 : Hid (zL tVersionS xr0_0 ≤ 1048576) := Lib.hid (by omega)
   have MR0 : Hid (0 ≤ (1 : Int) ∧ (1 : Int) ≤ 134217728) := Lib.hid (by omega)
   have hh0 : ¬ (1 + (ndL tVersionS xr0_0 : Int) : Int) < 0 := by omega
   have hq : ((1 + (ndL tVersionS xr0_0 : Int) : Int) != 1 + (ndL tVersionS xr0_0 : Int)) = false := by simp
   clear ZZ0 NR0_0
   clear c0 c1
   go_enter Try.func6, Try.ntmps6
   go_wp2_with fail
   have Y_W : Hid (w.heap.size + 1 ≤ (w.alloc (.cells #[.slice c0_0 x0_0.length k0_0, .int .i64 a0_1] 37)).heap.size) := Lib.hid (by simp [World.size_alloc])
   generalize (w.alloc (.cells #[.slice c0_0 x0_0.length k0_0, .int .i64 a0_1] 37)) = W at *
   have d := Lib.hid (Below.refl W.heap.size W)
   refine (szStore_Y a0_1 (.slice c0_0 x0_0.length k0_0) x0_0 ((1048576 : Int)) W (slR_below tVersionS_law A0_0.out d.out) HZ0.out HK0.out).mono ?_
   rintro e v1 ⟨rfl, c1⟩
   replace B0 := Lib.hid ((c1.block w.heap.size (Array.getElem?_eq_some_iff.1 B0.out).1).trans B0.out)
   replace d := Lib.hid (d.out.trans (c1.mono d.out.size))
   have Z_v1 := Lib.hid (show W.heap.size ≤ v1.heap.size from c1.size)
   clear c1
   have p_B0_0 := (cell_of_row v1 _ 0 _ _ _ B0.out).trans (show _ = some (Value.slice c0_0 x0_0.length k0_0) from rfl)
   have p_B0_1 := (cell_of_row v1 _ 1 _ _ _ B0.out).trans (show _ = some (Value.int .i64 a0_1) from rfl)
   go_wp2_with fail
   clear p_B0_0 p_B0_1
   refine (toStore_T a0_1 (.slice c0_0 x0_0.length k0_0) x0_0 v1 (slR_below tVersionS_law A0_0.out d.out) S0_0.out).mono ?_
   rintro e v2 ⟨cs, rfl, ow, c2⟩
   replace B0 := Lib.hid ((c2.block w.heap.size (Array.getElem?_eq_some_iff.1 B0.out).1).trans B0.out)
   replace d := Lib.hid (d.out.trans (c2.mono d.out.size))
   have Z_v2 := Lib.hid (show v1.heap.size ≤ v2.heap.size from c2.size)
   clear c2
   replace ow := tStore_law.lt ow
   obtain ⟨y2_0, K2_0, rfl, p2_0, w2_0⟩ := tStore_O ow
   obtain ⟨ya2_0, yc2_0, rfl⟩ := slO_len p2_0
   have P2_0 := Lib.hid p2_0
   have Q2_0 := Lib.hid (fun b h => (show v1.heap.size ≤ b ∧ b < v2.heap.size from w2_0 b h))
   clear p2_0 w2_0 ow
   go_wp2_with fail
   refine (toIntS_S (.slice c1_0 x1_0.length k1_0) x1_0 v2 (slR_below tInt_law A1_0.out d.out) S1_0.out).mono ?_
   rintro e v3 ⟨y, rfl, o, c3⟩
   replace B0 := Lib.hid ((c3.block w.heap.size (Array.getElem?_eq_some_iff.1 B0.out).1).trans B0.out)
   replace P2_0 := Lib.hid (slO_fresh tVersionS_law P2_0.out c3)
   replace d := Lib.hid (d.out.trans (c3.mono d.out.size))
   have Z_v3 := Lib.hid (show v2.heap.size ≤ v3.heap.size from c3.size)
   clear c3
   obtain ⟨ya3, yc3, rfl⟩ := slO_len o
   have P3 := Lib.hid (slO_lt tInt_law o)
   have Q3 := Lib.hid (fun b (h : since v2 b ∧ b < v3.heap.size) => (show v2.heap.size ≤ b ∧ b < v3.heap.size from h))
   clear o
   go_wp2_with fail
   refine (HSP.out (.slice ya2_0 x0_0.length yc2_0) (.slice ya3 x1_0.length yc3) v3 (slO_reads tVersionS_law P2_0.out) (slO_reads tInt_law P3.out) HT.out HL1.out).mono ?_
   rintro e v4 ⟨g0, G0, rfl, o0, q0, c4⟩
   replace B0 := Lib.hid ((c4.block w.heap.size (Array.getElem?_eq_some_iff.1 B0.out).1).trans B0.out)
   replace P2_0 := Lib.hid (slO_fresh tVersionS_law P2_0.out c4)
   replace P3 := Lib.hid (slO_fresh tInt_law P3.out c4)
   replace d := Lib.hid (d.out.trans (c4.mono d.out.size))
   have Z_v4 := Lib.hid (show v3.heap.size ≤ v4.heap.size from c4.size)
   clear c4
   replace o0 := tStore_law.lt o0
   obtain ⟨y4_0, K4_0, rfl, p4_0, w4_0⟩ := tStore_O o0
   obtain ⟨ya4_0, yc4_0, rfl⟩ := slO_len p4_0
   have P4_0 := Lib.hid p4_0
   have Q4_0 := Lib.hid (fun b h => (show v3.heap.size ≤ b ∧ b < v4.heap.size from ⟨q0 b (w4_0 b h).1, (w4_0 b h).2⟩))
   clear p4_0 w4_0 o0 q0
   have hal : Below v4.heap.size v4 (v4.alloc (.cells #[.slice ya4_0 xr0_0.length yc4_0, .int .i64 ar0_1] 41)) := (Below.refl _ _).alloc (Nat.le_refl _) _
   have X1 := Lib.hid (heap_alloc_new v4 (.cells #[.slice ya4_0 xr0_0.length yc4_0, .int .i64 ar0_1] 41))
   have Y_X1 := Lib.hid (show v4.heap.size < (v4.alloc (.cells #[.slice ya4_0 xr0_0.length yc4_0, .int .i64 ar0_1] 41)).heap.size by simp [World.size_alloc])
   replace B0 := Lib.hid ((hal.block w.heap.size (Array.getElem?_eq_some_iff.1 B0.out).1).trans B0.out)
   replace P2_0 := Lib.hid (slO_fresh tVersionS_law P2_0.out hal)
   replace P3 := Lib.hid (slO_fresh tInt_law P3.out hal)
   replace P4_0 := Lib.hid (slO_fresh tVersionS_law P4_0.out hal)
   replace d := Lib.hid (d.out.trans (hal.mono d.out.size))
   clear hal
   have p_B0_0 := (cell_of_row (v4.alloc (.cells #[.slice ya4_0 xr0_0.length yc4_0, .int .i64 ar0_1] 41)) _ 0 _ _ _ B0.out).trans (show _ = some (Value.slice c0_0 x0_0.length k0_0) from rfl)
   have p_B0_1 := (cell_of_row (v4.alloc (.cells #[.slice ya4_0 xr0_0.length yc4_0, .int .i64 ar0_1] 41)) _ 1 _ _ _ B0.out).trans (show _ = some (Value.int .i64 a0_1) from rfl)
   go_wp2_with fail
   clear p_B0_0 p_B0_1
   generalize (v4.alloc (.cells #[.slice ya4_0 xr0_0.length yc4_0, .int .i64 ar0_1] 41)) = u5 at *
   refine (toStore_T a0_1 (.slice c0_0 x0_0.length k0_0) x0_0 u5 (slR_below tVersionS_law A0_0.out d.out) S0_0.out).mono ?_
   rintro e v6 ⟨cs, rfl, ow, c6⟩
   replace B0 := Lib.hid ((c6.block w.heap.size (Array.getElem?_eq_some_iff.1 B0.out).1).trans B0.out)
   replace X1 := Lib.hid ((c6.block v4.heap.size (Array.getElem?_eq_some_iff.1 X1.out).1).trans X1.out)
   replace P2_0 := Lib.hid (slO_fresh tVersionS_law P2_0.out c6)
   replace P3 := Lib.hid (slO_fresh tInt_law P3.out c6)
   replace P4_0 := Lib.hid (slO_fresh tVersionS_law P4_0.out c6)
   replace d := Lib.hid (d.out.trans (c6.mono d.out.size))
   have Z_v6 := Lib.hid (show u5.heap.size ≤ v6.heap.size from c6.size)
   clear c6
   replace ow := tStore_law.lt ow
   obtain ⟨y6_0, K6_0, rfl, p6_0, w6_0⟩ := tStore_O ow
   obtain ⟨ya6_0, yc6_0, rfl⟩ := slO_len p6_0
   have P6_0 := Lib.hid p6_0
   have Q6_0 := Lib.hid (fun b h => (show u5.heap.size ≤ b ∧ b < v6.heap.size from w6_0 b h))
   clear p6_0 w6_0 ow
   have hal : Below v6.heap.size v6 (v6.alloc (.cells #[.slice ya6_0 x0_0.length yc6_0, .int .i64 a0_1] 41)) := (Below.refl _ _).alloc (Nat.le_refl _) _
   have X2 := Lib.hid (heap_alloc_new v6 (.cells #[.slice ya6_0 x0_0.length yc6_0, .int .i64 a0_1] 41))
   have Y_X2 := Lib.hid (show v6.heap.size < (v6.alloc (.cells #[.slice ya6_0 x0_0.length yc6_0, .int .i64 a0_1] 41)).heap.size by simp [World.size_alloc])
   replace B0 := Lib.hid ((hal.block w.heap.size (Array.getElem?_eq_some_iff.1 B0.out).1).trans B0.out)
   replace X1 := Lib.hid ((hal.block v4.heap.size (Array.getElem?_eq_some_iff.1 X1.out).1).trans X1.out)
   replace P2_0 := Lib.hid (slO_fresh tVersionS_law P2_0.out hal)
   replace P3 := Lib.hid (slO_fresh tInt_law P3.out hal)
   replace P4_0 := Lib.hid (slO_fresh tVersionS_law P4_0.out hal)
   replace P6_0 := Lib.hid (slO_fresh tVersionS_law P6_0.out hal)
   replace d := Lib.hid (d.out.trans (hal.mono d.out.size))
   clear hal
   go_wp2_with fail
   generalize (v6.alloc (.cells #[.slice ya6_0 x0_0.length yc6_0, .int .i64 a0_1] 41)) = u7 at *
   refine (toIntS_S (.slice c1_0 x1_0.length k1_0) x1_0 u7 (slR_below tInt_law A1_0.out d.out) S1_0.out).mono ?_
   rintro e v8 ⟨y, rfl, o, c8⟩
   replace B0 := Lib.hid ((c8.block w.heap.size (Array.getElem?_eq_some_iff.1 B0.out).1).trans B0.out)
   replace X1 := Lib.hid ((c8.block v4.heap.size (Array.getElem?_eq_some_iff.1 X1.out).1).trans X1.out)
   replace X2 := Lib.hid ((c8.block v6.heap.size (Array.getElem?_eq_some_iff.1 X2.out).1).trans X2.out)
   replace P2_0 := Lib.hid (slO_fresh tVersionS_law P2_0.out c8)
   replace P3 := Lib.hid (slO_fresh tInt_law P3.out c8)
   replace P4_0 := Lib.hid (slO_fresh tVersionS_law P4_0.out c8)
   replace P6_0 := Lib.hid (slO_fresh tVersionS_law P6_0.out c8)
   replace d := Lib.hid (d.out.trans (c8.mono d.out.size))
   have Z_v8 := Lib.hid (show u7.heap.size ≤ v8.heap.size from c8.size)
   clear c8
   obtain ⟨ya8, yc8, rfl⟩ := slO_len o
   have P8 := Lib.hid (slO_lt tInt_law o)
   have Q8 := Lib.hid (fun b (h : since u7 b ∧ b < v8.heap.size) => (show u7.heap.size ≤ b ∧ b < v8.heap.size from h))
   clear o
   have p_X2_0 := (cell_of_row v8 _ 0 _ _ _ X2.out).trans (show _ = some (Value.slice ya6_0 x0_0.length yc6_0) from rfl)
   have p_X2_1 := (cell_of_row v8 _ 1 _ _ _ X2.out).trans (show _ = some (Value.int .i64 a0_1) from rfl)
   go_wp2_with fail
   clear p_X2_0 p_X2_1
   refine (HIM.out (.slice ya6_0 x0_0.length yc6_0) (.slice ya8 x1_0.length yc8) v8 (slO_reads tVersionS_law P6_0.out) (slO_reads tInt_law P8.out) HT.out HL1.out).mono ?_
   rintro e v9 ⟨g0, G0, rfl, o0, q0, c9⟩
   replace B0 := Lib.hid ((c9.block w.heap.size (Array.getElem?_eq_some_iff.1 B0.out).1).trans B0.out)
   replace X1 := Lib.hid ((c9.block v4.heap.size (Array.getElem?_eq_some_iff.1 X1.out).1).trans X1.out)
   replace X2 := Lib.hid ((c9.block v6.heap.size (Array.getElem?_eq_some_iff.1 X2.out).1).trans X2.out)
   replace P2_0 := Lib.hid (slO_fresh tVersionS_law P2_0.out c9)
   replace P3 := Lib.hid (slO_fresh tInt_law P3.out c9)
   replace P4_0 := Lib.hid (slO_fresh tVersionS_law P4_0.out c9)
   replace P6_0 := Lib.hid (slO_fresh tVersionS_law P6_0.out c9)
   replace P8 := Lib.hid (slO_fresh tInt_law P8.out c9)
   replace d := Lib.hid (d.out.trans (c9.mono d.out.size))
   have Z_v9 := Lib.hid (show v8.heap.size ≤ v9.heap.size from c9.size)
   clear c9
   replace o0 := tStore_law.lt o0
   obtain ⟨y9_0, K9_0, rfl, p9_0, w9_0⟩ := tStore_O o0
   obtain ⟨ya9_0, yc9_0, rfl⟩ := slO_len p9_0
   have P9_0 := Lib.hid p9_0
   have Q9_0 := Lib.hid (fun b h => (show v8.heap.size ≤ b ∧ b < v9.heap.size from ⟨q0 b (w9_0 b h).1, (w9_0 b h).2⟩))
   clear p9_0 w9_0 o0 q0
   have hal : Below v9.heap.size v9 (v9.alloc (.cells #[.slice ya9_0 xr0_0.length yc9_0, .int .i64 ar0_1] 41)) := (Below.refl _ _).alloc (Nat.le_refl _) _
   have X3 := Lib.hid (heap_alloc_new v9 (.cells #[.slice ya9_0 xr0_0.length yc9_0, .int .i64 ar0_1] 41))
   have Y_X3 := Lib.hid (show v9.heap.size < (v9.alloc (.cells #[.slice ya9_0 xr0_0.length yc9_0, .int .i64 ar0_1] 41)).heap.size by simp [World.size_alloc])
   replace B0 := Lib.hid ((hal.block w.heap.size (Array.getElem?_eq_some_iff.1 B0.out).1).trans B0.out)
   replace X1 := Lib.hid ((hal.block v4.heap.size (Array.getElem?_eq_some_iff.1 X1.out).1).trans X1.out)
   replace X2 := Lib.hid ((hal.block v6.heap.size (Array.getElem?_eq_some_iff.1 X2.out).1).trans X2.out)
   replace P2_0 := Lib.hid (slO_fresh tVersionS_law P2_0.out hal)
   replace P3 := Lib.hid (slO_fresh tInt_law P3.out hal)
   replace P4_0 := Lib.hid (slO_fresh tVersionS_law P4_0.out hal)
   replace P6_0 := Lib.hid (slO_fresh tVersionS_law P6_0.out hal)
   replace P8 := Lib.hid (slO_fresh tInt_law P8.out hal)
   replace P9_0 := Lib.hid (slO_fresh tVersionS_law P9_0.out hal)
   replace d := Lib.hid (d.out.trans (hal.mono d.out.size))
   clear hal
   have p_X1_0 := (cell_of_row (v9.alloc (.cells #[.slice ya9_0 xr0_0.length yc9_0, .int .i64 ar0_1] 41)) _ 0 _ _ _ X1.out).trans (show _ = some (Value.slice ya4_0 xr0_0.length yc4_0) from rfl)
   have p_X1_1 := (cell_of_row (v9.alloc (.cells #[.slice ya9_0 xr0_0.length yc9_0, .int .i64 ar0_1] 41)) _ 1 _ _ _ X1.out).trans (show _ = some (Value.int .i64 ar0_1) from rfl)
   have p_X3_0 := (cell_of_row (v9.alloc (.cells #[.slice ya9_0 xr0_0.length yc9_0, .int .i64 ar0_1] 41)) _ 0 _ _ _ X3.out).trans (show _ = some (Value.slice ya9_0 xr0_0.length yc9_0) from rfl)
   have p_X3_1 := (cell_of_row (v9.alloc (.cells #[.slice ya9_0 xr0_0.length yc9_0, .int .i64 ar0_1] 41)) _ 1 _ _ _ X3.out).trans (show _ = some (Value.int .i64 ar0_1) from rfl)
   go_wp2_with fail
   clear p_X1_0 p_X1_1 p_X3_0 p_X3_1
   generalize (v9.alloc (.cells #[.slice ya9_0 xr0_0.length yc9_0, .int .i64 ar0_1] 41)) = u10 at *
   refine (eqStore_T ar0_1 (.slice ya9_0 xr0_0.length yc9_0) xr0_0 (.slice ya4_0 xr0_0.length yc4_0) u10 (slO_reads tVersionS_law P9_0.out) (slO_reads tVersionS_law P4_0.out) Z0_0.out).mono ?_
   rintro e v11 ⟨rfl, c11⟩
   replace B0 := Lib.hid ((c11.block w.heap.size (Array.getElem?_eq_some_iff.1 B0.out).1).trans B0.out)
   replace X1 := Lib.hid ((c11.block v4.heap.size (Array.getElem?_eq_some_iff.1 X1.out).1).trans X1.out)
   replace X2 := Lib.hid ((c11.block v6.heap.size (Array.getElem?_eq_some_iff.1 X2.out).1).trans X2.out)
   replace X3 := Lib.hid ((c11.block v9.heap.size (Array.getElem?_eq_some_iff.1 X3.out).1).trans X3.out)
   replace P2_0 := Lib.hid (slO_fresh tVersionS_law P2_0.out c11)
   replace P3 := Lib.hid (slO_fresh tInt_law P3.out c11)
   replace P4_0 := Lib.hid (slO_fresh tVersionS_law P4_0.out c11)
   replace P6_0 := Lib.hid (slO_fresh tVersionS_law P6_0.out c11)
   replace P8 := Lib.hid (slO_fresh tInt_law P8.out c11)
   replace P9_0 := Lib.hid (slO_fresh tVersionS_law P9_0.out c11)
   replace d := Lib.hid (d.out.trans (c11.mono d.out.size))
   have Z_v11 := Lib.hid (show u10.heap.size ≤ v11.heap.size from c11.size)
   clear c11
   go_wp2
   have p_B0_0 := (cell_of_row v11 _ 0 _ _ _ B0.out).trans (show _ = some (Value.slice c0_0 x0_0.length k0_0) from rfl)
   have p_B0_1 := (cell_of_row v11 _ 1 _ _ _ B0.out).trans (show _ = some (Value.int .i64 a0_1) from rfl)
   have p_X2_0 := (cell_of_row v11 _ 0 _ _ _ X2.out).trans (show _ = some (Value.slice ya6_0 x0_0.length yc6_0) from rfl)
   have p_X2_1 := (cell_of_row v11 _ 1 _ _ _ X2.out).trans (show _ = some (Value.int .i64 a0_1) from rfl)
   refine wp_region_held_drew (S := fun w' => w'.cell? ⟨w.heap.size, 0, none⟩ = some (Value.slice c0_0 x0_0.length k0_0) ∧ w'.cell? ⟨w.heap.size, 1, none⟩ = some (Value.int .i64 a0_1) ∧ w'.cell? ⟨v6.heap.size, 0, none⟩ = some (Value.slice ya6_0 x0_0.length yc6_0) ∧ w'.cell? ⟨v6.heap.size, 1, none⟩ = some (Value.int .i64 a0_1)) (by kernel_rfl) ⟨p_B0_0, p_B0_1, p_X2_0, p_X2_1⟩ (fun hHeld => ?_)
   clear p_B0_0 p_B0_1 p_X2_0 p_X2_1
   have cd12 : Below v11.heap.size v11 v11.drew := below_drew (Below.refl _ _)
   replace B0 := Lib.hid ((cd12.block w.heap.size (Array.getElem?_eq_some_iff.1 B0.out).1).trans B0.out)
   replace X1 := Lib.hid ((cd12.block v4.heap.size (Array.getElem?_eq_some_iff.1 X1.out).1).trans X1.out)
   replace X2 := Lib.hid ((cd12.block v6.heap.size (Array.getElem?_eq_some_iff.1 X2.out).1).trans X2.out)
   replace X3 := Lib.hid ((cd12.block v9.heap.size (Array.getElem?_eq_some_iff.1 X3.out).1).trans X3.out)
   replace P2_0 := Lib.hid (slO_fresh tVersionS_law P2_0.out cd12)
   replace P3 := Lib.hid (slO_fresh tInt_law P3.out cd12)
   replace P4_0 := Lib.hid (slO_fresh tVersionS_law P4_0.out cd12)
   replace P6_0 := Lib.hid (slO_fresh tVersionS_law P6_0.out cd12)
   replace P8 := Lib.hid (slO_fresh tInt_law P8.out cd12)
   replace P9_0 := Lib.hid (slO_fresh tVersionS_law P9_0.out cd12)
   replace d := Lib.hid (d.out.trans (cd12.mono d.out.size))
   clear cd12
   refine tR (i := 0) (v := ?_) ?_ ?_; rotate_left
   ·
    intro w hSw; (try dsimp only at hSw); go_simp; try (with_reducible rfl)
   try simp only [Act.put, lA, lB, lC]
   refine tR (i := 1) (v := ?_) ?_ ?_; rotate_left
   ·
    intro w hSw; (try dsimp only at hSw); go_simp; try (with_reducible rfl)
   try simp only [Act.put, lA, lB, lC]
   refine wpAnyH_ready (rs := [2]) (by kernel_rfl) (by simp) ?_
   refine AllReadyH.cons (o := _) (by simp only [hA, hB, hC]; rfl) (fun K hK => ?_) AllReadyH.nil
   go_simp
   refine (toStore_T a0_1 (.slice c0_0 x0_0.length k0_0) x0_0 (v11.drew) (slR_below tVersionS_law A0_0.out d.out) S0_0.out).mono ?_
   rintro e v13 ⟨cs, rfl, ow, c13⟩
   replace B0 := Lib.hid ((c13.block w.heap.size (Array.getElem?_eq_some_iff.1 B0.out).1).trans B0.out)
   replace X1 := Lib.hid ((c13.block v4.heap.size (Array.getElem?_eq_some_iff.1 X1.out).1).trans X1.out)
   replace X2 := Lib.hid ((c13.block v6.heap.size (Array.getElem?_eq_some_iff.1 X2.out).1).trans X2.out)
   replace X3 := Lib.hid ((c13.block v9.heap.size (Array.getElem?_eq_some_iff.1 X3.out).1).trans X3.out)
   replace P2_0 := Lib.hid (slO_fresh tVersionS_law P2_0.out c13)
   replace P3 := Lib.hid (slO_fresh tInt_law P3.out c13)
   replace P4_0 := Lib.hid (slO_fresh tVersionS_law P4_0.out c13)
   replace P6_0 := Lib.hid (slO_fresh tVersionS_law P6_0.out c13)
   replace P8 := Lib.hid (slO_fresh tInt_law P8.out c13)
   replace P9_0 := Lib.hid (slO_fresh tVersionS_law P9_0.out c13)
   replace d := Lib.hid (d.out.trans (c13.mono d.out.size))
   have Z_v13 := Lib.hid (show v11.heap.size ≤ v13.heap.size from c13.size)
   clear c13
   replace ow := tStore_law.lt ow
   obtain ⟨y13_0, K13_0, rfl, p13_0, w13_0⟩ := tStore_O ow
   obtain ⟨ya13_0, yc13_0, rfl⟩ := slO_len p13_0
   have P13_0 := Lib.hid p13_0
   have Q13_0 := Lib.hid (fun b h => (show (v11.drew).heap.size ≤ b ∧ b < v13.heap.size from w13_0 b h))
   clear p13_0 w13_0 ow
   have p_B0_0 := (cell_of_row v13 _ 0 _ _ _ B0.out).trans (show _ = some (Value.slice c0_0 x0_0.length k0_0) from rfl)
   have p_B0_1 := (cell_of_row v13 _ 1 _ _ _ B0.out).trans (show _ = some (Value.int .i64 a0_1) from rfl)
   have p_X2_0 := (cell_of_row v13 _ 0 _ _ _ X2.out).trans (show _ = some (Value.slice ya6_0 x0_0.length yc6_0) from rfl)
   have p_X2_1 := (cell_of_row v13 _ 1 _ _ _ X2.out).trans (show _ = some (Value.int .i64 a0_1) from rfl)
   refine hK.out _ _ ⟨p_B0_0, p_B0_1, p_X2_0, p_X2_1⟩ (fun hHeld => ?_)
   clear p_B0_0 p_B0_1 p_X2_0 p_X2_1
   clear hK K
   try simp only [Act.put, lA, lB, lC]
   refine wpAnyH_ready (rs := [3]) (by kernel_rfl) (by simp) ?_
   refine AllReadyH.cons (o := _) (by simp only [hA, hB, hC]; rfl) (fun K hK => ?_) AllReadyH.nil
   go_simp
   refine (eqStore_T a0_1 (.slice ya6_0 x0_0.length yc6_0) x0_0 (.slice ya13_0 x0_0.length yc13_0) v13 (slO_reads tVersionS_law P6_0.out) (slO_reads tVersionS_law P13_0.out) S0_0.out).mono ?_
   rintro e v14 ⟨rfl, c14⟩
   replace B0 := Lib.hid ((c14.block w.heap.size (Array.getElem?_eq_some_iff.1 B0.out).1).trans B0.out)
   replace X1 := Lib.hid ((c14.block v4.heap.size (Array.getElem?_eq_some_iff.1 X1.out).1).trans X1.out)
   replace X2 := Lib.hid ((c14.block v6.heap.size (Array.getElem?_eq_some_iff.1 X2.out).1).trans X2.out)
   replace X3 := Lib.hid ((c14.block v9.heap.size (Array.getElem?_eq_some_iff.1 X3.out).1).trans X3.out)
   replace P2_0 := Lib.hid (slO_fresh tVersionS_law P2_0.out c14)
   replace P3 := Lib.hid (slO_fresh tInt_law P3.out c14)
   replace P4_0 := Lib.hid (slO_fresh tVersionS_law P4_0.out c14)
   replace P6_0 := Lib.hid (slO_fresh tVersionS_law P6_0.out c14)
   replace P8 := Lib.hid (slO_fresh tInt_law P8.out c14)
   replace P9_0 := Lib.hid (slO_fresh tVersionS_law P9_0.out c14)
   replace P13_0 := Lib.hid (slO_fresh tVersionS_law P13_0.out c14)
   replace d := Lib.hid (d.out.trans (c14.mono d.out.size))
   have Z_v14 := Lib.hid (show v13.heap.size ≤ v14.heap.size from c14.size)
   clear c14
   clear P13_0
   have p_B0_0 := (cell_of_row v14 _ 0 _ _ _ B0.out).trans (show _ = some (Value.slice c0_0 x0_0.length k0_0) from rfl)
   have p_B0_1 := (cell_of_row v14 _ 1 _ _ _ B0.out).trans (show _ = some (Value.int .i64 a0_1) from rfl)
   have p_X2_0 := (cell_of_row v14 _ 0 _ _ _ X2.out).trans (show _ = some (Value.slice ya6_0 x0_0.length yc6_0) from rfl)
   have p_X2_1 := (cell_of_row v14 _ 1 _ _ _ X2.out).trans (show _ = some (Value.int .i64 a0_1) from rfl)
   refine hK.out _ _ ⟨p_B0_0, p_B0_1, p_X2_0, p_X2_1⟩ (fun hHeld => ?_)
   clear p_B0_0 p_B0_1 p_X2_0 p_X2_1
   clear hK K
   try simp only [Act.put, lA, lB, lC]
   refine tR (i := 4) (v := ?_) ?_ ?_; rotate_left
   ·
    intro w hSw; (try dsimp only at hSw); go_simp; try (with_reducible rfl)
   try simp only [Act.put, lA, lB, lC]
   refine wpAnyH_done (by kernel_rfl) ?_ _
   clear hHeld
   go_wp2_with fail
   refine (toIntS_S (.slice c1_0 x1_0.length k1_0) x1_0 v14 (slR_below tInt_law A1_0.out d.out) S1_0.out).mono ?_
   rintro e v15 ⟨y, rfl, o, c15⟩
   replace B0 := Lib.hid ((c15.block w.heap.size (Array.getElem?_eq_some_iff.1 B0.out).1).trans B0.out)
   replace X1 := Lib.hid ((c15.block v4.heap.size (Array.getElem?_eq_some_iff.1 X1.out).1).trans X1.out)
   replace X2 := Lib.hid ((c15.block v6.heap.size (Array.getElem?_eq_some_iff.1 X2.out).1).trans X2.out)
   replace X3 := Lib.hid ((c15.block v9.heap.size (Array.getElem?_eq_some_iff.1 X3.out).1).trans X3.out)
   replace P2_0 := Lib.hid (slO_fresh tVersionS_law P2_0.out c15)
   replace P3 := Lib.hid (slO_fresh tInt_law P3.out c15)
   replace P4_0 := Lib.hid (slO_fresh tVersionS_law P4_0.out c15)
   replace P6_0 := Lib.hid (slO_fresh tVersionS_law P6_0.out c15)
   replace P8 := Lib.hid (slO_fresh tInt_law P8.out c15)
   replace P9_0 := Lib.hid (slO_fresh tVersionS_law P9_0.out c15)
   replace d := Lib.hid (d.out.trans (c15.mono d.out.size))
   have Z_v15 := Lib.hid (show v14.heap.size ≤ v15.heap.size from c15.size)
   clear c15
   obtain ⟨ya15, yc15, rfl⟩ := slO_len o
   have P15 := Lib.hid (slO_lt tInt_law o)
   have Q15 := Lib.hid (fun b (h : since v14 b ∧ b < v15.heap.size) => (show v14.heap.size ≤ b ∧ b < v15.heap.size from h))
   clear o
   go_wp2_with fail
   refine (eqIntS_S (.slice ya8 x1_0.length yc8) (.slice ya15 x1_0.length yc15) x1_0 v15 (slO_reads tInt_law P8.out) (slO_reads tInt_law P15.out) S1_0.out).mono ?_
   rintro e v16 ⟨rfl, c16⟩
   replace B0 := Lib.hid ((c16.block w.heap.size (Array.getElem?_eq_some_iff.1 B0.out).1).trans B0.out)
   replace X1 := Lib.hid ((c16.block v4.heap.size (Array.getElem?_eq_some_iff.1 X1.out).1).trans X1.out)
   replace X2 := Lib.hid ((c16.block v6.heap.size (Array.getElem?_eq_some_iff.1 X2.out).1).trans X2.out)
   replace X3 := Lib.hid ((c16.block v9.heap.size (Array.getElem?_eq_some_iff.1 X3.out).1).trans X3.out)
   replace P2_0 := Lib.hid (slO_fresh tVersionS_law P2_0.out c16)
   replace P3 := Lib.hid (slO_fresh tInt_law P3.out c16)
   replace P4_0 := Lib.hid (slO_fresh tVersionS_law P4_0.out c16)
   replace P6_0 := Lib.hid (slO_fresh tVersionS_law P6_0.out c16)
   replace P8 := Lib.hid (slO_fresh tInt_law P8.out c16)
   replace P9_0 := Lib.hid (slO_fresh tVersionS_law P9_0.out c16)
   replace P15 := Lib.hid (slO_fresh tInt_law P15.out c16)
   replace d := Lib.hid (d.out.trans (c16.mono d.out.size))
   have Z_v16 := Lib.hid (show v15.heap.size ≤ v16.heap.size from c16.size)
   clear c16
   clear P15
   have p_X2_0 := (cell_of_row v16 _ 0 _ _ _ X2.out).trans (show _ = some (Value.slice ya6_0 x0_0.length yc6_0) from rfl)
   have p_X2_1 := (cell_of_row v16 _ 1 _ _ _ X2.out).trans (show _ = some (Value.int .i64 a0_1) from rfl)
   go_wp2_with fail
   clear p_X2_0 p_X2_1
   refine (markStore_T a0_1 (.slice ya6_0 x0_0.length yc6_0) x0_0 (fun b => u5.heap.size ≤ b ∧ b < v6.heap.size) _ (1) v16 P6_0.out Q6_0.out  S0_0.out M0.out.1 (by have := M0.out.2; omega)).mono ?_
   rintro e v17 ⟨rfl, m0, c17⟩
   have y0 := Y_W.out
   have y1 := Z_v1.out
   have y2 := Z_v2.out
   have y3 := Z_v3.out
   have y4 := Z_v4.out
   have y5 := Y_X1.out
   have y6 := Z_v6.out
   have y7 := Y_X2.out
   have y8 := Z_v8.out
   have y9 := Z_v9.out
   have y10 := Y_X3.out
   have y11 := Z_v11.out
   have y12 := Z_v13.out
   have y13 := Z_v14.out
   have y14 := Z_v15.out
   have y15 := Z_v16.out
   have yd : W.heap.size ≤ v16.heap.size := d.out.size
   replace B0 := Lib.hid ((c17.block w.heap.size (Array.getElem?_eq_some_iff.1 B0.out).1 (fun h => by have r2 := h; omega)).trans B0.out)
   replace X1 := Lib.hid ((c17.block v4.heap.size (Array.getElem?_eq_some_iff.1 X1.out).1 (fun h => by have r2 := h; omega)).trans X1.out)
   replace X2 := Lib.hid ((c17.block v6.heap.size (Array.getElem?_eq_some_iff.1 X2.out).1 (fun h => by have r2 := h; omega)).trans X2.out)
   replace X3 := Lib.hid ((c17.block v9.heap.size (Array.getElem?_eq_some_iff.1 X3.out).1 (fun h => by have r2 := h; omega)).trans X3.out)
   replace P2_0 := Lib.hid (slO_turn tVersionS_law P2_0.out c17 (fun b h1 h2 => by have r1 := Q2_0.out b h1; have r2 := h2; omega))
   replace P3 := Lib.hid (slO_turn tInt_law P3.out c17 (fun b h1 h2 => by have r1 := Q3.out b h1; have r2 := h2; omega))
   replace P4_0 := Lib.hid (slO_turn tVersionS_law P4_0.out c17 (fun b h1 h2 => by have r1 := Q4_0.out b h1; have r2 := h2; omega))
   replace P8 := Lib.hid (slO_turn tInt_law P8.out c17 (fun b h1 h2 => by have r1 := Q8.out b h1; have r2 := h2; omega))
   replace P9_0 := Lib.hid (slO_turn tVersionS_law P9_0.out c17 (fun b h1 h2 => by have r1 := Q9_0.out b h1; have r2 := h2; omega))
   replace d := Lib.hid (below_turn d.out c17 (fun b h => by have r2 := h; omega) (by omega))
   clear yd y0 y1 y2 y3 y4 y5 y6 y7 y8 y9 y10 y11 y12 y13 y14 y15
   have Z_v17 := Lib.hid (show v16.heap.size ≤ v17.heap.size from c17.size)
   clear P6_0
   clear m0 c17
   go_wp2_with fail
   refine (markIntS_S (.slice ya8 x1_0.length yc8) x1_0 _ (1 + (ndL tVersionS x0_0 : Int)) v17 P8.out S1_0.out M1.out.1 (by have := M1.out.2; omega)).mono ?_
   rintro e v18 ⟨rfl, m0, c18⟩
   have y0 := Y_W.out
   have y1 := Z_v1.out
   have y2 := Z_v2.out
   have y3 := Z_v3.out
   have y4 := Z_v4.out
   have y5 := Y_X1.out
   have y6 := Z_v6.out
   have y7 := Y_X2.out
   have y8 := Z_v8.out
   have y9 := Z_v9.out
   have y10 := Y_X3.out
   have y11 := Z_v11.out
   have y12 := Z_v13.out
   have y13 := Z_v14.out
   have y14 := Z_v15.out
   have y15 := Z_v16.out
   have y16 := Z_v17.out
   have yd : W.heap.size ≤ v17.heap.size := d.out.size
   replace B0 := Lib.hid ((c18.block w.heap.size (Array.getElem?_eq_some_iff.1 B0.out).1 (fun h => by have r2 := Q8.out w.heap.size h; omega)).trans B0.out)
   replace X1 := Lib.hid ((c18.block v4.heap.size (Array.getElem?_eq_some_iff.1 X1.out).1 (fun h => by have r2 := Q8.out v4.heap.size h; omega)).trans X1.out)
   replace X2 := Lib.hid ((c18.block v6.heap.size (Array.getElem?_eq_some_iff.1 X2.out).1 (fun h => by have r2 := Q8.out v6.heap.size h; omega)).trans X2.out)
   replace X3 := Lib.hid ((c18.block v9.heap.size (Array.getElem?_eq_some_iff.1 X3.out).1 (fun h => by have r2 := Q8.out v9.heap.size h; omega)).trans X3.out)
   replace P2_0 := Lib.hid (slO_turn tVersionS_law P2_0.out c18 (fun b h1 h2 => by have r1 := Q2_0.out b h1; have r2 := Q8.out b h2; omega))
   replace P3 := Lib.hid (slO_turn tInt_law P3.out c18 (fun b h1 h2 => by have r1 := Q3.out b h1; have r2 := Q8.out b h2; omega))
   replace P4_0 := Lib.hid (slO_turn tVersionS_law P4_0.out c18 (fun b h1 h2 => by have r1 := Q4_0.out b h1; have r2 := Q8.out b h2; omega))
   replace P9_0 := Lib.hid (slO_turn tVersionS_law P9_0.out c18 (fun b h1 h2 => by have r1 := Q9_0.out b h1; have r2 := Q8.out b h2; omega))
   replace d := Lib.hid (below_turn d.out c18 (fun b h => by have r2 := Q8.out b h; omega) (by omega))
   clear yd y0 y1 y2 y3 y4 y5 y6 y7 y8 y9 y10 y11 y12 y13 y14 y15 y16
   have Z_v18 := Lib.hid (show v17.heap.size ≤ v18.heap.size from c18.size)
   clear P8
   clear m0 c18
   have p_X1_0 := (cell_of_row v18 _ 0 _ _ _ X1.out).trans (show _ = some (Value.slice ya4_0 xr0_0.length yc4_0) from rfl)
   have p_X1_1 := (cell_of_row v18 _ 1 _ _ _ X1.out).trans (show _ = some (Value.int .i64 ar0_1) from rfl)
   have p_X3_0 := (cell_of_row v18 _ 0 _ _ _ X3.out).trans (show _ = some (Value.slice ya9_0 xr0_0.length yc9_0) from rfl)
   have p_X3_1 := (cell_of_row v18 _ 1 _ _ _ X3.out).trans (show _ = some (Value.int .i64 ar0_1) from rfl)
   go_wp2_with fail
   clear p_X1_0 p_X1_1 p_X3_0 p_X3_1
   refine (eqStore_T ar0_1 (.slice ya9_0 xr0_0.length yc9_0) xr0_0 (.slice ya4_0 xr0_0.length yc4_0) v18 (slO_reads tVersionS_law P9_0.out) (slO_reads tVersionS_law P4_0.out) Z0_0.out).mono ?_
   rintro e v19 ⟨rfl, c19⟩
   replace B0 := Lib.hid ((c19.block w.heap.size (Array.getElem?_eq_some_iff.1 B0.out).1).trans B0.out)
   replace X1 := Lib.hid ((c19.block v4.heap.size (Array.getElem?_eq_some_iff.1 X1.out).1).trans X1.out)
   replace X2 := Lib.hid ((c19.block v6.heap.size (Array.getElem?_eq_some_iff.1 X2.out).1).trans X2.out)
   replace X3 := Lib.hid ((c19.block v9.heap.size (Array.getElem?_eq_some_iff.1 X3.out).1).trans X3.out)
   replace P2_0 := Lib.hid (slO_fresh tVersionS_law P2_0.out c19)
   replace P3 := Lib.hid (slO_fresh tInt_law P3.out c19)
   replace P4_0 := Lib.hid (slO_fresh tVersionS_law P4_0.out c19)
   replace P9_0 := Lib.hid (slO_fresh tVersionS_law P9_0.out c19)
   replace d := Lib.hid (d.out.trans (c19.mono d.out.size))
   have Z_v19 := Lib.hid (show v18.heap.size ≤ v19.heap.size from c19.size)
   clear c19
   have p_X3_0 := (cell_of_row v19 _ 0 _ _ _ X3.out).trans (show _ = some (Value.slice ya9_0 xr0_0.length yc9_0) from rfl)
   have p_X3_1 := (cell_of_row v19 _ 1 _ _ _ X3.out).trans (show _ = some (Value.int .i64 ar0_1) from rfl)
   go_wp2_with fail
   clear p_X3_0 p_X3_1
   refine (markStore_T ar0_1 (.slice ya9_0 xr0_0.length yc9_0) xr0_0 (fun b => v8.heap.size ≤ b ∧ b < v9.heap.size) _ (1) v19 P9_0.out Q9_0.out  Z0_0.out MR0.out.1 (by have := MR0.out.2; omega)).mono ?_
   rintro e v20 ⟨rfl, m0, c20⟩
   have y0 := Y_W.out
   have y1 := Z_v1.out
   have y2 := Z_v2.out
   have y3 := Z_v3.out
   have y4 := Z_v4.out
   have y5 := Y_X1.out
   have y6 := Z_v6.out
   have y7 := Y_X2.out
   have y8 := Z_v8.out
   have y9 := Z_v9.out
   have y10 := Y_X3.out
   have y11 := Z_v11.out
   have y12 := Z_v13.out
   have y13 := Z_v14.out
   have y14 := Z_v15.out
   have y15 := Z_v16.out
   have y16 := Z_v17.out
   have y17 := Z_v18.out
   have y18 := Z_v19.out
   have yd : W.heap.size ≤ v19.heap.size := d.out.size
   replace B0 := Lib.hid ((c20.block w.heap.size (Array.getElem?_eq_some_iff.1 B0.out).1 (fun h => by have r2 := h; omega)).trans B0.out)
   replace X1 := Lib.hid ((c20.block v4.heap.size (Array.getElem?_eq_some_iff.1 X1.out).1 (fun h => by have r2 := h; omega)).trans X1.out)
   replace X2 := Lib.hid ((c20.block v6.heap.size (Array.getElem?_eq_some_iff.1 X2.out).1 (fun h => by have r2 := h; omega)).trans X2.out)
   replace X3 := Lib.hid ((c20.block v9.heap.size (Array.getElem?_eq_some_iff.1 X3.out).1 (fun h => by have r2 := h; omega)).trans X3.out)
   replace P2_0 := Lib.hid (slO_turn tVersionS_law P2_0.out c20 (fun b h1 h2 => by have r1 := Q2_0.out b h1; have r2 := h2; omega))
   replace P3 := Lib.hid (slO_turn tInt_law P3.out c20 (fun b h1 h2 => by have r1 := Q3.out b h1; have r2 := h2; omega))
   replace P4_0 := Lib.hid (slO_turn tVersionS_law P4_0.out c20 (fun b h1 h2 => by have r1 := Q4_0.out b h1; have r2 := h2; omega))
   replace d := Lib.hid (below_turn d.out c20 (fun b h => by have r2 := h; omega) (by omega))
   clear yd y0 y1 y2 y3 y4 y5 y6 y7 y8 y9 y10 y11 y12 y13 y14 y15 y16 y17 y18
   have Z_v20 := Lib.hid (show v19.heap.size ≤ v20.heap.size from c20.size)
   replace P9_0 := Lib.hid m0
   clear m0 c20
   have p_X3_0 := (cell_of_row v20 _ 0 _ _ _ X3.out).trans (show _ = some (Value.slice ya9_0 xr0_0.length yc9_0) from rfl)
   have p_X3_1 := (cell_of_row v20 _ 1 _ _ _ X3.out).trans (show _ = some (Value.int .i64 ar0_1) from rfl)
   go_wp2_with fail
   clear p_X3_0 p_X3_1
   refine (heldStore_T ar0_1 (.slice ya9_0 xr0_0.length yc9_0) xr0_0 (1) v20 (slO_reads tVersionS_law P9_0.out) Z0_0.out MR0.out.1 (by have := MR0.out.2; omega)).mono ?_
   rintro e v21 ⟨rfl, c21⟩
   replace B0 := Lib.hid ((c21.block w.heap.size (Array.getElem?_eq_some_iff.1 B0.out).1).trans B0.out)
   replace X1 := Lib.hid ((c21.block v4.heap.size (Array.getElem?_eq_some_iff.1 X1.out).1).trans X1.out)
   replace X2 := Lib.hid ((c21.block v6.heap.size (Array.getElem?_eq_some_iff.1 X2.out).1).trans X2.out)
   replace X3 := Lib.hid ((c21.block v9.heap.size (Array.getElem?_eq_some_iff.1 X3.out).1).trans X3.out)
   replace P2_0 := Lib.hid (slO_fresh tVersionS_law P2_0.out c21)
   replace P3 := Lib.hid (slO_fresh tInt_law P3.out c21)
   replace P4_0 := Lib.hid (slO_fresh tVersionS_law P4_0.out c21)
   replace P9_0 := Lib.hid (slO_fresh tVersionS_law P9_0.out c21)
   replace d := Lib.hid (d.out.trans (c21.mono d.out.size))
   have Z_v21 := Lib.hid (show v20.heap.size ≤ v21.heap.size from c21.size)
   clear c21
   have p_B0_0 := (cell_of_row v21 _ 0 _ _ _ B0.out).trans (show _ = some (Value.slice c0_0 x0_0.length k0_0) from rfl)
   have p_B0_1 := (cell_of_row v21 _ 1 _ _ _ B0.out).trans (show _ = some (Value.int .i64 a0_1) from rfl)
   go_wp2_with fail
   clear p_B0_0 p_B0_1
   refine (toStore_T a0_1 (.slice c0_0 x0_0.length k0_0) x0_0 v21 (slR_below tVersionS_law A0_0.out d.out) S0_0.out).mono ?_
   rintro e v22 ⟨cs, rfl, ow, c22⟩
   replace B0 := Lib.hid ((c22.block w.heap.size (Array.getElem?_eq_some_iff.1 B0.out).1).trans B0.out)
   replace X1 := Lib.hid ((c22.block v4.heap.size (Array.getElem?_eq_some_iff.1 X1.out).1).trans X1.out)
   replace X2 := Lib.hid ((c22.block v6.heap.size (Array.getElem?_eq_some_iff.1 X2.out).1).trans X2.out)
   replace X3 := Lib.hid ((c22.block v9.heap.size (Array.getElem?_eq_some_iff.1 X3.out).1).trans X3.out)
   replace P2_0 := Lib.hid (slO_fresh tVersionS_law P2_0.out c22)
   replace P3 := Lib.hid (slO_fresh tInt_law P3.out c22)
   replace P4_0 := Lib.hid (slO_fresh tVersionS_law P4_0.out c22)
   replace P9_0 := Lib.hid (slO_fresh tVersionS_law P9_0.out c22)
   replace d := Lib.hid (d.out.trans (c22.mono d.out.size))
   have Z_v22 := Lib.hid (show v21.heap.size ≤ v22.heap.size from c22.size)
   clear c22
   replace ow := tStore_law.lt ow
   obtain ⟨y22_0, K22_0, rfl, p22_0, w22_0⟩ := tStore_O ow
   obtain ⟨ya22_0, yc22_0, rfl⟩ := slO_len p22_0
   have P22_0 := Lib.hid p22_0
   have Q22_0 := Lib.hid (fun b h => (show v21.heap.size ≤ b ∧ b < v22.heap.size from w22_0 b h))
   clear p22_0 w22_0 ow
   go_wp2_with fail
   refine (toIntS_S (.slice c1_0 x1_0.length k1_0) x1_0 v22 (slR_below tInt_law A1_0.out d.out) S1_0.out).mono ?_
   rintro e v23 ⟨y, rfl, o, c23⟩
   replace B0 := Lib.hid ((c23.block w.heap.size (Array.getElem?_eq_some_iff.1 B0.out).1).trans B0.out)
   replace X1 := Lib.hid ((c23.block v4.heap.size (Array.getElem?_eq_some_iff.1 X1.out).1).trans X1.out)
   replace X2 := Lib.hid ((c23.block v6.heap.size (Array.getElem?_eq_some_iff.1 X2.out).1).trans X2.out)
   replace X3 := Lib.hid ((c23.block v9.heap.size (Array.getElem?_eq_some_iff.1 X3.out).1).trans X3.out)
   replace P2_0 := Lib.hid (slO_fresh tVersionS_law P2_0.out c23)
   replace P3 := Lib.hid (slO_fresh tInt_law P3.out c23)
   replace P4_0 := Lib.hid (slO_fresh tVersionS_law P4_0.out c23)
   replace P9_0 := Lib.hid (slO_fresh tVersionS_law P9_0.out c23)
   replace P22_0 := Lib.hid (slO_fresh tVersionS_law P22_0.out c23)
   replace d := Lib.hid (d.out.trans (c23.mono d.out.size))
   have Z_v23 := Lib.hid (show v22.heap.size ≤ v23.heap.size from c23.size)
   clear c23
   obtain ⟨ya23, yc23, rfl⟩ := slO_len o
   have P23 := Lib.hid (slO_lt tInt_law o)
   have Q23 := Lib.hid (fun b (h : since v22 b ∧ b < v23.heap.size) => (show v22.heap.size ≤ b ∧ b < v23.heap.size from h))
   clear o
   go_wp2_with fail
   refine (HIM.out (.slice ya22_0 x0_0.length yc22_0) (.slice ya23 x1_0.length yc23) v23 (slO_reads tVersionS_law P22_0.out) (slO_reads tInt_law P23.out) HT.out HL1.out).mono ?_
   rintro e v24 ⟨g0, G0, rfl, o0, q0, c24⟩
   replace B0 := Lib.hid ((c24.block w.heap.size (Array.getElem?_eq_some_iff.1 B0.out).1).trans B0.out)
   replace X1 := Lib.hid ((c24.block v4.heap.size (Array.getElem?_eq_some_iff.1 X1.out).1).trans X1.out)
   replace X2 := Lib.hid ((c24.block v6.heap.size (Array.getElem?_eq_some_iff.1 X2.out).1).trans X2.out)
   replace X3 := Lib.hid ((c24.block v9.heap.size (Array.getElem?_eq_some_iff.1 X3.out).1).trans X3.out)
   replace P2_0 := Lib.hid (slO_fresh tVersionS_law P2_0.out c24)
   replace P3 := Lib.hid (slO_fresh tInt_law P3.out c24)
   replace P4_0 := Lib.hid (slO_fresh tVersionS_law P4_0.out c24)
   replace P9_0 := Lib.hid (slO_fresh tVersionS_law P9_0.out c24)
   replace P22_0 := Lib.hid (slO_fresh tVersionS_law P22_0.out c24)
   replace P23 := Lib.hid (slO_fresh tInt_law P23.out c24)
   replace d := Lib.hid (d.out.trans (c24.mono d.out.size))
   have Z_v24 := Lib.hid (show v23.heap.size ≤ v24.heap.size from c24.size)
   clear c24
   replace o0 := tStore_law.lt o0
   obtain ⟨y24_0, K24_0, rfl, p24_0, w24_0⟩ := tStore_O o0
   obtain ⟨ya24_0, yc24_0, rfl⟩ := slO_len p24_0
   have P24_0 := Lib.hid p24_0
   have Q24_0 := Lib.hid (fun b h => (show v23.heap.size ≤ b ∧ b < v24.heap.size from ⟨q0 b (w24_0 b h).1, (w24_0 b h).2⟩))
   clear p24_0 w24_0 o0 q0
   have hal : Below v24.heap.size v24 (v24.alloc (.cells #[.slice ya24_0 xr0_0.length yc24_0, .int .i64 ar0_1] 41)) := (Below.refl _ _).alloc (Nat.le_refl _) _
   have X4 := Lib.hid (heap_alloc_new v24 (.cells #[.slice ya24_0 xr0_0.length yc24_0, .int .i64 ar0_1] 41))
   have Y_X4 := Lib.hid (show v24.heap.size < (v24.alloc (.cells #[.slice ya24_0 xr0_0.length yc24_0, .int .i64 ar0_1] 41)).heap.size by simp [World.size_alloc])
   replace B0 := Lib.hid ((hal.block w.heap.size (Array.getElem?_eq_some_iff.1 B0.out).1).trans B0.out)
   replace X1 := Lib.hid ((hal.block v4.heap.size (Array.getElem?_eq_some_iff.1 X1.out).1).trans X1.out)
   replace X2 := Lib.hid ((hal.block v6.heap.size (Array.getElem?_eq_some_iff.1 X2.out).1).trans X2.out)
   replace X3 := Lib.hid ((hal.block v9.heap.size (Array.getElem?_eq_some_iff.1 X3.out).1).trans X3.out)
   replace P2_0 := Lib.hid (slO_fresh tVersionS_law P2_0.out hal)
   replace P3 := Lib.hid (slO_fresh tInt_law P3.out hal)
   replace P4_0 := Lib.hid (slO_fresh tVersionS_law P4_0.out hal)
   replace P9_0 := Lib.hid (slO_fresh tVersionS_law P9_0.out hal)
   replace P22_0 := Lib.hid (slO_fresh tVersionS_law P22_0.out hal)
   replace P23 := Lib.hid (slO_fresh tInt_law P23.out hal)
   replace P24_0 := Lib.hid (slO_fresh tVersionS_law P24_0.out hal)
   replace d := Lib.hid (d.out.trans (hal.mono d.out.size))
   clear hal
   have p_X1_0 := (cell_of_row (v24.alloc (.cells #[.slice ya24_0 xr0_0.length yc24_0, .int .i64 ar0_1] 41)) _ 0 _ _ _ X1.out).trans (show _ = some (Value.slice ya4_0 xr0_0.length yc4_0) from rfl)
   have p_X1_1 := (cell_of_row (v24.alloc (.cells #[.slice ya24_0 xr0_0.length yc24_0, .int .i64 ar0_1] 41)) _ 1 _ _ _ X1.out).trans (show _ = some (Value.int .i64 ar0_1) from rfl)
   have p_X4_0 := (cell_of_row (v24.alloc (.cells #[.slice ya24_0 xr0_0.length yc24_0, .int .i64 ar0_1] 41)) _ 0 _ _ _ X4.out).trans (show _ = some (Value.slice ya24_0 xr0_0.length yc24_0) from rfl)
   have p_X4_1 := (cell_of_row (v24.alloc (.cells #[.slice ya24_0 xr0_0.length yc24_0, .int .i64 ar0_1] 41)) _ 1 _ _ _ X4.out).trans (show _ = some (Value.int .i64 ar0_1) from rfl)
   go_wp2_with fail
   clear p_X1_0 p_X1_1 p_X4_0 p_X4_1
   generalize (v24.alloc (.cells #[.slice ya24_0 xr0_0.length yc24_0, .int .i64 ar0_1] 41)) = u25 at *
   refine (eqStore_T ar0_1 (.slice ya24_0 xr0_0.length yc24_0) xr0_0 (.slice ya4_0 xr0_0.length yc4_0) u25 (slO_reads tVersionS_law P24_0.out) (slO_reads tVersionS_law P4_0.out) Z0_0.out).mono ?_
   rintro e v26 ⟨rfl, c26⟩
   replace B0 := Lib.hid ((c26.block w.heap.size (Array.getElem?_eq_some_iff.1 B0.out).1).trans B0.out)
   replace X1 := Lib.hid ((c26.block v4.heap.size (Array.getElem?_eq_some_iff.1 X1.out).1).trans X1.out)
   replace X2 := Lib.hid ((c26.block v6.heap.size (Array.getElem?_eq_some_iff.1 X2.out).1).trans X2.out)
   replace X3 := Lib.hid ((c26.block v9.heap.size (Array.getElem?_eq_some_iff.1 X3.out).1).trans X3.out)
   replace X4 := Lib.hid ((c26.block v24.heap.size (Array.getElem?_eq_some_iff.1 X4.out).1).trans X4.out)
   replace P2_0 := Lib.hid (slO_fresh tVersionS_law P2_0.out c26)
   replace P3 := Lib.hid (slO_fresh tInt_law P3.out c26)
   replace P4_0 := Lib.hid (slO_fresh tVersionS_law P4_0.out c26)
   replace P9_0 := Lib.hid (slO_fresh tVersionS_law P9_0.out c26)
   replace P22_0 := Lib.hid (slO_fresh tVersionS_law P22_0.out c26)
   replace P23 := Lib.hid (slO_fresh tInt_law P23.out c26)
   replace P24_0 := Lib.hid (slO_fresh tVersionS_law P24_0.out c26)
   replace d := Lib.hid (d.out.trans (c26.mono d.out.size))
   have Z_v26 := Lib.hid (show u25.heap.size ≤ v26.heap.size from c26.size)
   clear c26
   have p_X3_0 := (cell_of_row v26 _ 0 _ _ _ X3.out).trans (show _ = some (Value.slice ya9_0 xr0_0.length yc9_0) from rfl)
   have p_X3_1 := (cell_of_row v26 _ 1 _ _ _ X3.out).trans (show _ = some (Value.int .i64 ar0_1) from rfl)
   go_wp2_with fail
   clear p_X3_0 p_X3_1
   refine (heldStore_T ar0_1 (.slice ya9_0 xr0_0.length yc9_0) xr0_0 (1) v26 (slO_reads tVersionS_law P9_0.out) Z0_0.out MR0.out.1 (by have := MR0.out.2; omega)).mono ?_
   rintro e v27 ⟨rfl, c27⟩
   replace B0 := Lib.hid ((c27.block w.heap.size (Array.getElem?_eq_some_iff.1 B0.out).1).trans B0.out)
   replace X1 := Lib.hid ((c27.block v4.heap.size (Array.getElem?_eq_some_iff.1 X1.out).1).trans X1.out)
   replace X2 := Lib.hid ((c27.block v6.heap.size (Array.getElem?_eq_some_iff.1 X2.out).1).trans X2.out)
   replace X3 := Lib.hid ((c27.block v9.heap.size (Array.getElem?_eq_some_iff.1 X3.out).1).trans X3.out)
   replace X4 := Lib.hid ((c27.block v24.heap.size (Array.getElem?_eq_some_iff.1 X4.out).1).trans X4.out)
   replace P2_0 := Lib.hid (slO_fresh tVersionS_law P2_0.out c27)
   replace P3 := Lib.hid (slO_fresh tInt_law P3.out c27)
   replace P4_0 := Lib.hid (slO_fresh tVersionS_law P4_0.out c27)
   replace P9_0 := Lib.hid (slO_fresh tVersionS_law P9_0.out c27)
   replace P22_0 := Lib.hid (slO_fresh tVersionS_law P22_0.out c27)
   replace P23 := Lib.hid (slO_fresh tInt_law P23.out c27)
   replace P24_0 := Lib.hid (slO_fresh tVersionS_law P24_0.out c27)
   replace d := Lib.hid (d.out.trans (c27.mono d.out.size))
   have Z_v27 := Lib.hid (show v26.heap.size ≤ v27.heap.size from c27.size)
   clear c27
   go_wp2
   go_ret
   exact ⟨rfl, HB0.out.trans (d.out.mono HB0.out.size)⟩
  ·
   have hl1 : ¬ (1048576 : Int) < (x1_0.length : Int) := by omega
   have HL1 := Lib.hid c0
   have HZ0 : Hid ((1048576 : Int) < ((zL tVersionS x0_0 : Nat) : Int)) := Lib.hid (by omega)
   have HP0 : Hid (0 ≤ (1048576 : Int)) := Lib.hid (by omega)
   have HK0 : Hid ((1048576 : Int) ≤ 1048576) := Lib.hid (by omega)
   clear c1
   go_enter Try.func6, Try.ntmps6
   go_wp2_with fail
   have Y_W : Hid (w.heap.size + 1 ≤ (w.alloc (.cells #[.slice c0_0 x0_0.length k0_0, .int .i64 a0_1] 37)).heap.size) := Lib.hid (by simp [World.size_alloc])
   generalize (w.alloc (.cells #[.slice c0_0 x0_0.length k0_0, .int .i64 a0_1] 37)) = W at *
   have d := Lib.hid (Below.refl W.heap.size W)
   refine (szStore_N a0_1 (.slice c0_0 x0_0.length k0_0) x0_0 ((1048576 : Int)) W (slR_below tVersionS_law A0_0.out d.out) HZ0.out HK0.out HP0.out O0_0.out).mono ?_
   rintro e v1 ⟨rfl, c1⟩
   replace B0 := Lib.hid ((c1.block w.heap.size (Array.getElem?_eq_some_iff.1 B0.out).1).trans B0.out)
   replace d := Lib.hid (d.out.trans (c1.mono d.out.size))
   have Z_v1 := Lib.hid (show W.heap.size ≤ v1.heap.size from c1.size)
   clear c1
   go_wp2
   go_ret
   exact ⟨rfl, HB0.out.trans (d.out.mono HB0.out.size)⟩
 ·
  have hl1 : (1048576 : Int) < (x1_0.length : Int) := by omega
  have hm1 : (x1_0.length : Int) ≤ 9223372036854775807 := O1_0.out.1
  clear c0
  go_enter Try.func6, Try.ntmps6
  go_wp2
  go_ret
  exact ⟨rfl, HB0.out⟩
end Go.Proofs.Ythiiaiholcfhhaa
