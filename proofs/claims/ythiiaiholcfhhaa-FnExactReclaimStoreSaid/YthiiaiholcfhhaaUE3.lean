/-
 Texts of the proof, merged: TyApp, Raw, TCond, FlatT, BrRow, TStore, TUpdate, TUpdateS, CopyEachVersion, OpenInts, OpnT, OVersion, OVersionS, OVersionSS, OStore.
-/
import Derived.Test.YthiiaiholcfhhaaUE1
import Derived.Maps.AppendAt
import Derived.Deep.Upon
import Derived.Deep.Slices
import Derived.BigQuiet
import Derived.Deep.QuietTactic
import Derived.Deep.RegionHeld3
import Derived.ProofKit
import Derived.OpenShut
import Derived.Carry
import Derived.Lib.SmallJoins
namespace Go.Proofs.Ythiiaiholcfhhaa
open Go.RowKit
set_option linter.unusedVariables false
set_option linter.unusedSimpArgs false
/-- What the table of types says of the element. -/
def ElemInfo {α : Type} (T : Ty α) (e : TypeId) (z : Value) : Prop := ∃ i, Try.prog.info? e = some i ∧ i.zero = some z ∧ i.size = T.n ∧ i.bytes ≤ 512
theorem elemInfo_of {α : Type} {T : Ty α} {e : TypeId} {z : Value} (h : (Try.prog.info? e).map (fun i => (i.zero, i.size, decide (i.bytes ≤ 512))) = some (some z, T.n, true)) : ElemInfo T e z := by
 cases q : Try.prog.info? e with
 | none => rw [q] at h; simp at h
 | some i => rw [q] at h; simp only [Option.map_some, Option.some.injEq, Prod.mk.injEq, decide_eq_true_eq] at h; exact ⟨i, q, h.1, h.2.1, h.2.2⟩
theorem addr_add0 (b j : Nat) : (⟨b, 0, none⟩ : Addr).add j = ⟨b, j, none⟩ := by unfold Addr.add; split <;> simp_all
theorem addr_add (b o j : Nat) : (⟨b, o, none⟩ : Addr).add j = ⟨b, o + j, none⟩ := by unfold Addr.add; split <;> simp_all
/-- The blocks of what was there, as the append leaves them. -/
theorem grown_alloc {w w' : World} {o : Obj} {row : Option Nat} (h : (w.alloc o).grownBy w' row) : w.grownBy w' row := by
 have hg := World.grownBy_alloc w o row
 exact ⟨h.os.trans hg.os, h.tape.trans hg.tape, h.output.trans hg.output, Nat.le_trans hg.size h.size, fun k hk hne => (h.block k (Nat.lt_of_lt_of_le hk hg.size) hne).trans (hg.block k hk hne)⟩
theorem run_append_T {α : Type} {T : Ty α} (A : T.Law) {e t : TypeId} {z : Value} (I : ElemInfo T e z) (ht : Try.prog.underlying t = some (.slice e)) (hz : z.cells.size = T.n)
  {w : World} (ty : TypeId) (F : Nat → Prop) (D : Nat) (v : Value) (xs : List α) (hown : SlO e T w (fun b => F b ∧ b < D) v xs) (hD : D ≤ w.heap.size) (hf : ∀ b, D ≤ b → F b) (hn : xs.length ≤ 1048576)
  (cs : List Value) (x0 : α) (hnew : T.O w (fun b => D ≤ b) cs x0) (h1 : ∀ u ∈ cs, u.oneCell' = true) (c : Nat) :
  ∃ v' w', (Builtin.append_ #[t, t] ty #[v, .slice (some ⟨w.heap.size, 0, none⟩) 1 c]).run Try.prog (w.alloc (.cells cs.toArray e)) = .ok v' w' ∧ SlO e T w' F v' (xs ++ [x0]) ∧ Turn (fun b => F b ∧ b < D) w w' := by
 obtain ⟨i0, hi, hz0, hz1, hz2⟩ := I
 obtain ⟨L, us, Fs, g1, g2, g3, g4⟩ := slO_lt A hown
 have hcl : cs.length = T.n := A.len (A.reads hnew)
 have hpos := A.pos
 have hb : (xs.length + 1) * i0.bytes ≤ 1048577 * 512 := Nat.mul_le_mul (by omega) hz2
 obtain ⟨v', w', hr, k1, k2, _, k4⟩ := run_append_own_at (P := Try.prog) (w.alloc (.cells cs.toArray e)) 0 t ty e i0 z T.n i0.bytes ht hi hz0 hz1 rfl hz hpos v xs.length _ (g1.alloc _) ⟨w.heap.size, 0, none⟩ 1 c cs (by omega) (fun j u hj => by
  rw [addr_add0, cell_of_row _ w.heap.size j cs.toArray e (0, 0) (heap_alloc_new w _)]
  simpa using hj) h1 (by unfold maxLen; omega) (by omega) (Nat.zero_le _)
 have k5 := grown_alloc k2
 have hv : ∀ b, v.ownBlock = some b → F b ∧ b < D := fun b hb => (g2 b hb).1
 have hsz : (w.alloc (.cells cs.toArray e)).heap.size = w.heap.size + 1 := by simp [World.size_alloc]
 refine ⟨v', w', hr, ?_, turn_grown k5 hv⟩
 refine slO_app (F := F) (Fn := fun b => D ≤ b ∧ b < w.heap.size) A (fun b hb => (hv b hb).1) (fun j hj => ⟨(g3 j hj).1, (g3 j hj).2.1, fun b hb => ⟨⟨((g3 j hj).2.2 b hb).1.1.1, ((g3 j hj).2.2 b hb).1.2⟩, ((g3 j hj).2.2 b hb).2⟩⟩) g4 g1.1 k1 k5 (fun b hb => ?_) (A.lt hnew) hcl (fun b hb => ⟨hf b hb.1, hb.2, fun q => ?_, fun j hj q => ?_⟩)
 ·
  rcases k4 with q | q
  ·
   exact Or.inl (q ▸ hb)
  ·
   rw [q, hsz] at hb
   have := Option.some.inj hb
   exact Or.inr ⟨by omega, hf b (by omega)⟩
 ·
  have := (hv b q).2; omega
 ·
  have := ((g3 j hj).2.2 b q).1.1.2; omega
theorem append_T {α : Type} {T : Ty α} (A : T.Law) {e t : TypeId} {z : Value} (I : ElemInfo T e z) (ht : Try.prog.underlying t = some (.slice e)) (hz : z.cells.size = T.n)
  {w : World} {ops : Array Oper} {rest : List Oper} {o : Oper} {a : Act} {Q : Exit → Act → World → Prop} (hgd : o.guard = none) (s x : Operand)
  (ho : o.op = .call { callee := .builtin .append, args := #[s, x], argTypes := #[t, t] })
  (F : Nat → Prop) (D : Nat) (v : Value) (xs : List α) (hs : a.eval s = v) (hown : SlO e T w (fun b => F b ∧ b < D) v xs) (hD : D ≤ w.heap.size) (hf : ∀ b, D ≤ b → F b) (hn : xs.length ≤ 1048576)
  (cs : List Value) (x0 : α) (hnew : T.O w (fun b => D ≤ b) cs x0) (h1 : ∀ u ∈ cs, u.oneCell' = true) (c g0 : Nat) (hx : a.eval x = .slice (some ⟨g0, 0, none⟩) 1 c) (hg0 : g0 = w.heap.size)
  (h : ∀ v' w', SlO e T w' F v' (xs ++ [x0]) → Turn (fun b => F b ∧ b < D) w w' → wpList Try.prog ops Q rest (a.put o.dst v') w') : wpList Try.prog ops Q (o :: rest) a (w.alloc (.cells cs.toArray e)) := by
 subst hg0
 refine wpList_plain hgd fun K hK => ?_
 obtain ⟨v', w', hr, h2, h3⟩ := run_append_T A I ht hz o.type F D v xs hown hD hf hn cs x0 hnew h1 c
 unfold Oper.wp execOp
 simp only [ho, resolve, invoke, builtin, Sem.run_bind, Sem.run_pure, Result.andThen_ok, List.map_toArray, List.map_cons, List.map_nil, hs, hx, hr]
 exact hK _ _ (h v' w' h2 h3)
theorem step_append_T {α : Type} {T : Ty α} (A : T.Law) {e t : TypeId} {z : Value} (I : ElemInfo T e z) (ht : Try.prog.underlying t = some (.slice e)) (hz : z.cells.size = T.n)
  {w : World} {ops : Array Oper} {o : Oper} {a : Act} {K : Act → World → Prop} {Q : Exit → Act → World → Prop} {E : Prop} (hwa : Region.wanted o (yielded ops a.tmps) = true) (s x : Operand)
  (ho : o.op = .call { callee := .builtin .append, args := #[s, x], argTypes := #[t, t] })
  (F : Nat → Prop) (D : Nat) (v : Value) (xs : List α) (hs : a.eval s = v) (hown : SlO e T w (fun b => F b ∧ b < D) v xs) (hD : D ≤ w.heap.size) (hf : ∀ b, D ≤ b → F b) (hn : xs.length ≤ 1048576)
  (cs : List Value) (x0 : α) (hnew : T.O w (fun b => D ≤ b) cs x0) (h1 : ∀ u ∈ cs, u.oneCell' = true) (c g0 : Nat) (hx : a.eval x = .slice (some ⟨g0, 0, none⟩) 1 c) (hg0 : g0 = w.heap.size)
  (h : ∀ v' w', SlO e T w' F v' (xs ++ [x0]) → Turn (fun b => F b ∧ b < D) w w' → K (a.put o.dst v') w') : if Region.wanted o (yielded ops a.tmps) = true then Oper.wp Try.prog o a (w.alloc (.cells cs.toArray e)) K Q else E := by
 subst hg0
 rw [if_pos hwa]
 obtain ⟨v', w', hr, h2, h3⟩ := run_append_T A I ht hz o.type F D v xs hown hD hf hn cs x0 hnew h1 c
 unfold Oper.wp execOp
 simp only [ho, resolve, invoke, builtin, Sem.run_bind, Sem.run_pure, Result.andThen_ok, List.map_toArray, List.map_cons, List.map_nil, hs, hx, hr]
 exact h v' w' h2 h3
/-- The cells of a slice that is read, in a row. -/
theorem slR_cells {α : Type} {T : Ty α} {w : World} {b off cap m : Nat} {xs : List α} (A : T.Law) (h : SlR T w (.slice (some ⟨b, off, none⟩) m cap) xs) (hp : 0 < xs.length) :
  m = xs.length ∧ b < w.heap.size ∧ ∃ L : List Value, L.length = xs.length * T.n ∧ (∀ j u, L[j]? = some u → w.cell? ⟨b, off + j, none⟩ = some u) ∧ ∀ j, j < xs.length → ∃ cs, T.R w cs (xs.getD j T.d) ∧ ∀ i, i < T.n → L[j * T.n + i]? = cs[i]? := by
 rcases h with ⟨rfl, _⟩ | ⟨b', off', cap', us, hv, h2, h3, h4⟩
 ·
  simp at hp
 ·
  simp only [Value.slice.injEq, Option.some.injEq, Addr.mk.injEq] at hv
  obtain ⟨⟨rfl, rfl, _⟩, rfl, rfl⟩ := hv
  have hpos := A.pos
  have hlen : ∀ j, j < xs.length → (us j).length = T.n := fun j hj => A.len (h4 j hj).2
  refine ⟨rfl, h3, (List.range (xs.length * T.n)).map (fun k => (us (k / T.n)).getD (k % T.n) undef), by simp, fun j u hj => ?_, fun j hj => ⟨us j, (h4 j hj).2, fun i hi => ?_⟩⟩
  ·
   have hjl : j < xs.length * T.n := by
    have := (List.getElem?_eq_some_iff.1 hj).1
    simpa using this
   rw [List.getElem?_map, List.getElem?_range hjl] at hj
   simp only [Option.map_some, Option.some.injEq] at hj
   have hq : j / T.n < xs.length := (Nat.div_lt_iff_lt_mul hpos).2 hjl
   have hm : j % T.n < T.n := Nat.mod_lt _ hpos
   have e : off + j / T.n * T.n + j % T.n = off + j := by
    have := Nat.div_add_mod j T.n
    rw [Nat.mul_comm] at this; omega
   have hc := (h4 _ hq).1 _ hm
   rw [e, List.getElem?_eq_getElem (by rw [hlen _ hq]; exact hm)] at hc
   rw [hc, ← hj]
   simp [List.getD, hlen _ hq, hm]
  ·
   have hlt : j * T.n + i < xs.length * T.n := by
    have : (j + 1) * T.n ≤ xs.length * T.n := Nat.mul_le_mul_right _ hj
    rw [Nat.add_mul, Nat.one_mul] at this; omega
   have e1 : (j * T.n + i) / T.n = j := by rw [Nat.mul_comm, Nat.mul_add_div hpos, Nat.div_eq_of_lt hi]; omega
   have e2 : (j * T.n + i) % T.n = i := by rw [Nat.mul_comm, Nat.mul_add_mod, Nat.mod_eq_of_lt hi]
   rw [List.getElem?_map, List.getElem?_range hlt]
   simp only [Option.map_some, e1, e2]
   rw [List.getElem?_eq_getElem (by rw [hlen j hj]; exact hi)]
   simp [List.getD, hlen j hj, hi]
/-- Plain data: what is read may be owned. -/
def Flat {α : Type} (T : Ty α) : Prop := (∀ {w w' : World} {F : Nat → Prop} {cs : List Value} {x : α}, T.R w cs x → T.O w' F cs x) ∧ ∀ {w : World} {cs : List Value} {x : α}, T.R w cs x → ∀ u ∈ cs, u.oneCell' = true
theorem flat_int : Flat tInt := ⟨fun h => h, fun h u hu => by rw [show _ = [Value.int .i64 _] from h] at hu; simp at hu; rw [hu]; rfl⟩
/-- What lies in slices of plain data that the call made, element by element. -/
theorem slO_flat {α : Type} {T : Ty α} (A : T.Law) (hfl : Flat T) {e : TypeId} {w : World} {F : Nat → Prop} {v : Value} {xs : List α} {L : List Value} {B : Nat} (h : w.ownsRow B e T.n v xs.length L) (hF : ∀ b, v.ownBlock = some b → F b)
  (hL : ∀ j, j < xs.length → ∃ cs, T.R w cs (xs.getD j T.d) ∧ ∀ i, i < T.n → L[j * T.n + i]? = cs[i]?) : SlO e T w F v xs := by
 haveI : Inhabited (List Value) := ⟨[]⟩
 obtain ⟨f, hf⟩ := Go.Deep.choose_lt (α := List Value) (n := xs.length) (p := fun j cs => T.R w cs (xs.getD j T.d) ∧ ∀ i, i < T.n → L[j * T.n + i]? = cs[i]?) hL
 exact ⟨L, f, fun _ _ => False, row_low h (Nat.zero_le _), hF, fun j hj => ⟨(hf j hj).2, hfl.1 (hf j hj).1, fun b hb => False.elim hb⟩, fun i j _ _ _ b hb => False.elim hb⟩
theorem run_append_flat {α : Type} {T : Ty α} (A : T.Law) (hfl : Flat T) {e t : TypeId} {z : Value} (I : ElemInfo T e z) (ht : Try.prog.underlying t = some (.slice e)) (hz : z.cells.size = T.n)
  {w : World} {F0 F : Nat → Prop} {v u : Value} {xs ys : List α} (ty : TypeId) (hown : SlO e T w F0 v xs) (hu : SlR T w u ys) (h0 : ∀ b, F0 b → F b) (hf : F w.heap.size) (h63 : xs.length + ys.length ≤ 2097152) :
  ∃ v' w', (Builtin.append_ #[t, t] ty #[v, u]).run Try.prog w = .ok v' w' ∧ SlO e T w' F v' (xs ++ ys) ∧ w.grownBy w' v.ownBlock := by
 obtain ⟨i0, hi, hz0, hz1, hz2⟩ := I
 have hpos := A.pos
 by_cases hp : 0 < ys.length
 ·
  obtain ⟨a', cap', rfl⟩ := slR_len hu
  rcases hu with ⟨rfl, _⟩ | hu'
  ·
   simp at hp
  ·
   have hu : SlR T w (.slice a' ys.length cap') ys := Or.inr hu'
   obtain ⟨b, off, cap2, us, hv, _⟩ := hu'
   simp only [Value.slice.injEq] at hv
   obtain ⟨rfl, _, rfl⟩ := hv
   obtain ⟨_, hbl, N, hN, hNc, hNr⟩ := slR_cells A hu hp
   obtain ⟨L, us2, Fs, g1, g2, g3, g4⟩ := hown
   have hb : (xs.length + ys.length) * i0.bytes ≤ 2097152 * 512 := Nat.mul_le_mul h63 hz2
   obtain ⟨v', w', hr, k1, k2, _, k4⟩ := run_append_own_at (P := Try.prog) w 0 t ty e i0 z T.n i0.bytes ht hi hz0 hz1 rfl hz hpos v xs.length _ g1 ⟨b, off, none⟩ ys.length cap' N hN (fun j q hj => by rw [addr_add]; exact hNc j q hj) (fun q hq => by
    obtain ⟨k, hk, rfl⟩ := List.getElem_of_mem hq
    have hkl : k < ys.length * T.n := by omega
    have hq : k / T.n < ys.length := (Nat.div_lt_iff_lt_mul hpos).2 hkl
    have hm : k % T.n < T.n := Nat.mod_lt _ hpos
    obtain ⟨cs, hR, hc⟩ := hNr _ hq
    have e1 : k / T.n * T.n + k % T.n = k := by
     have := Nat.div_add_mod k T.n
     rw [Nat.mul_comm] at this; exact this
    have h5 := hc _ hm
    rw [e1, List.getElem?_eq_getElem hk, List.getElem?_eq_getElem (by rw [A.len hR]; exact hm)] at h5
    rw [Option.some.inj h5]
    exact hfl.2 hR _ (List.getElem_mem _)) (by unfold maxLen; omega) (by omega) (Nat.zero_le _)
   refine ⟨v', w', hr, ?_, k2⟩
   have hLl : L.length = xs.length * T.n := g1.1
   refine slO_flat A hfl (by rw [List.length_append]; exact k1) (fun c hc => ?_) (fun j hj => ?_)
   ·
    rcases k4 with q | q
    ·
     exact h0 c (g2 c (q ▸ hc))
    ·
     rw [q] at hc; rw [← Option.some.inj hc]; exact hf
   ·
    rw [List.length_append] at hj
    by_cases hlt : j < xs.length
    ·
     have er : (xs ++ ys).getD j T.d = xs.getD j T.d := by simp [List.getD, List.getElem?_append_left hlt]
     obtain ⟨c1, c2, _⟩ := g3 j hlt
     refine ⟨us2 j, by rw [er]; exact A.reads (hfl.1 (w' := w') (F := F) (A.reads c2)), fun i hi => ?_⟩
     have hl2 : j * T.n + i < L.length := by
      have : (j + 1) * T.n ≤ xs.length * T.n := Nat.mul_le_mul_right _ hlt
      rw [Nat.add_mul, Nat.one_mul] at this; omega
     rw [List.getElem?_append_left hl2]
     exact c1 i hi
    ·
     obtain ⟨m, rfl⟩ : ∃ m, j = xs.length + m := ⟨j - xs.length, by omega⟩
     have hm : m < ys.length := by omega
     have er : (xs ++ ys).getD (xs.length + m) T.d = ys.getD m T.d := by simp [List.getD, List.getElem?_append_right]
     obtain ⟨cs, hR, hc⟩ := hNr m hm
     refine ⟨cs, by rw [er]; exact A.reads (hfl.1 (w' := w') (F := F) hR), fun i hi => ?_⟩
     have e1 : (xs.length + m) * T.n + i = L.length + (m * T.n + i) := by rw [hLl, Nat.add_mul]; omega
     rw [e1, List.getElem?_append_right (by omega), Nat.add_sub_cancel_left]
     exact hc i hi
 ·
  have hy : ys = [] := List.eq_nil_of_length_eq_zero (by omega)
  subst hy
  obtain ⟨a', cap', rfl⟩ := slR_len hu
  have hs : Src Try.prog i0.size t (.slice a' 0 cap') 0 [] w := by
   cases a' with
   | none => exact Src.ofNil w ht cap'
   | some ad => exact Src.ofSlice w ht ad 0 cap' [] (by simp) (by simp) (by simp)
  obtain ⟨a, cap, hv, hle⟩ : ∃ a cap, v = .slice a xs.length cap ∧ xs.length ≤ cap := by
   obtain ⟨L, us2, Fs, g1, _⟩ := hown
   rcases g1.2 with ⟨rfl, q⟩ | ⟨g, cap, cur, rfl, _, _, hn, _⟩
   ·
    exact ⟨none, 0, by rw [q], by omega⟩
   ·
    exact ⟨_, cap, rfl, hn⟩
  subst hv
  exact ⟨_, _, run_append_nothing w t t ty e i0 ht hi a xs.length cap hle _ hs, by rw [List.append_nil]; exact slO_mono hown h0, World.grownBy.refl _ _⟩
theorem append_flat {α : Type} {T : Ty α} (A : T.Law) (hfl : Flat T) {e t : TypeId} {z : Value} (I : ElemInfo T e z) (ht : Try.prog.underlying t = some (.slice e)) (hz : z.cells.size = T.n)
  {w : World} {ops : Array Oper} {rest : List Oper} {o : Oper} {a : Act} {Q : Exit → Act → World → Prop} (hgd : o.guard = none) (s x : Operand)
  (ho : o.op = .call { callee := .builtin .append, args := #[s, x], argTypes := #[t, t] })
  (F0 F : Nat → Prop) (v u : Value) (xs ys : List α) (hs : a.eval s = v) (hx : a.eval x = u) (hown : SlO e T w F0 v xs) (hu : SlR T w u ys) (h0 : ∀ b, F0 b → F b) (hf : F w.heap.size) (h63 : xs.length + ys.length ≤ 2097152)
  (h : ∀ v' w', SlO e T w' F v' (xs ++ ys) → Turn F0 w w' → wpList Try.prog ops Q rest (a.put o.dst v') w') : wpList Try.prog ops Q (o :: rest) a w := by
 refine wpList_plain hgd fun K hK => ?_
 have hblk : ∀ b, v.ownBlock = some b → F0 b := by obtain ⟨L, us2, Fs, g1, g2, _⟩ := hown; exact g2
 obtain ⟨v', w', hr, h2, h3⟩ := run_append_flat A hfl I ht hz o.type hown hu h0 hf h63
 unfold Oper.wp execOp
 simp only [ho, resolve, invoke, builtin, Sem.run_bind, Sem.run_pure, Result.andThen_ok, List.map_toArray, List.map_cons, List.map_nil, hs, hx, hr]
 exact hK _ _ (h v' w' h2 (turn_grown h3 hblk))
/-- 'T{}' as a slice: no element yet. -/
theorem slO_empty {α : Type} {T : Ty α} (w : World) (e : TypeId) (F : Nat → Prop) (h : F w.heap.size) : SlO e T (w.alloc (.cells #[] e)) F (.slice (some ⟨w.heap.size, 0, none⟩) 0 0) [] := by
 refine ⟨[], fun _ => [], fun _ _ => False, ?_, fun b hb => ?_, fun j hj => by simp at hj, fun i j hi => by simp at hi⟩
 ·
  have := World.ownsRow_made (base := 0) (e := e) (size := T.n) w #[] 0 (Nat.zero_le _) (by unfold maxLen; omega) (by simp)
  exact this
 ·
  simp [Value.ownBlock] at hb; rw [← hb]; exact h
end Go.Proofs.Ythiiaiholcfhhaa
namespace Go.Proofs.Ythiiaiholcfhhaa
open Go.RowKit
set_option linter.unusedVariables false
set_option linter.unusedSimpArgs false
/-- Cells as they are: n of them. -/
def tRaw (n : Nat) : Ty (List Value) := { n := n, d := [], R := fun _ cs x => cs = x ∧ cs.length = n ∧ ∀ u ∈ cs, u.oneCell' = true, O := fun _ _ cs x => cs = x ∧ cs.length = n ∧ ∀ u ∈ cs, u.oneCell' = true, sz := fun _ => 0, nd := fun _ => 0, nv := fun _ => 0, md := fun x _ => x, mv := fun x _ => x, ok := fun _ => True, s := 0 }
theorem tRaw_law {n : Nat} (h : 0 < n) : (tRaw n).Law := ⟨h, fun h => h.2.1, fun h _ => h, fun h => h, fun h _ _ => h, fun h _ => h, fun h => h, fun x => Nat.le_refl _, fun x => Nat.le_refl _⟩
theorem flat_raw (n : Nat) : Flat (tRaw n) := ⟨fun h => h, fun h => h.2.2⟩
/-- Each cell of an element holds one value. -/
def OneC {α : Type} (T : Ty α) : Prop := ∀ {w : World} {cs : List Value} {x : α}, T.R w cs x → ∀ u ∈ cs, u.oneCell' = true
/-- What the cells read as. -/
def Sh {α : Type} (T : Ty α) (w : World) (L : List (List Value)) (xs : List α) : Prop := L.length = xs.length ∧ ∀ j, j < xs.length → T.R w (L.getD j []) (xs.getD j T.d)
section
variable {α : Type} {T : Ty α}
theorem sh_nil (w : World) : Sh T w [] [] := ⟨rfl, fun j hj => by simp at hj⟩
theorem sh_len {w : World} {L : List (List Value)} {xs : List α} (h : Sh T w L xs) : L.length = xs.length := h.1
theorem sh_below (A : T.Law) {W w : World} {L : List (List Value)} {xs : List α} (h : Sh T W L xs) (hb : Below W.heap.size W w) : Sh T w L xs := ⟨h.1, fun j hj => A.below (h.2 j hj) hb⟩
theorem sh_app {w : World} {L M : List (List Value)} {xs ys : List α} (h : Sh T w L xs) (g : Sh T w M ys) : Sh T w (L ++ M) (xs ++ ys) := by
 refine ⟨by rw [List.length_append, List.length_append, h.1, g.1], fun j hj => ?_⟩
 rw [List.length_append] at hj
 by_cases hlt : j < xs.length
 ·
  have e1 : (xs ++ ys).getD j T.d = xs.getD j T.d := by simp [List.getD, List.getElem?_append_left hlt]
  have e2 : (L ++ M).getD j [] = L.getD j [] := by simp only [List.getD]; rw [List.getElem?_append_left (by rw [h.1]; exact hlt)]
  rw [e1, e2]; exact h.2 j hlt
 ·
  have e1 : (xs ++ ys).getD j T.d = ys.getD (j - xs.length) T.d := by simp [List.getD, List.getElem?_append_right (show xs.length ≤ j by omega)]
  have e2 : (L ++ M).getD j [] = M.getD (j - xs.length) [] := by simp only [List.getD]; rw [List.getElem?_append_right (by rw [h.1]; omega), h.1]
  rw [e1, e2]; exact g.2 _ (by omega)
theorem sh_one {w : World} {cs : List Value} {x : α} (h : T.R w cs x) : Sh T w [cs] [x] := ⟨rfl, fun j hj => by
 obtain rfl : j = 0 := by simpa using hj
 exact h⟩
/-- A slice that is read, as cells. -/
theorem slR_raw (A : T.Law) (O : OneC T) {w : World} {v : Value} {xs : List α} (h : SlR T w v xs) : ∃ L, SlR (tRaw T.n) w v L ∧ Sh T w L xs := by
 rcases h with ⟨rfl, a, cap, rfl⟩ | ⟨b, off, cap, us, rfl, h2, h3, h4⟩
 ·
  exact ⟨[], Or.inl ⟨rfl, a, cap, rfl⟩, sh_nil w⟩
 ·
  have hl : ((List.range xs.length).map us).length = xs.length := by simp
  have hg : ∀ j, j < xs.length → ((List.range xs.length).map us).getD j [] = us j := fun j hj => by simp [List.getD, hj]
  refine ⟨(List.range xs.length).map us, Or.inr ⟨b, off, cap, us, by rw [hl], by rw [hl]; exact h2, h3, fun j hj => ?_⟩, hl, fun j hj => by rw [hg j hj]; exact (h4 j hj).2⟩
  rw [hl] at hj
  refine ⟨(h4 j hj).1, ?_⟩
  show us j = ((List.range xs.length).map us).getD j [] ∧ _
  rw [hg j hj]
  exact ⟨rfl, A.len (h4 j hj).2, O (h4 j hj).2⟩
theorem raw_slR {w : World} {v : Value} {L : List (List Value)} {xs : List α} (h : SlR (tRaw T.n) w v L) (g : Sh T w L xs) : SlR T w v xs := by
 rcases h with ⟨rfl, a, cap, rfl⟩ | ⟨b, off, cap, us, rfl, h2, h3, h4⟩
 ·
  have : xs = [] := List.eq_nil_of_length_eq_zero (by rw [← g.1]; rfl)
  subst this
  exact Or.inl ⟨rfl, a, cap, rfl⟩
 ·
  rw [g.1] at h2 h4
  refine Or.inr ⟨b, off, cap, us, by rw [g.1], h2, h3, fun j hj => ⟨(h4 j hj).1, ?_⟩⟩
  have e : us j = L.getD j [] := (h4 j hj).2.1
  rw [e]
  exact g.2 j hj
/-- What is owned raw and read as elements that were there, stays while the rest of the memory stays. -/
theorem raw_reads (hn : 0 < T.n) {e : TypeId} {w : World} {F : Nat → Prop} {v : Value} {L : List (List Value)} {xs : List α} (h : SlO e (tRaw T.n) w F v L) (g : Sh T w L xs) : SlR T w v xs := raw_slR (slO_reads (tRaw_law hn) h) g
end
end Go.Proofs.Ythiiaiholcfhhaa
namespace Go.Proofs.Ythiiaiholcfhhaa
open Go.RowKit
set_option linter.unusedVariables false
set_option linter.unusedSimpArgs false
end Go.Proofs.Ythiiaiholcfhhaa
namespace Go.Proofs.Ythiiaiholcfhhaa
open Go.RowKit
set_option linter.unusedVariables false
theorem info_T_int : ElemInfo tInt 3 (.int .i64 0) := elemInfo_of (by kernel_rfl)
end Go.Proofs.Ythiiaiholcfhhaa
namespace Go.Proofs.Ythiiaiholcfhhaa
open Go.RowKit
set_option linter.unusedVariables false
set_option linter.unusedSimpArgs false
end Go.Proofs.Ythiiaiholcfhhaa
namespace Go.Proofs.Ythiiaiholcfhhaa
open Go.RowKit
set_option linter.unusedVariables false
set_option linter.unusedSimpArgs false
def tStore : Ty (List (List (Int × List Int × Int × Int)) × Int) := tPair tVersionSS tInt
theorem tStore_law : tStore.Law := tPair_law tVersionSS_law tInt_law
theorem tStore_R {w : World} {cs : List Value} {x0 : List (List (Int × List Int × Int × Int))} {a1 : Int} (h : tStore.R w cs (x0, a1)) : ∃ v0, cs = [v0, .int .i64 a1] ∧ SlR tVersionS w v0 x0 := by
 obtain ⟨_, _, rfl, ⟨v0, rfl, h0⟩, rfl⟩ := h
 exact ⟨_, rfl, h0⟩
theorem tStore_sz {x0 : List (List (Int × List Int × Int × Int))} {a1 : Int} : tStore.sz (x0, a1) = zL tVersionS x0 := by
 simp only [tStore, tPair_sz, tPair_nd, tPair_nv, tInt_sz, tInt_nd, tInt_nv, tSl_sz, tSl_nd, tSl_nv]
 try omega
theorem tStore_O {w : World} {F : Nat → Prop} {cs : List Value} {x0 : List (List (Int × List Int × Int × Int))} {a1 : Int} (h : tStore.O w F cs (x0, a1)) : ∃ v0, ∃ F0 : Nat → Prop, cs = [v0, .int .i64 a1] ∧ SlO 89 tVersionS w F0 v0 x0 ∧ (∀ b, F0 b → F b) := by
 obtain ⟨_, _, F0_1, F0_2, rfl, ⟨v0, rfl, h0⟩, rfl, s0_1, s0_2, d0⟩ := h
 exact ⟨v0, F0_1, rfl, h0, fun b h => (s0_1 b h)⟩
theorem tStore_mkO {w : World} {F : Nat → Prop} {x0 : List (List (Int × List Int × Int × Int))} {a1 : Int} {v0 : Value} {F0 : Nat → Prop} (h0 : SlO 89 tVersionS w F0 v0 x0) (s0 : ∀ b, F0 b → F b)  : tStore.O w F [v0, .int .i64 a1] (x0, a1) := ⟨[v0], [.int .i64 a1], F0, fun _ => False, rfl, ⟨_, rfl, h0⟩, rfl, (fun b h => s0 b h), (fun b h => (False.elim h)), (fun b h g => (False.elim g))⟩
set_option maxHeartbeats 8000000 in
set_option maxRecDepth 100000 in
theorem szStore_Y (a1 : Int) (v0 : Value) (x0 : List (List (Int × List Int × Int × Int))) (k0 : Int) (w : World) (h0 : SlR tVersionS w v0 x0) (hs : ((zL tVersionS x0 : Nat) : Int) ≤ k0) (hk : k0 ≤ 1048576) :
  Calls Try.prog 14 #[.agg #[v0, .int .i64 a1], .int .i64 k0] w fun e w' => e = .returned (.int .i64 (k0 - ((zL tVersionS x0 : Nat) : Int))) ∧ Below w.heap.size w w' := by
 have H0 := Lib.hid h0
 clear h0
 have HZ0 : Hid (((zL tVersionS x0 : Nat) : Int) ≤ k0) := Lib.hid (by omega)
 have HK0 : Hid (k0 ≤ 1048576) := Lib.hid (by omega)
 have hn0 : ¬ k0 - ((zL tVersionS x0 : Nat) : Int) < 0 := by omega
 clear hs hk
 have hb : Below w.heap.size w (w.alloc (.cells #[v0, .int .i64 a1] 37)) := (Below.refl _ w).alloc (Nat.le_refl _) _
 have g0 : (w.alloc (.cells #[v0, .int .i64 a1] 37)).heap[w.heap.size]? = some (.cells #[v0, .int .i64 a1] 37 (0, 0)) := heap_alloc_new w _
 have hz0 : w.heap.size < (w.alloc (.cells #[v0, .int .i64 a1] 37)).heap.size := by simp
 go_enter Try.func14, Try.ntmps14
 go_wp2_with fail
 generalize (w.alloc (.cells #[v0, .int .i64 a1] 37)) = W at *
 refine (szVersionSS_Y v0 x0 (k0) W (slR_below tVersionS_law H0.out hb) HZ0.out HK0.out).mono ?_
 rintro e W1 ⟨rfl, b1⟩
 replace g0 := (b1.block w.heap.size hz0).trans g0
 replace hz0 := Nat.lt_of_lt_of_le hz0 b1.size
 replace hb := hb.trans (b1.mono hb.size)
 clear b1
 go_wp2
 go_ret
 exact ⟨rfl, hb⟩
set_option maxHeartbeats 8000000 in
set_option maxRecDepth 100000 in
theorem szStore_N (a1 : Int) (v0 : Value) (x0 : List (List (Int × List Int × Int × Int))) (k0 : Int) (w : World) (h0 : SlR tVersionS w v0 x0) (hs : k0 < ((zL tVersionS x0 : Nat) : Int)) (hk : k0 ≤ 1048576) (hp : 0 ≤ k0) (o0 : tVersionSS.ok x0) :
  Calls Try.prog 14 #[.agg #[v0, .int .i64 a1], .int .i64 k0] w fun e w' => e = .returned (.int .i64 (-1)) ∧ Below w.heap.size w w' := by
 have H0 := Lib.hid h0
 clear h0
 have HO0 := Lib.hid o0
 clear o0
 have HZ0 : Hid (k0 < ((zL tVersionS x0 : Nat) : Int)) := Lib.hid (by omega)
 have HP0 : Hid (0 ≤ k0) := Lib.hid (by omega)
 have HK0 : Hid (k0 ≤ 1048576) := Lib.hid (by omega)
 clear hs hk
 clear hp
 have hb : Below w.heap.size w (w.alloc (.cells #[v0, .int .i64 a1] 37)) := (Below.refl _ w).alloc (Nat.le_refl _) _
 have g0 : (w.alloc (.cells #[v0, .int .i64 a1] 37)).heap[w.heap.size]? = some (.cells #[v0, .int .i64 a1] 37 (0, 0)) := heap_alloc_new w _
 have hz0 : w.heap.size < (w.alloc (.cells #[v0, .int .i64 a1] 37)).heap.size := by simp
 go_enter Try.func14, Try.ntmps14
 go_wp2_with fail
 generalize (w.alloc (.cells #[v0, .int .i64 a1] 37)) = W at *
 refine (szVersionSS_N v0 x0 (k0) W (slR_below tVersionS_law H0.out hb) HZ0.out HK0.out HP0.out HO0.out).mono ?_
 rintro e W1 ⟨rfl, b1⟩
 replace g0 := (b1.block w.heap.size hz0).trans g0
 replace hz0 := Nat.lt_of_lt_of_le hz0 b1.size
 replace hb := hb.trans (b1.mono hb.size)
 clear b1
 go_wp2
 go_ret
 exact ⟨rfl, hb⟩
set_option maxHeartbeats 8000000 in
set_option maxRecDepth 100000 in
theorem toStore_T (a1 : Int) (v0 : Value) (x0 : List (List (Int × List Int × Int × Int))) (w : World) (h0 : SlR tVersionS w v0 x0) (s0 : zL tVersionS x0 ≤ 1048576) :
  Calls Try.prog 16 #[.agg #[v0, .int .i64 a1]] w (FreshT tStore (fun cs => .agg cs.toArray) w (x0, a1)) := by
 have H0 := Lib.hid h0
 clear h0
 have S0 := Lib.hid s0
 clear s0
 go_enter Try.func16, Try.ntmps16
 go_wp2_with fail
 have hb : Below w.heap.size w (((w.alloc (.cells #[v0, .int .i64 a1] 37)).alloc (.cells #[.slice none 0 0, .int .i64 0] 41)).alloc (.cells #[.slice none 0 0, .int .i64 0] 41)) := (((Below.refl _ w).alloc (Nat.le_refl _) _).alloc (by simp) _).alloc (by simp; omega) _
 have g2 : (((w.alloc (.cells #[v0, .int .i64 a1] 37)).alloc (.cells #[.slice none 0 0, .int .i64 0] 41)).alloc (.cells #[.slice none 0 0, .int .i64 0] 41)).heap[w.heap.size + 1 + 1]? = some (.cells #[.slice none 0 0, .int .i64 0] 41 (0, 0)) := by
  have := heap_alloc_new ((w.alloc (.cells #[v0, .int .i64 a1] 37)).alloc (.cells #[.slice none 0 0, .int .i64 0] 41)) (.cells #[.slice none 0 0, .int .i64 0] 41)
  simpa only [World.size_alloc] using this
 have g1 : (((w.alloc (.cells #[v0, .int .i64 a1] 37)).alloc (.cells #[.slice none 0 0, .int .i64 0] 41)).alloc (.cells #[.slice none 0 0, .int .i64 0] 41)).heap[w.heap.size + 1]? = some (.cells #[.slice none 0 0, .int .i64 0] 41 (0, 0)) := by
  have := heap_alloc_new (w.alloc (.cells #[v0, .int .i64 a1] 37)) (.cells #[.slice none 0 0, .int .i64 0] 41)
  rw [Below.heap_alloc _ _ _ (by simp)]
  simpa only [World.size_alloc] using this
 have g0 : (((w.alloc (.cells #[v0, .int .i64 a1] 37)).alloc (.cells #[.slice none 0 0, .int .i64 0] 41)).alloc (.cells #[.slice none 0 0, .int .i64 0] 41)).heap[w.heap.size]? = some (.cells #[v0, .int .i64 a1] 37 (0, 0)) := by
  rw [Below.heap_alloc _ _ _ (by simp; omega), Below.heap_alloc _ _ _ (by simp)]
  exact heap_alloc_new w _
 have hz : w.heap.size + 2 < (((w.alloc (.cells #[v0, .int .i64 a1] 37)).alloc (.cells #[.slice none 0 0, .int .i64 0] 41)).alloc (.cells #[.slice none 0 0, .int .i64 0] 41)).heap.size := by simp [World.size_alloc]
 generalize (((w.alloc (.cells #[v0, .int .i64 a1] 37)).alloc (.cells #[.slice none 0 0, .int .i64 0] 41)).alloc (.cells #[.slice none 0 0, .int .i64 0] 41)) = W at *
 refine (toVersionSS_S v0 x0 W (slR_below tVersionS_law H0.out hb) S0.out).mono ?_
 rintro e w1 ⟨u0, rfl, o0, b1⟩
 obtain ⟨ua0, uc0, rfl⟩ := slO_len o0
 replace o0 := slO_mono (slO_lt tVersionS_law o0) (F' := fun b => W.heap.size ≤ b ∧ b < w1.heap.size) (fun b h => h)
 replace g0 := (b1.block _ (by omega)).trans g0
 replace g1 := (b1.block _ (by omega)).trans g1
 replace g2 := (b1.block _ (by omega)).trans g2
 have zz1 := b1.size
 replace hb := hb.trans (b1.mono (by omega))
 clear b1
 have c2_0 := (cell_of_row w1 _ 0 _ _ _ g2).trans (show _ = some (Value.slice none 0 0) from rfl)
 have f2_0 := frozen_of_row w1 _ 0 _ _ g2
 have c2_1 := (cell_of_row w1 _ 1 _ _ _ g2).trans (show _ = some (Value.int .i64 0) from rfl)
 have f2_1 := frozen_of_row w1 _ 1 _ _ g2
 have ne1 : ¬ w.heap.size = w.heap.size + 1 + 1 := by omega
 have ne2 : ¬ w.heap.size + 1 = w.heap.size + 1 + 1 := by omega
 have ne3 : ¬ w.heap.size + 1 + 1 = w.heap.size + 1 := by omega
 have c0_1 := (cell_of_row w1 _ 1 _ _ _ g0).trans (show _ = some (Value.int .i64 a1) from rfl)
 have c1_0 := (cell_of_row w1 _ 0 _ _ _ g1).trans (show _ = some (Value.slice none 0 0) from rfl)
 have f1_0 := frozen_of_row w1 _ 0 _ _ g1
 have c1_1 := (cell_of_row w1 _ 1 _ _ _ g1).trans (show _ = some (Value.int .i64 0) from rfl)
 have f1_1 := frozen_of_row w1 _ 1 _ _ g1
 have l0_1 : (w1.setCell ⟨w.heap.size + 1 + 1, 0, none⟩ (.slice ua0 x0.length uc0)).cell? ⟨w.heap.size, 1, none⟩ = some (Value.int .i64 a1) := by
  have m : (w1.setCell ⟨w.heap.size + 1 + 1, 0, none⟩ (.slice ua0 x0.length uc0)).heap[w.heap.size]? = some (.cells #[v0, .int .i64 a1] 37 (0, 0)) := by
   repeat rw [heap_setCell_other _ _ _ _ (by simp <;> omega)]
   exact g0
  exact (cell_of_row _ _ 1 _ _ _ m).trans rfl
 go_wp2
 clear c2_0 f2_0 c2_1 f2_1 ne1 ne2 ne3 c0_1 c1_0 f1_0 c1_1 f1_1 l0_1
 have hw : Turn (fun b => b = w.heap.size + 1 ∨ b = w.heap.size + 1 + 1) w1 ((((w1.setCell ⟨w.heap.size + 1 + 1, 0, none⟩ (.slice ua0 x0.length uc0)).setCell ⟨w.heap.size + 1 + 1, 1, none⟩ (.int .i64 a1)).setCell ⟨w.heap.size + 1, 0, none⟩ (.slice ua0 x0.length uc0)).setCell ⟨w.heap.size + 1, 1, none⟩ (.int .i64 a1)) := by
  first | exact (((((Turn.refl _ _).trans (turn_set (g := w.heap.size + 1 + 1) (j := 0) (u := .slice ua0 x0.length uc0) (Or.inr rfl))).trans (turn_set (g := w.heap.size + 1 + 1) (j := 1) (u := .int .i64 a1) (Or.inr rfl))).trans (turn_set (g := w.heap.size + 1) (j := 0) (u := .slice ua0 x0.length uc0) (Or.inl rfl))).trans (turn_set (g := w.heap.size + 1) (j := 1) (u := .int .i64 a1) (Or.inl rfl))) | skip
 have r := (heap_setCell_same _ (w.heap.size + 1) 1 _ _ (.int .i64 a1) (heap_setCell_same _ (w.heap.size + 1) 0 _ _ (.slice ua0 x0.length uc0) ((heap_setCell_other _ ⟨w.heap.size + 1 + 1, 1, none⟩ (w.heap.size + 1) (.int .i64 a1) (by simp)).trans ((heap_setCell_other _ ⟨w.heap.size + 1 + 1, 0, none⟩ (w.heap.size + 1) (.slice ua0 x0.length uc0) (by simp)).trans g1))))
 have e0 := cell_of_row _ _ 0 _ _ _ r
 have e1 := cell_of_row _ _ 1 _ _ _ r
 simp at e0 e1
 replace o0 := slO_turn tVersionS_law o0 hw (fun b h1 h2 => by have := h1.1; omega)
 replace hb := below_turn hb hw (fun b h => by omega) (by omega)
 refine bodyPost_ret (v := .agg #[.slice ua0 x0.length uc0, .int .i64 a1]) ?_ rfl ?_
 ·
  simp [results, Try.f16, go_sem, e0, e1]
 ·
  exact ⟨[.slice ua0 x0.length uc0, .int .i64 a1], rfl, tStore_mkO o0 (fun b h => by show w.heap.size ≤ b; have := h.1; omega) , hb⟩
set_option maxHeartbeats 8000000 in
set_option maxRecDepth 100000 in
theorem eqStore_T (a1 : Int) (v0 : Value) (x0 : List (List (Int × List Int × Int × Int))) (u0 : Value) (w : World) (h0 : SlR tVersionS w v0 x0) (g0 : SlR tVersionS w u0 x0) (s0 : zL tVersionS x0 ≤ 1048576) :
  Calls Try.prog 18 #[.agg #[v0, .int .i64 a1], .agg #[u0, .int .i64 a1]] w fun e w' => e = .returned (.bool true) ∧ Below w.heap.size w w' := by
 have H0 := Lib.hid h0; have G0 := Lib.hid g0; have S0 := Lib.hid s0
 clear h0 g0 s0
 have e1 : (a1 != a1) = false := by simp
 go_enter Try.func18, Try.ntmps18
 go_wp2_with fail
 have hb : Below w.heap.size w ((w.alloc (.cells #[v0, .int .i64 a1] 41)).alloc (.cells #[u0, .int .i64 a1] 41)) := ((Below.refl _ w).alloc (Nat.le_refl _) _).alloc (by simp) _
 have g1 : ((w.alloc (.cells #[v0, .int .i64 a1] 41)).alloc (.cells #[u0, .int .i64 a1] 41)).heap[w.heap.size + 1]? = some (.cells #[u0, .int .i64 a1] 41 (0, 0)) := by
  have := heap_alloc_new (w.alloc (.cells #[v0, .int .i64 a1] 41)) (.cells #[u0, .int .i64 a1] 41)
  simpa only [World.size_alloc] using this
 have g0 : ((w.alloc (.cells #[v0, .int .i64 a1] 41)).alloc (.cells #[u0, .int .i64 a1] 41)).heap[w.heap.size]? = some (.cells #[v0, .int .i64 a1] 41 (0, 0)) := by
  rw [Below.heap_alloc _ _ _ (by simp)]
  exact heap_alloc_new w _
 have hz : w.heap.size + 1 < ((w.alloc (.cells #[v0, .int .i64 a1] 41)).alloc (.cells #[u0, .int .i64 a1] 41)).heap.size := by simp [World.size_alloc]
 generalize ((w.alloc (.cells #[v0, .int .i64 a1] 41)).alloc (.cells #[u0, .int .i64 a1] 41)) = W at *
 refine (eqVersionSS_S v0 u0 x0 W (slR_below tVersionS_law H0.out hb) (slR_below tVersionS_law G0.out hb) S0.out).mono ?_
 rintro e w1 ⟨rfl, b1⟩
 replace g0 := (b1.block _ (by omega)).trans g0
 replace g1 := (b1.block _ (by omega)).trans g1
 have zz0 := b1.size
 replace hb := hb.trans (b1.mono (by omega))
 clear b1
 have p0_1 := (cell_of_row w1 _ 1 _ _ _ g0).trans (show _ = some (Value.int .i64 a1) from rfl)
 have p1_1 := (cell_of_row w1 _ 1 _ _ _ g1).trans (show _ = some (Value.int .i64 a1) from rfl)
 go_wp2
 clear p0_1 p1_1
 go_ret
 exact ⟨rfl, hb⟩
set_option maxHeartbeats 8000000 in
set_option maxRecDepth 100000 in
theorem markStore_T (a1 : Int) (v0 : Value) (x0 : List (List (Int × List Int × Int × Int))) (F F0 : Nat → Prop) (k : Int) (w : World) (h0 : SlO 89 tVersionS w F0 v0 x0) (q0 : ∀ b, F0 b → F b)  (s0 : zL tVersionS x0 ≤ 1048576) (k0 : 0 ≤ k) (k1 : k ≤ 536870912) :
  Calls Try.prog 19 #[.agg #[v0, .int .i64 a1], .int .i64 k] w fun e w' => e = .returned (.int .i64 (k + (ndL tVersionS x0 : Int))) ∧ (SlO 89 tVersionS w' F0 v0 (mAll tVersionS x0 (k))) ∧ Turn F w w' := by
 have S0 := Lib.hid s0
 have N0 := ndL_le tVersionS_law (by decide) x0
 have R0 : Hid (0 ≤ k ∧ k ≤ 939524096) := Lib.hid (by omega)
 have RE : Hid (0 ≤ k + (ndL tVersionS x0 : Int)) := Lib.hid (by omega)
 clear N0
 have O0 := Lib.hid (slO_lt tVersionS_law h0)
 clear h0 s0
 go_enter Try.func19, Try.ntmps19
 go_wp2_with fail
 have hb : Below w.heap.size w (w.alloc (.cells #[v0, .int .i64 a1] 41)) := (Below.refl _ w).alloc (Nat.le_refl _) _
 have g0 : (w.alloc (.cells #[v0, .int .i64 a1] 41)).heap[w.heap.size]? = some (.cells #[v0, .int .i64 a1] 41 (0, 0)) := heap_alloc_new w _
 have hz : w.heap.size < (w.alloc (.cells #[v0, .int .i64 a1] 41)).heap.size := by simp [World.size_alloc]
 have ht : Turn F w (w.alloc (.cells #[v0, .int .i64 a1] 41)) := turn_below hb
 replace O0 := Lib.hid (slO_fresh tVersionS_law O0.out hb)
 generalize (w.alloc (.cells #[v0, .int .i64 a1] 41)) = W at *
 refine (markVersionSS_S v0 x0 _ (k) W O0.out S0.out R0.out.1 R0.out.2).mono ?_
 rintro e w1 ⟨rfl, m0, t1⟩
 replace g0 := (t1.block _ hz (fun h => absurd h.2 (Nat.lt_irrefl _))).trans g0
 have zz0 := t1.size
 replace hz := Nat.lt_of_lt_of_le hz t1.size
 replace ht := ht.trans (t1.mono (fun b h => q0 b h.1))
 replace O0 := Lib.hid m0
 clear m0 t1
 go_wp2
 go_ret
 exact ⟨rfl, slO_mono O0.out (fun b h => h.1), ht⟩
set_option maxHeartbeats 8000000 in
set_option maxRecDepth 100000 in
theorem heldStore_T (a1 : Int) (v0 : Value) (x0 : List (List (Int × List Int × Int × Int))) (k : Int) (w : World) (h0 : SlR tVersionS w v0 (mAll tVersionS x0 (k))) (s0 : zL tVersionS x0 ≤ 1048576) (k0 : 0 ≤ k) (k1 : k ≤ 536870912) :
  Calls Try.prog 21 #[.agg #[v0, .int .i64 a1], .int .i64 k] w fun e w' => e = .returned (.int .i64 (k + (ndL tVersionS x0 : Int))) ∧ Below w.heap.size w w' := by
 have S0 := Lib.hid s0
 have N0 := ndL_le tVersionS_law (by decide) x0
 have R0 : Hid (0 ≤ k ∧ k ≤ 939524096) := Lib.hid (by omega)
 have RE : Hid (0 ≤ k + (ndL tVersionS x0 : Int)) := Lib.hid (by omega)
 have ng0 : ¬ k + (ndL tVersionS x0 : Int) < 0 := by omega
 clear N0
 have H0 := Lib.hid h0
 clear h0 s0
 go_enter Try.func21, Try.ntmps21
 go_wp2_with fail
 have hb : Below w.heap.size w (w.alloc (.cells #[v0, .int .i64 a1] 41)) := (Below.refl _ w).alloc (Nat.le_refl _) _
 have g0 : (w.alloc (.cells #[v0, .int .i64 a1] 41)).heap[w.heap.size]? = some (.cells #[v0, .int .i64 a1] 41 (0, 0)) := heap_alloc_new w _
 have hz : w.heap.size < (w.alloc (.cells #[v0, .int .i64 a1] 41)).heap.size := by simp [World.size_alloc]
 generalize (w.alloc (.cells #[v0, .int .i64 a1] 41)) = W at *
 refine (heldVersionSS_S v0 x0 (k) W (slR_below tVersionS_law H0.out hb) S0.out R0.out.1 R0.out.2).mono ?_
 rintro e _ ⟨rfl, rfl⟩
 go_wp2
 go_ret
 exact ⟨rfl, hb⟩
end Go.Proofs.Ythiiaiholcfhhaa
namespace Go.Proofs.Ythiiaiholcfhhaa
open Go.RowKit
set_option linter.unusedVariables false
set_option linter.unusedSimpArgs false
end Go.Proofs.Ythiiaiholcfhhaa
namespace Go.Proofs.Ythiiaiholcfhhaa
open Go.RowKit
set_option linter.unusedVariables false
set_option linter.unusedSimpArgs false
end Go.Proofs.Ythiiaiholcfhhaa
namespace Go.Proofs.Ythiiaiholcfhhaa
open Go.RowKit
set_option linter.unusedVariables false
set_option linter.unusedSimpArgs false
set_option maxHeartbeats 2000000 in
set_option maxRecDepth 100000 in
theorem copyLVersionint (v : Value) (xs : List Int) (w : World) (h : SlR tInt w v xs) (hn : xs.length ≤ 1048576) :
  Calls Try.prog 89 #[v] w (FreshS 3 tInt w xs) := by
 have H := Lib.hid h
 have HN := Lib.hid hn
 obtain ⟨a, cap, rfl⟩ := slR_len h
 clear h hn
 go_enter Try.func89, Try.ntmps89
 go_wp2_with (at_builtin; refine append_flat tInt_law flat_int info_T_int Try.underlying22 rfl rfl _ (.tmp 3) rfl (fun _ => False) (since w) _ _ [] xs rfl rfl (slO_nil _ _ _ _) H.out (fun _ h => h.elim) (Nat.le_refl _) (by have := HN.out; simp; omega) ?_)
 intro v' w1 o1 t1
 obtain ⟨va, vc, rfl⟩ := slO_len o1
 have b1 := below_turn (Below.refl w.heap.size w) t1 (fun _ h => h.elim) (Nat.le_refl _)
 go_wp2
 go_ret
 exact ⟨_, rfl, o1, b1⟩
set_option maxHeartbeats 8000000 in
set_option maxRecDepth 100000 in
theorem copyVersion_P (a0 : Int) (a2 : Int) (a3 : Int) (v1 : Value) (x1 : List Int) (w : World) (h1 : SlR tInt w v1 x1) (s1 : zL tInt x1 ≤ 1048576) :
  Calls Try.prog 101 #[.agg #[.int .i64 a0, v1, .int .i64 a2, .int .i64 a3]] w (FreshT tVersion (fun cs => .agg cs.toArray) w (a0, x1, a2, a3)) := by
 obtain ⟨sa1, sc1, rfl⟩ := slR_len h1
 have H1 := Lib.hid h1; have N1 := Lib.hid (zL_len s1)
 clear h1 s1
 have d := Lib.hid (((Below.refl w.heap.size w).alloc (Nat.le_refl _) (.cells #[.int .i64 a0, .slice sa1 x1.length sc1, .int .i64 a2, .int .i64 a3] 88)).alloc (by simp) (.cells #[.int .i64 0, .slice none 0 0, .int .i64 0, .int .i64 0] 88))
 have B0 : Hid (((w.alloc (.cells #[.int .i64 a0, .slice sa1 x1.length sc1, .int .i64 a2, .int .i64 a3] 88)).alloc (.cells #[.int .i64 0, .slice none 0 0, .int .i64 0, .int .i64 0] 88)).heap[w.heap.size]? = some (.cells #[.int .i64 a0, .slice sa1 x1.length sc1, .int .i64 a2, .int .i64 a3] 88 (0, 0))) := Lib.hid (by rw [Below.heap_alloc _ _ _ (by simp)]; exact heap_alloc_new w _)
 have B1 : Hid (((w.alloc (.cells #[.int .i64 a0, .slice sa1 x1.length sc1, .int .i64 a2, .int .i64 a3] 88)).alloc (.cells #[.int .i64 0, .slice none 0 0, .int .i64 0, .int .i64 0] 88)).heap[(w.heap.size + 1)]? = some (.cells #[.int .i64 0, .slice none 0 0, .int .i64 0, .int .i64 0] 88 (0, 0))) := Lib.hid (by
  have := heap_alloc_new (w.alloc (.cells #[.int .i64 a0, .slice sa1 x1.length sc1, .int .i64 a2, .int .i64 a3] 88)) (.cells #[.int .i64 0, .slice none 0 0, .int .i64 0, .int .i64 0] 88)
  simpa only [World.size_alloc] using this)
 have YW : Hid (w.heap.size + 1 < ((w.alloc (.cells #[.int .i64 a0, .slice sa1 x1.length sc1, .int .i64 a2, .int .i64 a3] 88)).alloc (.cells #[.int .i64 0, .slice none 0 0, .int .i64 0, .int .i64 0] 88)).heap.size) := Lib.hid (by simp)
 go_enter Try.func101, Try.ntmps101
 go_wp2_with fail
 generalize ((w.alloc (.cells #[.int .i64 a0, .slice sa1 x1.length sc1, .int .i64 a2, .int .i64 a3] 88)).alloc (.cells #[.int .i64 0, .slice none 0 0, .int .i64 0, .int .i64 0] 88)) = W at *
 refine (copyLVersionint (.slice sa1 x1.length sc1) x1 W (slR_below tInt_law H1.out d.out) N1.out).mono ?_
 rintro e wq1 ⟨u, rfl, o1, c1⟩
 replace o1 := slO_lt tInt_law o1
 obtain ⟨ua1, uc1, rfl⟩ := slO_len o1
 replace B0 := Lib.hid ((c1.block w.heap.size (Array.getElem?_eq_some_iff.1 B0.out).1).trans B0.out)
 replace B1 := Lib.hid ((c1.block (w.heap.size + 1) (Array.getElem?_eq_some_iff.1 B1.out).1).trans B1.out)
 have P1 := Lib.hid o1
 have y0 := YW.out; have yd := d.out.size; have yc := c1.size
 have Q1 : Hid (∀ b, (since W b ∧ b < wq1.heap.size) → w.heap.size + 1 < b ∧ W.heap.size ≤ b ∧ b < wq1.heap.size) := Lib.hid (fun b h => ⟨Nat.lt_of_lt_of_le y0 h.1, h.1, h.2⟩)
 have Zq1 : Hid (W.heap.size ≤ wq1.heap.size) := Lib.hid yc
 replace d := Lib.hid (d.out.trans (c1.mono d.out.size))
 replace YW : Hid (w.heap.size + 1 < wq1.heap.size) := Lib.hid (Nat.lt_of_lt_of_le y0 yc)
 clear o1 c1 y0 yd yc
 have p0 := (cell_of_row wq1 _ 1 _ _ _ B0.out).trans (show _ = some (Value.slice sa1 x1.length sc1) from rfl)
 have f0 := frozen_of_row wq1 _ 1 _ _ B0.out
 skip
 have tt : Turn (fun b => b = w.heap.size) wq1 (wq1.setCell ⟨w.heap.size, 1, none⟩ (.slice ua1 x1.length uc1)) := turn_set (G := fun b => b = w.heap.size) (g := w.heap.size) (j := 1) (u := .slice ua1 x1.length uc1) rfl
 have r := heap_setCell_same wq1 w.heap.size 1 _ _ (.slice ua1 x1.length uc1) B0.out
 simp at r
 have y1 := YW.out
 have K0 : Hid ((wq1.setCell ⟨w.heap.size, 1, none⟩ (.slice ua1 x1.length uc1)).heap[w.heap.size]? = some (.cells #[.int .i64 a0, .slice ua1 x1.length uc1, .int .i64 a2, .int .i64 a3] 88 (0, 0))) := Lib.hid r
 have K1 := Lib.hid ((tt.block (w.heap.size + 1) (Array.getElem?_eq_some_iff.1 B1.out).1 (fun h => by omega)).trans B1.out)
 have KP1 := Lib.hid (slO_turn tInt_law P1.out tt (fun b h1 h2 => by have := Q1.out b h1; omega))
 have kd := Lib.hid (below_turn d.out tt (fun b h => by omega) d.out.size)
 have KY : Hid (w.heap.size + 1 < (wq1.setCell ⟨w.heap.size, 1, none⟩ (.slice ua1 x1.length uc1)).heap.size) := Lib.hid (Nat.lt_of_lt_of_le y1 tt.size)
 have Zs1 : Hid (wq1.heap.size ≤ (wq1.setCell ⟨w.heap.size, 1, none⟩ (.slice ua1 x1.length uc1)).heap.size) := Lib.hid tt.size
 clear tt r y1 B0 B1 d YW P1
 generalize hW : (wq1.setCell ⟨w.heap.size, 1, none⟩ (.slice ua1 x1.length uc1)) = WF at *
 have c0 := (cell_of_row WF _ 0 _ _ _ K0.out).trans (show _ = some (Value.int .i64 a0) from rfl)
 have c1 := (cell_of_row WF _ 1 _ _ _ K0.out).trans (show _ = some (Value.slice ua1 x1.length uc1) from rfl)
 have c2 := (cell_of_row WF _ 2 _ _ _ K0.out).trans (show _ = some (Value.int .i64 a2) from rfl)
 have c3 := (cell_of_row WF _ 3 _ _ _ K0.out).trans (show _ = some (Value.int .i64 a3) from rfl)
 have z0 := (cell_of_row WF _ 0 _ _ _ K1.out).trans (show _ = some (Value.int .i64 0) from rfl)
 have g0 := frozen_of_row WF _ 0 _ _ K1.out
 have z1 := (cell_of_row WF _ 1 _ _ _ K1.out).trans (show _ = some (Value.slice none 0 0) from rfl)
 have g1 := frozen_of_row WF _ 1 _ _ K1.out
 have z2 := (cell_of_row WF _ 2 _ _ _ K1.out).trans (show _ = some (Value.int .i64 0) from rfl)
 have g2 := frozen_of_row WF _ 2 _ _ K1.out
 have z3 := (cell_of_row WF _ 3 _ _ _ K1.out).trans (show _ = some (Value.int .i64 0) from rfl)
 have g3 := frozen_of_row WF _ 3 _ _ K1.out
 have y1 := KY.out
 have DF := Lib.hid ((((kd.out.setCell (p := ⟨w.heap.size + 1, 0, none⟩) (by simp) (.int .i64 a0)).setCell (p := ⟨w.heap.size + 1, 1, none⟩) (by simp) (.slice ua1 x1.length uc1)).setCell (p := ⟨w.heap.size + 1, 2, none⟩) (by simp) (.int .i64 a2)).setCell (p := ⟨w.heap.size + 1, 3, none⟩) (by simp) (.int .i64 a3))
 have r := (heap_setCell_same _ (w.heap.size + 1) 3 _ _ (.int .i64 a3) (heap_setCell_same _ (w.heap.size + 1) 2 _ _ (.int .i64 a2) (heap_setCell_same _ (w.heap.size + 1) 1 _ _ (.slice ua1 x1.length uc1) (heap_setCell_same WF (w.heap.size + 1) 0 _ _ (.int .i64 a0) K1.out))))
 simp at r
 have e0 := (cell_of_row _ (w.heap.size + 1) 0 _ _ _ r).trans (show _ = some (Value.int .i64 a0) from rfl)
 have e1 := (cell_of_row _ (w.heap.size + 1) 1 _ _ _ r).trans (show _ = some (Value.slice ua1 x1.length uc1) from rfl)
 have e2 := (cell_of_row _ (w.heap.size + 1) 2 _ _ _ r).trans (show _ = some (Value.int .i64 a2) from rfl)
 have e3 := (cell_of_row _ (w.heap.size + 1) 3 _ _ _ r).trans (show _ = some (Value.int .i64 a3) from rfl)
 have tt : Turn (fun b => b = w.heap.size + 1) WF ((((WF.setCell ⟨w.heap.size + 1, 0, none⟩ (.int .i64 a0)).setCell ⟨w.heap.size + 1, 1, none⟩ (.slice ua1 x1.length uc1)).setCell ⟨w.heap.size + 1, 2, none⟩ (.int .i64 a2)).setCell ⟨w.heap.size + 1, 3, none⟩ (.int .i64 a3)) := (((((Turn.refl (fun b => b = w.heap.size + 1) _).trans (turn_set (G := fun b => b = w.heap.size + 1) (g := w.heap.size + 1) (j := 0) (u := .int .i64 a0) rfl)).trans (turn_set (G := fun b => b = w.heap.size + 1) (g := w.heap.size + 1) (j := 1) (u := .slice ua1 x1.length uc1) rfl)).trans (turn_set (G := fun b => b = w.heap.size + 1) (g := w.heap.size + 1) (j := 2) (u := .int .i64 a2) rfl)).trans (turn_set (G := fun b => b = w.heap.size + 1) (g := w.heap.size + 1) (j := 3) (u := .int .i64 a3) rfl))
 have PF1 := Lib.hid (slO_turn tInt_law KP1.out tt (fun b h1 h2 => by have := Q1.out b h1; omega))
 clear r tt KY K1 kd y1 K0 KP1
 subst hW
 go_wp2
 refine bodyPost_ret (v := .agg #[.int .i64 a0, .slice ua1 x1.length uc1, .int .i64 a2, .int .i64 a3]) ?_ rfl ⟨[.int .i64 a0, .slice ua1 x1.length uc1, .int .i64 a2, .int .i64 a3], rfl, tVersion_mkO PF1.out (fun b h => by have := Q1.out b h; show w.heap.size ≤ b; omega) , DF.out⟩
 simp [results, Try.f101, go_sem, e0, e1, e2, e3]
end Go.Proofs.Ythiiaiholcfhhaa
namespace Go.Proofs.Ythiiaiholcfhhaa
open Go.ChangeShapes Go.WideShapes Go.ChangeAt Go.WideMaps Go.WideElems Go.RowKit
set_option linter.unusedVariables false
theorem laidOutP : laidOutB Try.prog = true := by kernel_rfl
theorem recInts : Try.prog.readableRec 22 = true := by kernel_rfl
theorem rowInts : 22 < Try.prog.types.size := of_decide_eq_true (by kernel_rfl)
set_option maxRecDepth 100000 in
theorem ints_shut {H : Type} {enc : TypeId × Value → H} {W W' : World} {v : Value} {d : DataW H} {ps : List MemPlace} (h : DataW.Trod enc Try.prog W 0 (fun _ => true) true 22 v d ps) (hb : Below W.heap.size W W') (hlt : ∀ x ∈ ps, x.block < W.heap.size) :
  DataW.Trod enc Try.prog W' 0 (fun b => decide (b < W.heap.size)) true 22 v d ps := Below.trod laidOutP recInts rowInts h hb hlt
end Go.Proofs.Ythiiaiholcfhhaa
namespace Go.Proofs.Ythiiaiholcfhhaa
open Go.ChangeShapes Go.WideShapes Go.ChangeAt Go.WideMaps Go.WideElems Go.RowKit
set_option linter.unusedVariables false
/-- Cells that the statement reads as a value of the type t are a datum of the kind T. -/
def Opn {α : Type} (T : Ty α) (t : TypeId) : Prop := ∀ {H : Type} {enc : TypeId × Value → H} {W : World} {held : Bool} {fuel : Nat} {cs : List Value} {x : DataW H × List MemPlace}, DataW.trod enc Try.prog W 0 (fun _ => true) held fuel t cs = some x → ∃ d, T.R W cs d ∧ T.ok d
theorem opn_int : Opn tInt 3 := by
 intro H enc W held fuel cs x h
 obtain ⟨a, e, _, _⟩ := DataW.trod_int Try.underlying3 h
 exact ⟨a, e, trivial⟩
theorem opn_cast {α : Type} {T : Ty α} {t : TypeId} (O : Opn T t) {H : Type} {enc : TypeId × Value → H} {W : World} {held : Bool} {fuel : Nat} {cs : List Value} {o k : Nat} {x : Option (DataW H × List MemPlace)} (hx : x.isSome) (h : DataW.trod enc Try.prog W 0 (fun _ => true) held fuel t ((cs.drop o).take k) = x) :
  ∃ d, T.R W ((cs.drop o).take k) d ∧ T.ok d := by
 cases x with
 | none => cases hx
 | some y => exact O h
set_option maxRecDepth 100000 in
theorem opn_slice {α : Type} {T : Ty α} (A : T.Law) {e t : TypeId} (e' : TypeId) (O : Opn T e) (hu : Try.prog.underlying t = some (.slice e)) (hC : Try.prog.cellsOf e = T.n) : Opn (tSl e' T) t := by
 intro H enc W held fuel cs x hf
 rcases Go.Deep.open_slice hu hf with ⟨rfl, _⟩ | ⟨a', len', cap', m, n, D, Pl, rfl, _, hl, hm, hmm, _, hx⟩
 ·
  exact ⟨[], ⟨_, rfl, Or.inl ⟨rfl, none, 0, rfl⟩⟩, by simp, fun j hj => by simp at hj⟩
 ·
  rw [if_pos rfl] at hmm
  subst hmm
  unfold maxLen at hm
  rw [hC] at hx
  have hpos := A.pos
  haveI : Inhabited α := ⟨T.d⟩
  obtain ⟨f, hf'⟩ := Go.Deep.choose_lt (α := α × List Value) (n := len') (p := fun i q => (∀ j, j < T.n → W.cell? ((a'.add (i * T.n)).add j) = q.2[j]?) ∧ T.R W q.2 q.1 ∧ T.ok q.1) (fun i hi => by
   obtain ⟨cs', h1, h2⟩ := hx i (by omega)
   obtain ⟨_, hlen, hc⟩ := World.cells?_some h1
   obtain ⟨d, hd, ho⟩ := O h2
   exact ⟨(d, cs'), hc, hd, ho⟩)
  have hat : ∀ j, j < len' → ((List.range len').map fun i => (f i).1).getD j T.d = (f j).1 := fun j hj => by simp [List.getD, hj]
  have hlen : ((List.range len').map fun i => (f i).1).length = len' := by simp
  refine ⟨(List.range len').map fun i => (f i).1, ⟨_, rfl, ?_⟩, by rw [hlen]; omega, fun j hj => by rw [hlen] at hj; rw [hat j hj]; exact (hf' j hj).2.2⟩
  by_cases h0 : len' = 0
  ·
   subst h0
   exact Or.inl ⟨rfl, some a', _, rfl⟩
  ·
   have h1 := (hf' 0 (by omega)).1 0 hpos
   have hcl : 0 < (f 0).2.length := by rw [A.len (hf' 0 (by omega)).2.1]; exact hpos
   rw [List.getElem?_eq_getElem hcl] at h1
   obtain ⟨b, off, spot⟩ := a'
   have hspot : spot = none := by simpa [Addr.add] using World.cell?_spot h1
   subst hspot
   refine Or.inr ⟨b, off, _, fun i => (f i).2, by rw [hlen], by rw [hlen]; exact hl, ?_, ?_⟩
   ·
    have := World.block_lt_of_cell? W _ h1
    simpa [Addr.add] using this
   ·
    intro j hj
    rw [hlen] at hj
    obtain ⟨g1, g2, _⟩ := hf' j hj
    rw [hat j hj]
    refine ⟨fun i hi => ?_, g2⟩
    have := g1 i hi
    rw [Go.WideShapes.add_plain, Go.WideShapes.add_plain] at this
    exact this
theorem opn_ints (e' : TypeId) : Opn (tSl e' tInt) 22 := opn_slice tInt_law e' opn_int Try.underlying22 (by kernel_rfl)
set_option maxRecDepth 100000 in
/-- A slice as an argument. -/
theorem slA_open {α : Type} {T : Ty α} {e e' t : TypeId} (O : Opn (tSl e' T) t) (hu : Try.prog.underlying t = some (.slice e)) {H : Type} {enc : TypeId × Value → H} {W : World} {r : Reach} {b0 : Nat} {v : Value} {d : DataW H} {p : List MemPlace}
  (hval : Value.okWide Try.prog W r b0 t v) (h : DataW.Trod enc Try.prog W 0 (fun _ => true) true t v d p) : ∃ xs, SlR T W v xs ∧ (tSl e' T).ok xs := by
 obtain ⟨a, len, cap, rfl⟩ := okWide_slice hu hval
 obtain ⟨fuel, hf⟩ := h
 obtain ⟨xs, ⟨v, e, h⟩, ho⟩ := O hf
 simp [Value.cells] at e
 subst e
 exact ⟨xs, h, ho⟩
set_option maxRecDepth 100000 in
/-- A struct as an argument. -/
theorem stA_open {α : Type} {T : Ty α} {t : TypeId} {fs : Array Field} (O : Opn T t) (hu : Try.prog.underlying t = some (.struct fs)) {H : Type} {enc : TypeId × Value → H} {W : World} {r : Reach} {b0 : Nat} {v : Value} {d : DataW H} {p : List MemPlace}
  (hval : Value.okWide Try.prog W r b0 t v) (h : DataW.Trod enc Try.prog W 0 (fun _ => true) true t v d p) : ∃ cs x, v = .agg cs.toArray ∧ T.R W cs x ∧ T.ok x := by
 obtain ⟨⟨cs⟩, rfl, hsz⟩ := okWide_struct hu hval
 obtain ⟨fuel, hf⟩ := h
 obtain ⟨x, h, ho⟩ := O hf
 exact ⟨cs, x, rfl, h, ho⟩
end Go.Proofs.Ythiiaiholcfhhaa
namespace Go.Proofs.Ythiiaiholcfhhaa
open Go.ChangeShapes Go.WideShapes Go.ChangeAt Go.WideMaps Go.WideElems Go.RowKit
set_option linter.unusedVariables false
set_option maxRecDepth 100000 in
theorem opn_Version : Opn tVersion 145 := by
 intro H enc W held fuel cs x h
 obtain ⟨xs, n, _, _, hl, hlen, hf⟩ := DataW.trod_struct Try.underlying145 h
 have hl2 : cs.length = 4 := hl.trans (by kernel_rfl)
 have hn : xs.length = 4 := hlen
 have f0 : DataW.trod enc Try.prog W 0 (fun _ => true) held n 3 ((cs.drop 0).take (Try.prog.cellsOf 3)) = xs[0]? := hf 0 _ rfl
 rw [show Try.prog.cellsOf 3 = 1 from by kernel_rfl] at f0
 obtain ⟨d0, r0, o0⟩ := opn_cast (opn_int) (by rw [List.getElem?_eq_getElem (by omega)]; rfl) f0
 have f1 : DataW.trod enc Try.prog W 0 (fun _ => true) held n 22 ((cs.drop 1).take (Try.prog.cellsOf 22)) = xs[1]? := hf 1 _ rfl
 rw [show Try.prog.cellsOf 22 = 1 from by kernel_rfl] at f1
 obtain ⟨d1, r1, o1⟩ := opn_cast (opn_ints 3) (by rw [List.getElem?_eq_getElem (by omega)]; rfl) f1
 have f2 : DataW.trod enc Try.prog W 0 (fun _ => true) held n 3 ((cs.drop 2).take (Try.prog.cellsOf 3)) = xs[2]? := hf 2 _ rfl
 rw [show Try.prog.cellsOf 3 = 1 from by kernel_rfl] at f2
 obtain ⟨d2, r2, o2⟩ := opn_cast (opn_int) (by rw [List.getElem?_eq_getElem (by omega)]; rfl) f2
 have f3 : DataW.trod enc Try.prog W 0 (fun _ => true) held n 3 ((cs.drop 3).take (Try.prog.cellsOf 3)) = xs[3]? := hf 3 _ rfl
 rw [show Try.prog.cellsOf 3 = 1 from by kernel_rfl] at f3
 obtain ⟨d3, r3, o3⟩ := opn_cast (opn_int) (by rw [List.getElem?_eq_getElem (by omega)]; rfl) f3
 exact ⟨(d0, d1, d2, d3), ⟨(cs.drop 0).take 1, cs.drop 1, (List.take_append_drop 1 cs).symm, r0, ⟨(cs.drop 1).take 1, cs.drop 2, (List.take_append_drop 1 (cs.drop 1)).symm.trans (by simp), r1, ⟨(cs.drop 2).take 1, cs.drop 3, (List.take_append_drop 1 (cs.drop 2)).symm.trans (by simp), r2, (by have e := List.take_of_length_le (l := cs.drop 3) (i := 1) (by rw [List.length_drop]; omega); rw [e] at r3; exact r3)⟩⟩⟩, ⟨o0, ⟨o1, ⟨o2, o3⟩⟩⟩⟩
end Go.Proofs.Ythiiaiholcfhhaa
namespace Go.Proofs.Ythiiaiholcfhhaa
open Go.ChangeShapes Go.WideShapes Go.ChangeAt Go.WideMaps Go.WideElems Go.RowKit
set_option linter.unusedVariables false
theorem opn_VersionS : Opn tVersionS 122 := opn_slice tVersion_law _ opn_Version Try.underlying122 (by kernel_rfl)
end Go.Proofs.Ythiiaiholcfhhaa
namespace Go.Proofs.Ythiiaiholcfhhaa
open Go.ChangeShapes Go.WideShapes Go.ChangeAt Go.WideMaps Go.WideElems Go.RowKit
set_option linter.unusedVariables false
theorem opn_VersionSS : Opn tVersionSS 35 := opn_slice tVersionS_law _ opn_VersionS Try.underlying35 (by kernel_rfl)
end Go.Proofs.Ythiiaiholcfhhaa
namespace Go.Proofs.Ythiiaiholcfhhaa
open Go.ChangeShapes Go.WideShapes Go.ChangeAt Go.WideMaps Go.WideElems Go.RowKit
set_option linter.unusedVariables false
theorem recT_Store : Try.prog.readableRec 37 = true := by kernel_rfl
theorem rowT_Store : 37 < Try.prog.types.size := of_decide_eq_true (by kernel_rfl)
set_option maxRecDepth 100000 in
theorem opn_Store : Opn tStore 37 := by
 intro H enc W held fuel cs x h
 obtain ⟨xs, n, _, _, hl, hlen, hf⟩ := DataW.trod_struct Try.underlying37 h
 have hl2 : cs.length = 2 := hl.trans (by kernel_rfl)
 have hn : xs.length = 2 := hlen
 have f0 : DataW.trod enc Try.prog W 0 (fun _ => true) held n 35 ((cs.drop 0).take (Try.prog.cellsOf 35)) = xs[0]? := hf 0 _ rfl
 rw [show Try.prog.cellsOf 35 = 1 from by kernel_rfl] at f0
 obtain ⟨d0, r0, o0⟩ := opn_cast (opn_VersionSS) (by rw [List.getElem?_eq_getElem (by omega)]; rfl) f0
 have f1 : DataW.trod enc Try.prog W 0 (fun _ => true) held n 3 ((cs.drop 1).take (Try.prog.cellsOf 3)) = xs[1]? := hf 1 _ rfl
 rw [show Try.prog.cellsOf 3 = 1 from by kernel_rfl] at f1
 obtain ⟨d1, r1, o1⟩ := opn_cast (opn_int) (by rw [List.getElem?_eq_getElem (by omega)]; rfl) f1
 exact ⟨(d0, d1), ⟨(cs.drop 0).take 1, cs.drop 1, (List.take_append_drop 1 cs).symm, r0, (by have e := List.take_of_length_le (l := cs.drop 1) (i := 1) (by rw [List.length_drop]; omega); rw [e] at r1; exact r1)⟩, ⟨o0, o1⟩⟩
set_option maxRecDepth 100000 in
theorem shut_Store {H : Type} {enc : TypeId × Value → H} {W W' : World} {v : Value} {d : DataW H} {ps : List MemPlace} (h : DataW.Trod enc Try.prog W 0 (fun _ => true) true 37 v d ps) (hb : Below W.heap.size W W') (hlt : ∀ x ∈ ps, x.block < W.heap.size) :
  DataW.Trod enc Try.prog W' 0 (fun b => decide (b < W.heap.size)) true 37 v d ps := Below.trod laidOutP recT_Store rowT_Store h hb hlt
end Go.Proofs.Ythiiaiholcfhhaa
