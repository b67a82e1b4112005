/-
 Texts of the proof, merged: AppInts, RowMark, RowMarkW, CondVal, CondSpec, QueryVal, SpanVal, SpanSl, FreshInts, TyApp, PkA, Sep2, PkB, Raw, Els, Wide, PkE, BrRow, TQueryS, FlatT, TUpdate, TUpdateS, CopyEachVersion, AppIntsW.
-/
import Derived.Test.YtnepfacnmaoieaaGreatDoorCA1
import Derived.Test.YtnepfacnmaoieaaGreatDoorCA2
import Derived.Test.YtnepfacnmaoieaaGreatDoorCA4
import Derived.Deep.Upon
import Derived.Maps.AppendAt
import Derived.Deep.Slices
import Derived.Laws.CopyOwn
import Derived.Laws.CopyRow
import Derived.BigQuiet
import Derived.Deep.QuietTactic
import Derived.Deep.RegionHeld3
namespace Go.Proofs.YtnepfacnmaoieaaGreatDoor
open Go.RowKit
open Go renaming frozen_of_row → Ez, cell_of_row → Ia, heap_setCell_same → Ib, heap_alloc_new → Ic
open Go.World renaming size_alloc → Ie
open List renaming getElem?_eq_getElem → Ih
open Nat renaming le_refl → Ii, zero_le → Ij
open Go.Value.slice renaming injEq → Ik
open Go.RowKit.Below renaming refl → Il
open ZD0
set_option maxRecDepth 100000
set_option linter.unusedVariables false
set_option linter.unusedSimpArgs false
/-- Only blocks from B up to hi have turned. -/
structure Only (B hi : Nat) (w w' : World) : Prop where
 os : w'.os = w.os
 tape : w'.tape = w.tape
 output : w'.output = w.output
 size : w.heap.size ≤ w'.heap.size
 block : ∀ k, k < w.heap.size → (k < B ∨ hi ≤ k) → w'.heap[k]? = w.heap[k]?
theorem Only.refl (B hi : Nat) (w : World) : Only B hi w w := ⟨rfl, rfl, rfl, Ii _, fun _ _ _ => rfl⟩
theorem Only.trans {B hi : Nat} {a b c : World} (h : Only B hi a b) (k : Only B hi b c) : Only B hi a c :=
 ⟨k.os.trans h.os, k.tape.trans h.tape, k.output.trans h.output, Nat.le_trans h.size k.size, fun i hi' hn => (k.block i (Nat.lt_of_lt_of_le hi' h.size) hn).trans (h.block i hi' hn)⟩
/-- A condition: field, low, high. -/
abbrev Ul := Int × Int × Int
/-- The cells of conditions. -/
def flatC (cs : List Ul) : List Value := cs.flatMap fun c => [.int .i64 c.1, .int .i64 c.2.1, .int .i64 c.2.2]
/-- The slice v reads as the conditions cs. -/
def CondsR (w : World) (v : Value) (cs : List Ul) : Prop :=
 (cs = [] ∧ ∃ a cap, v = .slice a 0 cap) ∨ ∃ b off cap, v = .slice (some ⟨b, off, none⟩) cs.length cap ∧ cs.length ≤ cap ∧ b < w.heap.size ∧ ∀ j, j < cs.length →
  w.cell? ⟨b, off + j * 3, none⟩ = some (.int .i64 (cs.getD j (0, 0, 0)).1) ∧ w.cell? ⟨b, off + j * 3 + 1, none⟩ = some (.int .i64 (cs.getD j (0, 0, 0)).2.1) ∧ w.cell? ⟨b, off + j * 3 + 2, none⟩ = some (.int .i64 (cs.getD j (0, 0, 0)).2.2)
theorem condsR_len {w : World} {v : Value} {cs : List Ul} (h : CondsR w v cs) : ∃ a cap, v = .slice a cs.length cap := by
 rcases h with ⟨rfl, a, cap, rfl⟩ | ⟨b, off, cap, rfl, _⟩
 ·
  exact ⟨a, cap, rfl⟩
 ·
  exact ⟨_, cap, rfl⟩
theorem condsR_below {W w : World} {v : Value} {cs : List Ul} (h : CondsR W v cs) (hb : Below W W w) : CondsR w v cs := by
 rcases h with h | ⟨b, off, cap, h1, h2, h3, h4⟩
 ·
  exact Or.inl h
 ·
  exact Or.inr ⟨b, off, cap, h1, h2, Nat.lt_of_lt_of_le h3 hb.size, fun j hj => ⟨(hb.cell (p := ⟨b, off + j * 3, none⟩) h3).trans (h4 j hj).1, (hb.cell (p := ⟨b, off + j * 3 + 1, none⟩) h3).trans (h4 j hj).2.1, (hb.cell (p := ⟨b, off + j * 3 + 2, none⟩) h3).trans (h4 j hj).2.2⟩⟩
theorem condsR_at {w : World} {v : Value} {cs : List Ul} (h : CondsR w v cs) {k : Nat} (hk : k < cs.length) : ∃ (b off cap : Nat), v = .slice (some ⟨b, off, none⟩) cs.length cap ∧ b < w.heap.size ∧
  w.cell? ⟨b, off + k * 3, none⟩ = some (.int .i64 (cs.getD k (0, 0, 0)).1) ∧ w.cell? ⟨b, off + k * 3 + 1, none⟩ = some (.int .i64 (cs.getD k (0, 0, 0)).2.1) ∧ w.cell? ⟨b, off + k * 3 + 2, none⟩ = some (.int .i64 (cs.getD k (0, 0, 0)).2.2) := by
 rcases h with ⟨rfl, _⟩ | ⟨b, off, cap, h1, h2, h3, h4⟩
 ·
  simp at hk
 ·
  exact ⟨b, off, cap, h1, h3, h4 k hk⟩
/-- The slice v owns the conditions cs, in a block from B on. -/
def OwnsC (w : World) (B : Nat) (v : Value) (cs : List Ul) : Prop := w.ownsRow B 177 3 v cs.length (flatC cs)
def Uy (c : Ul) : Bool := decide (0 ≤ c.1 ∧ c.1 ≤ 2) && (decide (0 ≤ c.2.1 ∧ c.2.1 ≤ c.2.2) && decide (c.2.2 ≤ 99))
abbrev condV (f l h : Int) : Value := .agg #[.int .i64 f, .int .i64 l, .int .i64 h]
set_option maxHeartbeats 4000000 in
theorem specIsCond (f l h : Int) (w : World) :
  Calls Tryz.prog 155 #[condV f l h] w fun e w' => e = .returned (.bool (Uy (f, l, h))) ∧ Below w w w' := by
 have hb : Below w w (w.alloc (.cells #[.int .i64 f, .int .i64 l, .int .i64 h] 177)) := (Il _ w).alloc (Ii _) _
 by_cases h1 : 0 ≤ f ∧ f ≤ 2
 ·
  have H1 := Lib.hid (fun w => Xe f 0 2 w h1.1 h1.2)
  by_cases h2 : 0 ≤ l ∧ l ≤ h
  ·
   have H2 := Lib.hid (fun w => Xe l 0 h w h2.1 h2.2)
   have HF : Hid (Uy (f, l, h) = decide (h ≤ 99)) := Lib.hid (by unfold Uy; rw [decide_eq_true h1, decide_eq_true h2]; simp)
   by_cases h3 : h ≤ 99
   ·
    have HT : Hid (Uy (f, l, h) = true) := Lib.hid (by rw [HF.out]; exact decide_eq_true h3)
    clear h1 h2 HF
    go_enter Tryz.func155, Tryz.ntmps155
    go_wp2_with fail
    refine (H1.out _).mono ?_
    rintro e w1 ⟨rfl, rfl⟩
    go_wp2_with fail
    refine (H2.out _).mono ?_
    rintro e w2 ⟨rfl, rfl⟩
    go_wp2
    go_ret
    exact ⟨Jy HT.out.symm, hb⟩
   ·
    have HT : Hid (Uy (f, l, h) = false) := Lib.hid (by rw [HF.out]; exact decide_eq_false h3)
    clear h1 h2 HT
    go_enter Tryz.func155, Tryz.ntmps155
    go_wp2_with fail
    refine (H1.out _).mono ?_
    rintro e w1 ⟨rfl, rfl⟩
    go_wp2_with fail
    refine (H2.out _).mono ?_
    rintro e w2 ⟨rfl, rfl⟩
    go_wp2
    go_ret
    exact ⟨Jy HF.out.symm, hb⟩
  ·
   have H2 := Lib.hid (fun w => in_no l 0 h w h2)
   have HT : Hid (Uy (f, l, h) = false) := Lib.hid (by unfold Uy; rw [decide_eq_false h2]; simp)
   clear h1 h2
   go_enter Tryz.func155, Tryz.ntmps155
   go_wp2_with fail
   refine (H1.out _).mono ?_
   rintro e w1 ⟨rfl, rfl⟩
   go_wp2_with fail
   refine (H2.out _).mono ?_
   rintro e w2 ⟨rfl, rfl⟩
   go_wp2
   go_ret
   exact ⟨Jy HT.out.symm, hb⟩
 ·
  have H1 := Lib.hid (fun w => in_no f 0 2 w h1)
  have HT : Hid (Uy (f, l, h) = false) := Lib.hid (by unfold Uy; rw [decide_eq_false h1]; simp)
  clear h1
  go_enter Tryz.func155, Tryz.ntmps155
  go_wp2_with fail
  refine (H1.out _).mono ?_
  rintro e w1 ⟨rfl, rfl⟩
  go_wp2
  go_ret
  exact ⟨Jy HT.out.symm, hb⟩
abbrev qV (id tn : Int) (cv ov : Value) : Value := .agg #[.int .i64 id, .int .i64 tn, cv, ov]
/-- What the table of types says of the element. -/
def Yn {α : Type} (T : Ty α) (e : TypeId) (z : Value) : Prop := ∃ i, Tryz.prog.info? e = some i ∧ i.zero = some z ∧ i.size = T.n ∧ i.bytes ≤ 512
theorem Yv {α : Type} {T : Ty α} {e : TypeId} {z : Value} (h : (Tryz.prog.info? e).map (fun i => (i.zero, i.size, decide (i.bytes ≤ 512))) = some (some z, T.n, true)) : Yn T e z := by
 cases q : Tryz.prog.info? e with
 | none => rw [q] at h; simp at h
 | some i => rw [q] at h; simp only [Option.map_some, Option.some.injEq, Prod.mk.injEq, decide_eq_true_eq] at h; exact ⟨i, q, h.1, h.2.1, h.2.2⟩
theorem addr_add0 (b j : Nat) : (⟨b, 0, none⟩ : Addr).add j = ⟨b, j, none⟩ := by unfold Addr.add; split <;> simp_all
theorem addr_add (b o j : Nat) : (⟨b, o, none⟩ : Addr).add j = ⟨b, o + j, none⟩ := by unfold Addr.add; split <;> simp_all
/-- The blocks of what was there, as the append leaves them. -/
theorem grown_alloc {w w' : World} {o : Obj} {row : Option Nat} (h : (w.alloc o).grownBy w' row) : w.grownBy w' row := by
 have hg := World.grownBy_alloc w o row
 exact ⟨h.os.trans hg.os, h.tape.trans hg.tape, h.output.trans hg.output, Nat.le_trans hg.size h.size, fun k hk hne => (h.block k (Nat.lt_of_lt_of_le hk hg.size) hne).trans (hg.block k hk hne)⟩
theorem run_append_T {α : Type} {T : Ty α} (A : T.Law) {e t : TypeId} {z : Value} (I : Yn T e z) (ht : Tryz.prog.underlying t = some (.slice e)) (hz : z.cells.size = T.n)
  {w : World} (ty : TypeId) (F : Nat → Prop) (D : Nat) (v : Value) (xs : List α) (hown : Kp e T w (fun b => F b ∧ b < D) v xs) (hD : D ≤ w.heap.size) (hf : ∀ b, D ≤ b → F b) (hn : xs.length ≤ 1048576)
  (cs : List Value) (x0 : α) (hnew : T.O w (fun b => D ≤ b) cs x0) (h1 : ∀ u ∈ cs, u.oneCell' = true) (c : Nat) :
  ∃ v' w', (Builtin.append_ #[t, t] ty #[v, .slice (some ⟨w, 0, none⟩) 1 c]).run Tryz.prog (w.alloc (.cells cs.toArray e)) = .ok v' w' ∧ Kp e T w' F v' (xs ++ [x0]) ∧ Kb (fun b => F b ∧ b < D) w w' := by
 obtain ⟨i0, hi, hz0, hz1, hz2⟩ := I
 obtain ⟨L, us, Fs, g1, g2, g3, g4⟩ := Kn A hown
 have hcl : cs.length = T.n := A.len (A.reads hnew)
 have hpos := A.pos
 have hb : (xs.length + 1) * i0.bytes ≤ 1048577 * 512 := Nat.mul_le_mul (by omega) hz2
 obtain ⟨v', w', hr, k1, k2, _, k4⟩ := run_append_own_at (P := Tryz.prog) (w.alloc (.cells cs.toArray e)) 0 t ty e i0 z T.n i0.bytes ht hi hz0 hz1 rfl hz hpos v xs.length _ (g1.alloc _) ⟨w, 0, none⟩ 1 c cs (by omega) (fun j u hj => by
  rw [addr_add0, Ia _ w.heap.size j cs.toArray e (0, 0) (Ic w _)]
  simpa using hj) h1 (by unfold maxLen; omega) (by omega) (Ij _)
 have k5 := grown_alloc k2
 have hv : ∀ b, v.ownBlock = some b → F b ∧ b < D := fun b hb => (g2 b hb).1
 have hsz : (w.alloc (.cells cs.toArray e)).heap.size = w.heap.size + 1 := by simp [Ie]
 refine ⟨v', w', hr, ?_, turn_grown k5 hv⟩
 refine slO_app (F := F) (Fn := fun b => D ≤ b ∧ b < w.heap.size) A (fun b hb => (hv b hb).1) (fun j hj => ⟨(g3 j hj).1, (g3 j hj).2.1, fun b hb => ⟨⟨((g3 j hj).2.2 b hb).1.1.1, ((g3 j hj).2.2 b hb).1.2⟩, ((g3 j hj).2.2 b hb).2⟩⟩) g4 g1.1 k1 k5 (fun b hb => ?_) (A.lt hnew) hcl (fun b hb => ⟨hf b hb.1, hb.2, fun q => ?_, fun j hj q => ?_⟩)
 ·
  rcases k4 with q | q
  ·
   exact Or.inl (q ▸ hb)
  ·
   rw [q, hsz] at hb
   have := Option.some.inj hb
   exact Or.inr ⟨by omega, hf b (by omega)⟩
 ·
  have := (hv b q).2; omega
 ·
  have := ((g3 j hj).2.2 b q).1.1.2; omega
theorem append_T {α : Type} {T : Ty α} (A : T.Law) {e t : TypeId} {z : Value} (I : Yn T e z) (ht : Tryz.prog.underlying t = some (.slice e)) (hz : z.cells.size = T.n)
  {w : World} {ops : Array Oper} {rest : List Oper} {o : Oper} {a : Act} {Q : Exit → Act → World → Prop} (hgd : o.guard = none) (s x : Operand)
  (ho : o.op = .call { callee := .builtin .append, args := #[s, x], argTypes := #[t, t] })
  (F : Nat → Prop) (D : Nat) (v : Value) (xs : List α) (hs : a.eval s = v) (hown : Kp e T w (fun b => F b ∧ b < D) v xs) (hD : D ≤ w.heap.size) (hf : ∀ b, D ≤ b → F b) (hn : xs.length ≤ 1048576)
  (cs : List Value) (x0 : α) (hnew : T.O w (fun b => D ≤ b) cs x0) (h1 : ∀ u ∈ cs, u.oneCell' = true) (c g0 : Nat) (hx : a.eval x = .slice (some ⟨g0, 0, none⟩) 1 c) (hg0 : g0 = w.heap.size)
  (h : ∀ v' w', Kp e T w' F v' (xs ++ [x0]) → Kb (fun b => F b ∧ b < D) w w' → wpList Tryz.prog ops Q rest (a.put o.dst v') w') : wpList Tryz.prog ops Q (o :: rest) a (w.alloc (.cells cs.toArray e)) := by
 subst hg0
 refine wpList_plain hgd fun K hK => ?_
 obtain ⟨v', w', hr, h2, h3⟩ := run_append_T A I ht hz o.type F D v xs hown hD hf hn cs x0 hnew h1 c
 unfold Oper.wp execOp
 simp only [ho, resolve, invoke, builtin, Sem.run_bind, Sem.run_pure, Result.andThen_ok, List.map_toArray, List.map_cons, List.map_nil, hs, hx, hr]
 exact hK _ _ (h v' w' h2 h3)
theorem Xx {α : Type} {T : Ty α} (A : T.Law) {e t : TypeId} {z : Value} (I : Yn T e z) (ht : Tryz.prog.underlying t = some (.slice e)) (hz : z.cells.size = T.n)
  {w : World} {ops : Array Oper} {o : Oper} {a : Act} {K : Act → World → Prop} {Q : Exit → Act → World → Prop} {E : Prop} (hwa : Region.wanted o (yielded ops a.tmps) = true) (s x : Operand)
  (ho : o.op = .call { callee := .builtin .append, args := #[s, x], argTypes := #[t, t] })
  (F : Nat → Prop) (D : Nat) (v : Value) (xs : List α) (hs : a.eval s = v) (hown : Kp e T w (fun b => F b ∧ b < D) v xs) (hD : D ≤ w.heap.size) (hf : ∀ b, D ≤ b → F b) (hn : xs.length ≤ 1048576)
  (cs : List Value) (x0 : α) (hnew : T.O w (fun b => D ≤ b) cs x0) (h1 : ∀ u ∈ cs, u.oneCell' = true) (c g0 : Nat) (hx : a.eval x = .slice (some ⟨g0, 0, none⟩) 1 c) (hg0 : g0 = w.heap.size)
  (h : ∀ v' w', Kp e T w' F v' (xs ++ [x0]) → Kb (fun b => F b ∧ b < D) w w' → K (a.put o.dst v') w') : if Region.wanted o (yielded ops a.tmps) = true then Oper.wp Tryz.prog o a (w.alloc (.cells cs.toArray e)) K Q else E := by
 subst hg0
 rw [if_pos hwa]
 obtain ⟨v', w', hr, h2, h3⟩ := run_append_T A I ht hz o.type F D v xs hown hD hf hn cs x0 hnew h1 c
 unfold Oper.wp execOp
 simp only [ho, resolve, invoke, builtin, Sem.run_bind, Sem.run_pure, Result.andThen_ok, List.map_toArray, List.map_cons, List.map_nil, hs, hx, hr]
 exact h v' w' h2 h3
/-- The cells of a slice that is read, in a row. -/
theorem slR_cells {α : Type} {T : Ty α} {w : World} {b off cap m : Nat} {xs : List α} (A : T.Law) (h : Ko T w (.slice (some ⟨b, off, none⟩) m cap) xs) (hp : 0 < xs.length) :
  m = xs.length ∧ b < w.heap.size ∧ ∃ L : List Value, L.length = xs.length * T.n ∧ (∀ j u, L[j]? = some u → w.cell? ⟨b, off + j, none⟩ = some u) ∧ ∀ j, j < xs.length → ∃ cs, T.R w cs (xs.getD j T.d) ∧ ∀ i, i < T.n → L[j * T.n + i]? = cs[i]? := by
 rcases h with ⟨rfl, _⟩ | ⟨b', off', cap', us, hv, h2, h3, h4⟩
 ·
  simp at hp
 ·
  simp only [Ik, Option.some.injEq, Addr.mk.injEq] at hv
  obtain ⟨⟨rfl, rfl, _⟩, rfl, rfl⟩ := hv
  have hpos := A.pos
  have hlen : ∀ j, j < xs.length → (us j).length = T.n := fun j hj => A.len (h4 j hj).2
  refine ⟨rfl, h3, (List.range (xs.length * T.n)).map (fun k => (us (k / T.n)).getD (k % T.n) undef), by simp, fun j u hj => ?_, fun j hj => ⟨us j, (h4 j hj).2, fun i hi => ?_⟩⟩
  ·
   have hjl : j < xs.length * T.n := by
    have := (List.getElem?_eq_some_iff.1 hj).1
    simpa using this
   rw [List.getElem?_map, List.getElem?_range hjl] at hj
   simp only [Option.map_some, Option.some.injEq] at hj
   have hq : j / T.n < xs.length := (Nat.div_lt_iff_lt_mul hpos).2 hjl
   have hm : j % T.n < T.n := Nat.mod_lt _ hpos
   have e : off + j / T.n * T.n + j % T.n = off + j := by
    have := Nat.div_add_mod j T.n
    rw [Nat.mul_comm] at this; omega
   have hc := (h4 _ hq).1 _ hm
   rw [e, Ih (by rw [hlen _ hq]; exact hm)] at hc
   rw [hc, ← hj]
   simp [List.getD, hlen _ hq, hm]
  ·
   have hlt : j * T.n + i < xs.length * T.n := by
    have : (j + 1) * T.n ≤ xs.length * T.n := Nat.mul_le_mul_right _ hj
    rw [Nat.add_mul, Nat.one_mul] at this; omega
   have e1 : (j * T.n + i) / T.n = j := by rw [Nat.mul_comm, Nat.mul_add_div hpos, Nat.div_eq_of_lt hi]; omega
   have e2 : (j * T.n + i) % T.n = i := by rw [Nat.mul_comm, Nat.mul_add_mod, Nat.mod_eq_of_lt hi]
   rw [List.getElem?_map, List.getElem?_range hlt]
   simp only [Option.map_some, e1, e2]
   rw [Ih (by rw [hlen j hj]; exact hi)]
   simp [List.getD, hlen j hj, hi]
/-- Plain data: what is read may be owned. -/
def Flat {α : Type} (T : Ty α) : Prop := (∀ {w w' : World} {F : Nat → Prop} {cs : List Value} {x : α}, T.R w cs x → T.O w' F cs x) ∧ ∀ {w : World} {cs : List Value} {x : α}, T.R w cs x → ∀ u ∈ cs, u.oneCell' = true
theorem Uf : Flat Je := ⟨fun h => h, fun h u hu => by rw [show _ = [Value.int .i64 _] from h] at hu; simp at hu; rw [hu]; rfl⟩
/-- What lies in slices of plain data that the call made, element by element. -/
theorem slO_flat {α : Type} {T : Ty α} (A : T.Law) (hfl : Flat T) {e : TypeId} {w : World} {F : Nat → Prop} {v : Value} {xs : List α} {L : List Value} {B : Nat} (h : w.ownsRow B e T.n v xs.length L) (hF : ∀ b, v.ownBlock = some b → F b)
  (hL : ∀ j, j < xs.length → ∃ cs, T.R w cs (xs.getD j T.d) ∧ ∀ i, i < T.n → L[j * T.n + i]? = cs[i]?) : Kp e T w F v xs := by
 haveI : Inhabited (List Value) := ⟨[]⟩
 obtain ⟨f, hf⟩ := Go.Deep.choose_lt (α := List Value) (n := xs.length) (p := fun j cs => T.R w cs (xs.getD j T.d) ∧ ∀ i, i < T.n → L[j * T.n + i]? = cs[i]?) hL
 exact ⟨L, f, fun _ _ => False, row_low h (Ij _), hF, fun j hj => ⟨(hf j hj).2, hfl.1 (hf j hj).1, fun b hb => False.elim hb⟩, fun i j _ _ _ b hb => False.elim hb⟩
theorem run_append_flat {α : Type} {T : Ty α} (A : T.Law) (hfl : Flat T) {e t : TypeId} {z : Value} (I : Yn T e z) (ht : Tryz.prog.underlying t = some (.slice e)) (hz : z.cells.size = T.n)
  {w : World} {F0 F : Nat → Prop} {v u : Value} {xs ys : List α} (ty : TypeId) (hown : Kp e T w F0 v xs) (hu : Ko T w u ys) (h0 : ∀ b, F0 b → F b) (hf : F w.heap.size) (h63 : xs.length + ys.length ≤ 2097152) :
  ∃ v' w', (Builtin.append_ #[t, t] ty #[v, u]).run Tryz.prog w = .ok v' w' ∧ Kp e T w' F v' (xs ++ ys) ∧ w.grownBy w' v.ownBlock := by
 obtain ⟨i0, hi, hz0, hz1, hz2⟩ := I
 have hpos := A.pos
 by_cases hp : 0 < ys.length
 ·
  obtain ⟨a', cap', rfl⟩ := Jl hu
  rcases hu with ⟨rfl, _⟩ | hu'
  ·
   simp at hp
  ·
   have hu : Ko T w (.slice a' ys.length cap') ys := Or.inr hu'
   obtain ⟨b, off, cap2, us, hv, _⟩ := hu'
   simp only [Ik] at hv
   obtain ⟨rfl, _, rfl⟩ := hv
   obtain ⟨_, hbl, N, hN, hNc, hNr⟩ := slR_cells A hu hp
   obtain ⟨L, us2, Fs, g1, g2, g3, g4⟩ := hown
   have hb : (xs.length + ys.length) * i0.bytes ≤ 2097152 * 512 := Nat.mul_le_mul h63 hz2
   obtain ⟨v', w', hr, k1, k2, _, k4⟩ := run_append_own_at (P := Tryz.prog) w 0 t ty e i0 z T.n i0.bytes ht hi hz0 hz1 rfl hz hpos v xs.length _ g1 ⟨b, off, none⟩ ys.length cap' N hN (fun j q hj => by rw [addr_add]; exact hNc j q hj) (fun q hq => by
    obtain ⟨k, hk, rfl⟩ := List.getElem_of_mem hq
    have hkl : k < ys.length * T.n := by omega
    have hq : k / T.n < ys.length := (Nat.div_lt_iff_lt_mul hpos).2 hkl
    have hm : k % T.n < T.n := Nat.mod_lt _ hpos
    obtain ⟨cs, hR, hc⟩ := hNr _ hq
    have e1 : k / T.n * T.n + k % T.n = k := by
     have := Nat.div_add_mod k T.n
     rw [Nat.mul_comm] at this; exact this
    have h5 := hc _ hm
    rw [e1, Ih hk, Ih (by rw [A.len hR]; exact hm)] at h5
    rw [Option.some.inj h5]
    exact hfl.2 hR _ (List.getElem_mem _)) (by unfold maxLen; omega) (by omega) (Ij _)
   refine ⟨v', w', hr, ?_, k2⟩
   have hLl : L.length = xs.length * T.n := g1.1
   refine slO_flat A hfl (by rw [List.length_append]; exact k1) (fun c hc => ?_) (fun j hj => ?_)
   ·
    rcases k4 with q | q
    ·
     exact h0 c (g2 c (q ▸ hc))
    ·
     rw [q] at hc; rw [← Option.some.inj hc]; exact hf
   ·
    rw [List.length_append] at hj
    by_cases hlt : j < xs.length
    ·
     have er : (xs ++ ys).getD j T.d = xs.getD j T.d := by simp [List.getD, List.getElem?_append_left hlt]
     obtain ⟨c1, c2, _⟩ := g3 j hlt
     refine ⟨us2 j, by rw [er]; exact A.reads (hfl.1 (w' := w') (F := F) (A.reads c2)), fun i hi => ?_⟩
     have hl2 : j * T.n + i < L.length := by
      have : (j + 1) * T.n ≤ xs.length * T.n := Nat.mul_le_mul_right _ hlt
      rw [Nat.add_mul, Nat.one_mul] at this; omega
     rw [List.getElem?_append_left hl2]
     exact c1 i hi
    ·
     obtain ⟨m, rfl⟩ : ∃ m, j = xs.length + m := ⟨j - xs.length, by omega⟩
     have hm : m < ys.length := by omega
     have er : (xs ++ ys).getD (xs.length + m) T.d = ys.getD m T.d := by simp [List.getD, List.getElem?_append_right]
     obtain ⟨cs, hR, hc⟩ := hNr m hm
     refine ⟨cs, by rw [er]; exact A.reads (hfl.1 (w' := w') (F := F) hR), fun i hi => ?_⟩
     have e1 : (xs.length + m) * T.n + i = L.length + (m * T.n + i) := by rw [hLl, Nat.add_mul]; omega
     rw [e1, List.getElem?_append_right (by omega), Nat.add_sub_cancel_left]
     exact hc i hi
 ·
  have hy : ys = [] := List.eq_nil_of_length_eq_zero (by omega)
  subst hy
  obtain ⟨a', cap', rfl⟩ := Jl hu
  have hs : Src Tryz.prog i0.size t (.slice a' 0 cap') 0 [] w := by
   cases a' with
   | none => exact Src.ofNil w ht cap'
   | some ad => exact Src.ofSlice w ht ad 0 cap' [] (by simp) (by simp) (by simp)
  obtain ⟨a, cap, hv, hle⟩ : ∃ a cap, v = .slice a xs.length cap ∧ xs.length ≤ cap := by
   obtain ⟨L, us2, Fs, g1, _⟩ := hown
   rcases g1.2 with ⟨rfl, q⟩ | ⟨g, cap, cur, rfl, _, _, hn, _⟩
   ·
    exact ⟨none, 0, by rw [q], by omega⟩
   ·
    exact ⟨_, cap, rfl, hn⟩
  subst hv
  exact ⟨_, _, run_append_nothing w t t ty e i0 ht hi a xs.length cap hle _ hs, by rw [List.append_nil]; exact Ky hown h0, World.grownBy.refl _ _⟩
theorem Kv {α : Type} {T : Ty α} (A : T.Law) (hfl : Flat T) {e t : TypeId} {z : Value} (I : Yn T e z) (ht : Tryz.prog.underlying t = some (.slice e)) (hz : z.cells.size = T.n)
  {w : World} {ops : Array Oper} {o : Oper} {a : Act} {K : Act → World → Prop} {Q : Exit → Act → World → Prop} {E : Prop} (hwa : Region.wanted o (yielded ops a.tmps) = true) (s x : Operand)
  (ho : o.op = .call { callee := .builtin .append, args := #[s, x], argTypes := #[t, t] })
  (F0 F : Nat → Prop) (v u : Value) (xs ys : List α) (hs : a.eval s = v) (hx : a.eval x = u) (hown : Kp e T w F0 v xs) (hu : Ko T w u ys) (h0 : ∀ b, F0 b → F b) (hf : F w.heap.size) (h63 : xs.length + ys.length ≤ 2097152)
  (h : ∀ v' w', Kp e T w' F v' (xs ++ ys) → Kb F0 w w' → K (a.put o.dst v') w') : if Region.wanted o (yielded ops a.tmps) = true then Oper.wp Tryz.prog o a w K Q else E := by
 rw [if_pos hwa]
 have hblk : ∀ b, v.ownBlock = some b → F0 b := by obtain ⟨L, us2, Fs, g1, g2, _⟩ := hown; exact g2
 obtain ⟨v', w', hr, h2, h3⟩ := run_append_flat A hfl I ht hz o.type hown hu h0 hf h63
 unfold Oper.wp execOp
 simp only [ho, resolve, invoke, builtin, Sem.run_bind, Sem.run_pure, Result.andThen_ok, List.map_toArray, List.map_cons, List.map_nil, hs, hx, hr]
 exact h v' w' h2 (turn_grown h3 hblk)
theorem Xt {α : Type} {T : Ty α} (A : T.Law) (hfl : Flat T) {e t : TypeId} {z : Value} (I : Yn T e z) (ht : Tryz.prog.underlying t = some (.slice e)) (hz : z.cells.size = T.n)
  {w : World} {ops : Array Oper} {rest : List Oper} {o : Oper} {a : Act} {Q : Exit → Act → World → Prop} (hgd : o.guard = none) (s x : Operand)
  (ho : o.op = .call { callee := .builtin .append, args := #[s, x], argTypes := #[t, t] })
  (F0 F : Nat → Prop) (v u : Value) (xs ys : List α) (hs : a.eval s = v) (hx : a.eval x = u) (hown : Kp e T w F0 v xs) (hu : Ko T w u ys) (h0 : ∀ b, F0 b → F b) (hf : F w.heap.size) (h63 : xs.length + ys.length ≤ 2097152)
  (h : ∀ v' w', Kp e T w' F v' (xs ++ ys) → Kb F0 w w' → wpList Tryz.prog ops Q rest (a.put o.dst v') w') : wpList Tryz.prog ops Q (o :: rest) a w := by
 refine wpList_plain hgd fun K hK => ?_
 have hblk : ∀ b, v.ownBlock = some b → F0 b := by obtain ⟨L, us2, Fs, g1, g2, _⟩ := hown; exact g2
 obtain ⟨v', w', hr, h2, h3⟩ := run_append_flat A hfl I ht hz o.type hown hu h0 hf h63
 unfold Oper.wp execOp
 simp only [ho, resolve, invoke, builtin, Sem.run_bind, Sem.run_pure, Result.andThen_ok, List.map_toArray, List.map_cons, List.map_nil, hs, hx, hr]
 exact hK _ _ (h v' w' h2 (turn_grown h3 hblk))
/-- 'T{}' as a slice: no element yet. -/
theorem Ye {α : Type} {T : Ty α} (w : World) (e : TypeId) (F : Nat → Prop) (h : F w.heap.size) : Kp e T (w.alloc (.cells #[] e)) F (.slice (some ⟨w, 0, none⟩) 0 0) [] := by
 refine ⟨[], fun _ => [], fun _ _ => False, ?_, fun b hb => ?_, fun j hj => by simp at hj, fun i j hi => by simp at hi⟩
 ·
  have := World.ownsRow_made (base := 0) (e := e) (size := T.n) w #[] 0 (Ij _) (by unfold maxLen; omega) (by simp)
  exact this
 ·
  simp [Value.ownBlock] at hb; rw [← hb]; exact h
theorem St.empty {α : Type} {T : Ty α} (L : T.Law) {w0 w : World} {l : List Xf} (h : St w0 l w) (e : TypeId) : St w0 (iS e L (fun b => b = w.heap.size) (.slice (some ⟨w, 0, none⟩) 0 0) [] :: l) (w.alloc (.cells #[] e)) :=
 h.cons ((Il _ _).alloc (Ii _) _) (iS e L (fun b => b = w.heap.size) _ []) (Ye w e _ rfl) (fun b hb => by have hb : b = w.heap.size := hb; subst hb; exact ⟨Ii _, by rw [Ie]; omega⟩)
theorem St.none {α : Type} {T : Ty α} (L : T.Law) {w0 w : World} {l : List Xf} (h : St w0 l w) (e : TypeId) : St w0 (iS e L (fun _ => False) () [] :: l) w :=
 h.cons (Il _ _) (iS e L (fun _ => False) _ []) (Ya _ _ _ _) (fun b hb => False.elim hb)
theorem St.alloc {w0 w : World} {l : List Xf} (h : St w0 l w) (o : Obj) : St w0 l (w.alloc o) := h.below ((Il _ _).alloc (Ii _) _)
theorem St.outT {α : Type} {T : Ty α} {L : T.Law} {w0 w : World} {l : List Xf} (h : St w0 l w) (k : Nat) {F : Nat → Prop} {cs : List Value} {x : α} (e : l[k]? = some (iT L F cs x)) : T.O w (Kw w0) cs x :=
 L.mono (h.gT k e) (fun b hb => h.lo _ (List.mem_of_getElem? e) b hb)
theorem Sep.append : ∀ {is l : List Xf} {w : World}, Sep is w → Sep l w → (∀ j ∈ is, ∀ b, j.F b → ∀ k ∈ l, ¬ k.F b) → Sep (is ++ l) w
 | [], _, _, _, g, _ => g
 | i :: is, l, w, h, g, d => ⟨h.1, fun b hb => ⟨(h.2.1 b hb).1, fun j hj => by
   rcases List.mem_append.1 hj with q | q
   ·
    exact (h.2.1 b hb).2 j q
   ·
    exact d i List.mem_cons_self b hb j q⟩, Sep.append h.2.2 g (fun j hj => d j (List.mem_cons_of_mem _ hj))⟩
theorem Sep.right : ∀ {is l : List Xf} {w : World}, Sep (is ++ l) w → Sep l w
 | [], _, _, h => h
 | _ :: is, l, w, h => Sep.right (is := is) h.2.2
theorem Sep.cross : ∀ {is l : List Xf} {w : World}, Sep (is ++ l) w → ∀ j ∈ is, ∀ b, j.F b → ∀ k ∈ l, ¬ k.F b
 | i :: is, l, w, h, j, hj, b, hb, k, hk => by
  rcases List.mem_cons.1 hj with rfl | q
  ·
   exact (h.2.1 b hb).2 k (List.mem_append_right _ hk)
  ·
   exact Sep.cross (is := is) h.2.2 j q b hb k hk
section
variable {w0 w : World} {l : List Xf}
theorem St.split {i : Xf} (h : St w0 (i :: l) w) (is : List Xf) (s : Sep is w) (sub : ∀ j ∈ is, ∀ b, j.F b → i.F b) : St w0 (is ++ l) w :=
 ⟨h.d, s.append h.s.2.2 (fun j hj b hb k hk => (h.s.2.1 b (sub j hj b hb)).2 k hk), fun j hj b hb => by
  rcases List.mem_append.1 hj with q | q
  ·
   exact h.lo i List.mem_cons_self b (sub j q b hb)
  ·
   exact h.lo j (List.mem_cons_of_mem _ q) b hb⟩
theorem St.join (is : List Xf) (h : St w0 (is ++ l) w) (i : Xf) (p : i.φ w) (sub : ∀ b, i.F b → ∃ j ∈ is, j.F b) : St w0 (i :: l) w :=
 ⟨h.d, ⟨p, fun b hb => by
  obtain ⟨j, hj, hb⟩ := sub b hb
  exact ⟨h.s.lt j (List.mem_append_left _ hj) b hb, fun k hk => Sep.cross h.s j hj b hb k hk⟩, h.s.right⟩, fun j hj b hb => by
  rcases List.mem_cons.1 hj with rfl | q
  ·
   obtain ⟨m, hm, hb⟩ := sub b hb
   exact h.lo m (List.mem_append_left _ hm) b hb
  ·
   exact h.lo j (List.mem_append_right _ q) b hb⟩
end
section
variable {w0 w : World} {l : List Xf}
/-- A box is written by a call that makes one thing more in new memory. -/
theorem St.turned {w' : World} (h : St w0 l w) (k : Nat) {B : Nat} {cs : List Value} {t : TypeId} (e : l[k]? = some (iB B cs t)) (tn : Kb (fun b => b = B) w w') (cs' : List Value) (row : w'.heap[B]? = some (.cells cs'.toArray t (0, 0))) (i : Xf) (hi : i.φ w') (hF : ∀ b, i.F b → w.heap.size ≤ b ∧ b < w'.heap.size) : St w0 (i :: l.set k (iB B cs' t)) w' := by
 have g := h.set k e (iB B cs' t) (fun _ q => q) tn row
 refine ⟨g.d, ⟨hi, fun b hb => ⟨(hF b hb).2, fun j hj q => ?_⟩, g.s⟩, fun j hj b hb => ?_⟩
 ·
  have h2 := (hF b hb).1
  rcases List.mem_or_eq_of_mem_set hj with r | rfl
  ·
   have := h.s.lt j r b q; omega
  ·
   have hb2 : b = B := q
   have := h.s.lt _ (List.mem_of_getElem? e) b hb2
   omega
 ·
  rcases List.mem_cons.1 hj with rfl | hm
  ·
   exact Nat.le_trans h.d.size (hF b hb).1
  ·
   exact g.lo j hm b hb
theorem setCells8 {w : World} {b : Nat} {t : TypeId} {z0 z1 z2 z3 z4 z5 z6 z7 y0 y1 y2 y3 y4 y5 y6 y7 : Value} (h : w.heap[b]? = some (.cells #[z0, z1, z2, z3, z4, z5, z6, z7] t (0, 0))) : ((((((((w.setCell ⟨b, 0, none⟩ y0).setCell ⟨b, 1, none⟩ y1).setCell ⟨b, 2, none⟩ y2).setCell ⟨b, 3, none⟩ y3).setCell ⟨b, 4, none⟩ y4).setCell ⟨b, 5, none⟩ y5).setCell ⟨b, 6, none⟩ y6).setCell ⟨b, 7, none⟩ y7) = w.setRow b #[y0, y1, y2, y3, y4, y5, y6, y7] := by
 have st : ∀ (c : Array Value) (k : Nat) (y : Value), (w.setRow b c).setCell ⟨b, k, none⟩ y = w.setRow b (c.setIfInBounds k y) := fun c k y => (Jv (setRow_heap w b _ c t (0, 0) h) k y).trans (setRow_setRow _ _ _ _)
 rw [Jv h 0 y0, st, st, st, st, st, st, st]
 simp
/-- An engine by its five slices. -/
theorem St.splitE {F : Nat → Prop} {cs : List Value} {x0 : List (List (Int × List Int × Int × Int))} {a1 a2 : Int} {x3 : List Int} {x4 : _} {x5 : _} {x6 : _} {a7 : Int} (h : St w0 (iT Kg F cs ((x0, a1), a2, x3, x4, x5, x6, a7) :: l) w) :
  ∃ (v0 v3 v4 v5 v6 : Value) (e3 : TypeId) (F0 F3 F4 F5 F6 : Nat → Prop), cs = [v0, .int .i64 a1, .int .i64 a2, v3, v4, v5, v6, .int .i64 a7] ∧
   St w0 (iS 213 Jf F0 v0 x0 :: iS e3 Jc F3 v3 x3 :: iS 104 Jj F4 v4 x4 :: iS 59 Jn F5 v5 x5 :: iS 162 Jr F6 v6 x6 :: l) w := by
 have o : Kf.O w F cs ((x0, a1), a2, x3, x4, x5, x6, a7) := h.gT 0 rfl
 have lt : ∀ b, F b → b < w.heap.size := fun b hb => (h.s.2.1 b hb).1
 obtain ⟨v0, v3, v4, v5, v6, e3, F0, F3, F4, F5, F6, rfl, h0, h3, h4, h5, h6, s0, s3, s4, s5, s6, d03, d04, d05, d06, d34, d35, d36, d45, d46, d56⟩ := tEngine_O o
 refine ⟨v0, v3, v4, v5, v6, e3, F0, F3, F4, F5, F6, rfl, h.split [iS 213 Jf F0 v0 x0, iS e3 Jc F3 v3 x3, iS 104 Jj F4 v4 x4, iS 59 Jn F5 v5 x5, iS 162 Jr F6 v6 x6] ?_ ?_⟩
 ·
  refine ⟨h0, fun b hb => ⟨lt b (s0 b hb), fun j hj => ?_⟩, h3, fun b hb => ⟨lt b (s3 b hb), fun j hj => ?_⟩, h4, fun b hb => ⟨lt b (s4 b hb), fun j hj => ?_⟩, h5, fun b hb => ⟨lt b (s5 b hb), fun j hj => ?_⟩, h6, fun b hb => ⟨lt b (s6 b hb), fun j hj => by cases hj⟩, trivial⟩
  ·
   simp only [List.mem_cons, List.not_mem_nil, or_false] at hj
   rcases hj with rfl | rfl | rfl | rfl
   ·
    exact d03 b hb
   ·
    exact d04 b hb
   ·
    exact d05 b hb
   ·
    exact d06 b hb
  ·
   simp only [List.mem_cons, List.not_mem_nil, or_false] at hj
   rcases hj with rfl | rfl | rfl
   ·
    exact d34 b hb
   ·
    exact d35 b hb
   ·
    exact d36 b hb
  ·
   simp only [List.mem_cons, List.not_mem_nil, or_false] at hj
   rcases hj with rfl | rfl
   ·
    exact d45 b hb
   ·
    exact d46 b hb
  ·
   simp only [List.mem_cons, List.not_mem_nil, or_false] at hj
   rcases hj with rfl
   exact d56 b hb
 ·
  intro j hj
  simp only [List.mem_cons, List.not_mem_nil, or_false] at hj
  rcases hj with rfl | rfl | rfl | rfl | rfl
  ·
   exact s0
  ·
   exact s3
  ·
   exact s4
  ·
   exact s5
  ·
   exact s6
theorem St.joinE {x0 : List (List (Int × List Int × Int × Int))} {a1 a2 : Int} {x3 : List Int} {x4 : _} {x5 : _} {x6 : _} {a7 : Int} {v0 v3 v4 v5 v6 : Value} {e3 : TypeId} {F0 F3 F4 F5 F6 : Nat → Prop}
  (h : St w0 (iS 213 Jf F0 v0 x0 :: iS e3 Jc F3 v3 x3 :: iS 104 Jj F4 v4 x4 :: iS 59 Jn F5 v5 x5 :: iS 162 Jr F6 v6 x6 :: l) w) :
  ∃ F, St w0 (iT Kg F [v0, a1, a2, v3, v4, v5, v6, a7] ((x0, a1), a2, x3, x4, x5, x6, a7) :: l) w := by
 refine ⟨fun b => F0 b ∨ F3 b ∨ F4 b ∨ F5 b ∨ F6 b, St.join [iS 213 Jf F0 v0 x0, iS e3 Jc F3 v3 x3, iS 104 Jj F4 v4 x4, iS 59 Jn F5 v5 x5, iS 162 Jr F6 v6 x6] h _ ?_ ?_⟩
 ·
  exact tEngine_mkO (h.gS 0 rfl) (h.gS 1 rfl) (h.gS 2 rfl) (h.gS 3 rfl) (h.gS 4 rfl) (fun b q => Or.inl q) (fun b q => Or.inr (Or.inl q)) (fun b q => Or.inr (Or.inr (Or.inl q))) (fun b q => Or.inr (Or.inr (Or.inr (Or.inl q)))) (fun b q => Or.inr (Or.inr (Or.inr (Or.inr q))))
   (h.s.apart 0 rfl 1 rfl (by decide)) (h.s.apart 0 rfl 2 rfl (by decide)) (h.s.apart 0 rfl 3 rfl (by decide)) (h.s.apart 0 rfl 4 rfl (by decide)) (h.s.apart 1 rfl 2 rfl (by decide)) (h.s.apart 1 rfl 3 rfl (by decide)) (h.s.apart 1 rfl 4 rfl (by decide)) (h.s.apart 2 rfl 3 rfl (by decide)) (h.s.apart 2 rfl 4 rfl (by decide)) (h.s.apart 3 rfl 4 rfl (by decide))
 ·
  rintro b (q | q | q | q | q)
  ·
   exact ⟨_, List.mem_cons_self, q⟩
  ·
   exact ⟨_, List.mem_cons_of_mem _ List.mem_cons_self, q⟩
  ·
   exact ⟨_, List.mem_cons_of_mem _ (List.mem_cons_of_mem _ List.mem_cons_self), q⟩
  ·
   exact ⟨_, List.mem_cons_of_mem _ (List.mem_cons_of_mem _ (List.mem_cons_of_mem _ List.mem_cons_self)), q⟩
  ·
   exact ⟨_, List.mem_cons_of_mem _ (List.mem_cons_of_mem _ (List.mem_cons_of_mem _ (List.mem_cons_of_mem _ List.mem_cons_self))), q⟩
end
/-- Cells as they are: n of them. -/
def Ub (n : Nat) : Ty (List Value) := { n := n, d := [], R := fun _ cs x => cs = x ∧ cs.length = n ∧ ∀ u ∈ cs, u.oneCell' = true, O := fun _ _ cs x => cs = x ∧ cs.length = n ∧ ∀ u ∈ cs, u.oneCell' = true, sz := fun _ => 0, nd := fun _ => 0, nv := fun _ => 0, md := fun x _ => x, mv := fun x _ => x, ok := fun _ => True, s := 0 }
theorem Vs {n : Nat} (h : 0 < n) : (Ub n).Law := ⟨h, fun h => h.2.1, fun h _ => h, fun h => h, fun h _ _ => h, fun h _ => h, fun h => h, fun x => Ii _, fun x => Ii _⟩
theorem flat_raw (n : Nat) : Flat (Ub n) := ⟨fun h => h, fun h => h.2.2⟩
/-- Each cell of an element holds one value. -/
def OneC {α : Type} (T : Ty α) : Prop := ∀ {w : World} {cs : List Value} {x : α}, T.R w cs x → ∀ u ∈ cs, u.oneCell' = true
/-- What the cells read as. -/
def Sh {α : Type} (T : Ty α) (w : World) (L : List (List Value)) (xs : List α) : Prop := L.length = xs.length ∧ ∀ j, j < xs.length → T.R w (L.getD j []) (xs.getD j T.d)
section
variable {α : Type} {T : Ty α}
theorem sh_nil (w : World) : Sh T w [] [] := ⟨rfl, fun j hj => by simp at hj⟩
theorem sh_len {w : World} {L : List (List Value)} {xs : List α} (h : Sh T w L xs) : L.length = xs.length := h.1
theorem sh_below (A : T.Law) {W w : World} {L : List (List Value)} {xs : List α} (h : Sh T W L xs) (hb : Below W W w) : Sh T w L xs := ⟨h.1, fun j hj => A.below (h.2 j hj) hb⟩
theorem sh_app {w : World} {L M : List (List Value)} {xs ys : List α} (h : Sh T w L xs) (g : Sh T w M ys) : Sh T w (L ++ M) (xs ++ ys) := by
 refine ⟨by rw [List.length_append, List.length_append, h.1, g.1], fun j hj => ?_⟩
 rw [List.length_append] at hj
 by_cases hlt : j < xs.length
 ·
  have e1 : (xs ++ ys).getD j T.d = xs.getD j T.d := by simp [List.getD, List.getElem?_append_left hlt]
  have e2 : (L ++ M).getD j [] = L.getD j [] := by simp only [List.getD]; rw [List.getElem?_append_left (by rw [h.1]; exact hlt)]
  rw [e1, e2]; exact h.2 j hlt
 ·
  have e1 : (xs ++ ys).getD j T.d = ys.getD (j - xs.length) T.d := by simp [List.getD, List.getElem?_append_right (show xs.length ≤ j by omega)]
  have e2 : (L ++ M).getD j [] = M.getD (j - xs.length) [] := by simp only [List.getD]; rw [List.getElem?_append_right (by rw [h.1]; omega), h.1]
  rw [e1, e2]; exact g.2 _ (by omega)
theorem sh_one {w : World} {cs : List Value} {x : α} (h : T.R w cs x) : Sh T w [cs] [x] := ⟨rfl, fun j hj => by
 obtain rfl : j = 0 := by simpa using hj
 exact h⟩
/-- A slice that is read, as cells. -/
theorem slR_raw (A : T.Law) (O : OneC T) {w : World} {v : Value} {xs : List α} (h : Ko T w v xs) : ∃ L, Ko (Ub T.n) w v L ∧ Sh T w L xs := by
 rcases h with ⟨rfl, a, cap, rfl⟩ | ⟨b, off, cap, us, rfl, h2, h3, h4⟩
 ·
  exact ⟨[], Or.inl ⟨rfl, a, cap, rfl⟩, sh_nil w⟩
 ·
  have hl : ((List.range xs.length).map us).length = xs.length := by simp
  have hg : ∀ j, j < xs.length → ((List.range xs.length).map us).getD j [] = us j := fun j hj => by simp [List.getD, hj]
  refine ⟨(List.range xs.length).map us, Or.inr ⟨b, off, cap, us, by rw [hl], by rw [hl]; exact h2, h3, fun j hj => ?_⟩, hl, fun j hj => by rw [hg j hj]; exact (h4 j hj).2⟩
  rw [hl] at hj
  refine ⟨(h4 j hj).1, ?_⟩
  show us j = ((List.range xs.length).map us).getD j [] ∧ _
  rw [hg j hj]
  exact ⟨rfl, A.len (h4 j hj).2, O (h4 j hj).2⟩
theorem raw_slR {w : World} {v : Value} {L : List (List Value)} {xs : List α} (h : Ko (Ub T.n) w v L) (g : Sh T w L xs) : Ko T w v xs := by
 rcases h with ⟨rfl, a, cap, rfl⟩ | ⟨b, off, cap, us, rfl, h2, h3, h4⟩
 ·
  have : xs = [] := List.eq_nil_of_length_eq_zero (by rw [← g.1]; rfl)
  subst this
  exact Or.inl ⟨rfl, a, cap, rfl⟩
 ·
  rw [g.1] at h2 h4
  refine Or.inr ⟨b, off, cap, us, by rw [g.1], h2, h3, fun j hj => ⟨(h4 j hj).1, ?_⟩⟩
  have e : us j = L.getD j [] := (h4 j hj).2.1
  rw [e]
  exact g.2 j hj
/-- What is owned raw and read as elements that were there, stays while the rest of the memory stays. -/
theorem raw_reads (hn : 0 < T.n) {e : TypeId} {w : World} {F : Nat → Prop} {v : Value} {L : List (List Value)} {xs : List α} (h : Kp e (Ub T.n) w F v L) (g : Sh T w L xs) : Ko T w v xs := raw_slR (Up (Vs hn) h) g
end
section
variable {α : Type} {T : Ty α}
/-- Each element is owned, in blocks of its own within G. -/
def Els (T : Ty α) (w : World) (G : Nat → Prop) (L : List (List Value)) (xs : List α) : Prop :=
 L.length = xs.length ∧ ∃ Fs : Nat → Nat → Prop, (∀ j, j < xs.length → T.O w (Fs j) (L.getD j []) (xs.getD j T.d) ∧ ∀ b, Fs j b → G b) ∧ ∀ i j, i < xs.length → j < xs.length → i ≠ j → ∀ b, Fs i b → ¬ Fs j b
theorem els_turn (A : T.Law) {w w' : World} {G F : Nat → Prop} {L : List (List Value)} {xs : List α} (h : Els T w G L xs) (t : Kb F w w') (d : ∀ b, G b → ¬ F b) : Els T w' G L xs := by
 obtain ⟨hl, Fs, h1, h2⟩ := h
 exact ⟨hl, Fs, fun j hj => ⟨A.turn (h1 j hj).1 t (fun b hb => d b ((h1 j hj).2 b hb)), (h1 j hj).2⟩, h2⟩
def iE (A : T.Law) (G : Nat → Prop) (L : List (List Value)) (xs : List α) : Xf := ⟨G, fun w => Els T w G L xs, fun h t d => els_turn A h t d⟩
/-- A slice is taken apart: its cells, its elements. -/
theorem slO_apart (A : T.Law) (O : T.One) {e : TypeId} {w : World} {F : Nat → Prop} {v : Value} {xs : List α} (h : Kp e T w F v xs) :
  ∃ (L : List (List Value)) (F1 G : Nat → Prop), Kp e (Ub T.n) w F1 v L ∧ Els T w G L xs ∧ (∀ b, F1 b → F b) ∧ (∀ b, G b → F b) ∧ (∀ b, F1 b → ¬ G b) ∧ L.length = xs.length := by
 obtain ⟨R, us, Fs, h1, h2, h3, h4⟩ := h
 have hL : ((List.range xs.length).map us).length = xs.length := by simp
 have hat : ∀ j, j < xs.length → ((List.range xs.length).map us).getD j [] = us j := fun j hj => by simp [List.getD, hj]
 refine ⟨(List.range xs.length).map us, fun b => v.ownBlock = some b, fun b => ∃ j, j < xs.length ∧ Fs j b, ⟨R, us, fun _ _ => False, by rw [hL]; exact h1, fun b hb => hb, fun j hj => ?_, fun i j _ _ _ b hb => hb.elim⟩, ⟨hL, Fs, fun j hj => ⟨by rw [hat j hj]; exact (h3 j hj).2.1, fun b hb => ⟨j, hj, hb⟩⟩, h4⟩, h2, fun b ⟨j, hj, hb⟩ => ((h3 j hj).2.2 b hb).1, fun b hb ⟨j, hj, hc⟩ => ((h3 j hj).2.2 b hc).2 hb, hL⟩
 rw [hL] at hj
 obtain ⟨k1, k2, _⟩ := h3 j hj
 refine ⟨k1, ?_, fun b hb => hb.elim⟩
 have q : ((List.range xs.length).map us).getD j (Ub T.n).d = us j := hat j hj
 rw [q]
 exact ⟨rfl, A.len (A.reads k2), O (A.reads k2)⟩
/-- Cells and elements together again. -/
theorem slO_join (hn : 0 < T.n) {e : TypeId} {w : World} {F1 G : Nat → Prop} {v : Value} {L : List (List Value)} {xs : List α} (h : Kp e (Ub T.n) w F1 v L) (g : Els T w G L xs) (d : ∀ b, F1 b → ¬ G b) : Kp e T w (fun b => F1 b ∨ G b) v xs := by
 obtain ⟨R, us, _, h1, h2, h3, _⟩ := h
 obtain ⟨hl, Fs, g1, g2⟩ := g
 refine ⟨R, us, Fs, by rw [← hl]; exact h1, fun b hb => Or.inl (h2 b hb), fun j hj => ?_, g2⟩
 obtain ⟨k1, k2, _⟩ := h3 j (by rw [hl]; exact hj)
 have q : us j = L.getD j [] := k2.1
 exact ⟨k1, by rw [q]; exact (g1 j hj).1, fun b hb => ⟨Or.inr ((g1 j hj).2 b hb), fun o => d b (h2 b o) ((g1 j hj).2 b hb)⟩⟩
theorem getD_erase {β : Type} (l : List β) (d : β) (k j : Nat) : (l.eraseIdx k).getD j d = l.getD (if j < k then j else j + 1) d := by
 simp only [List.getD, List.getElem?_eraseIdx]
 split <;> rfl
theorem els_erase {w : World} {G : Nat → Prop} {L : List (List Value)} {xs : List α} (h : Els T w G L xs) {k : Nat} (hk : k < xs.length) : Els T w G (L.eraseIdx k) (xs.eraseIdx k) := by
 obtain ⟨hl, Fs, h1, h2⟩ := h
 have hlen : (xs.eraseIdx k).length = xs.length - 1 := by rw [List.length_eraseIdx]; simp [hk]
 refine ⟨by rw [hlen, List.length_eraseIdx, hl]; simp [hk], fun j => Fs (if j < k then j else j + 1), fun j hj => ?_, fun i j hi hj hij b => h2 _ _ ?_ ?_ ?_ b⟩
 ·
  rw [getD_erase, getD_erase]
  refine h1 _ ?_
  rw [hlen] at hj; split <;> omega
 ·
  rw [hlen] at hi; split <;> omega
 ·
  rw [hlen] at hj; split <;> omega
 ·
  split <;> split <;> omega
end
theorem flat_get {n : Nat} : ∀ {L : List (List Value)}, (∀ c ∈ L, c.length = n) → ∀ j i, j < L.length → i < n → L.flatten[j * n + i]? = (L.getD j [])[i]?
 | [], _, j, i, hj, _ => by simp at hj
 | c :: L, h, 0, i, _, hi => by
  have hc := h c List.mem_cons_self
  rw [List.flatten_cons, Nat.zero_mul, Nat.zero_add, List.getElem?_append_left (by omega)]; rfl
 | c :: L, h, j + 1, i, hj, hi => by
  have hc := h c List.mem_cons_self
  rw [List.flatten_cons, List.getElem?_append_right (by rw [hc, Nat.add_mul]; omega)]
  have e : (j + 1) * n + i - c.length = j * n + i := by rw [hc, Nat.add_mul]; omega
  rw [e, flat_get (fun c' h' => h c' (List.mem_cons_of_mem _ h')) j i (by simpa using hj) hi]
  rfl
theorem Vz {n : Nat} : ∀ {L : List (List Value)}, (∀ c ∈ L, c.length = n) → L.flatten.length = L.length * n
 | [], _ => by simp
 | c :: L, h => by rw [List.flatten_cons, List.length_append, Vz (fun c' h' => h c' (List.mem_cons_of_mem _ h')), h c List.mem_cons_self, List.length_cons, Nat.add_mul]; omega
theorem flat_take {n : Nat} : ∀ {L : List (List Value)}, (∀ c ∈ L, c.length = n) → ∀ k, L.flatten.take (k * n) = (L.take k).flatten
 | [], _, k => by simp
 | c :: L, h, 0 => by simp
 | c :: L, h, k + 1 => by
  have hc := h c List.mem_cons_self
  rw [List.take_succ_cons, List.flatten_cons, List.flatten_cons, List.take_append, hc, List.take_of_length_le (by rw [hc, Nat.add_mul]; omega), ← flat_take (fun c' h' => h c' (List.mem_cons_of_mem _ h')) k]
  congr 2
  rw [Nat.add_mul]; omega
theorem flat_drop {n : Nat} : ∀ {L : List (List Value)}, (∀ c ∈ L, c.length = n) → ∀ k, L.flatten.drop (k * n) = (L.drop k).flatten
 | [], _, k => by simp
 | c :: L, h, 0 => by simp
 | c :: L, h, k + 1 => by
  have hc := h c List.mem_cons_self
  rw [List.drop_succ_cons, List.flatten_cons, List.drop_append, hc, List.drop_eq_nil_of_le (by rw [hc, Nat.add_mul]; omega), List.nil_append, ← flat_drop (fun c' h' => h c' (List.mem_cons_of_mem _ h')) k]
  congr 1
  rw [Nat.add_mul]; omega
def Xl (n : Nat) (L : List (List Value)) : Prop := ∀ c ∈ L, c.length = n ∧ ∀ u ∈ c, u.oneCell' = true
theorem Xl.len {n : Nat} {L : List (List Value)} (h : Xl n L) : ∀ c ∈ L, c.length = n := fun c hc => (h c hc).1
theorem Xl.take {n : Nat} {L : List (List Value)} (h : Xl n L) (k : Nat) : Xl n (L.take k) := fun c hc => h c (List.mem_of_mem_take hc)
theorem Xl.drop {n : Nat} {L : List (List Value)} (h : Xl n L) (k : Nat) : Xl n (L.drop k) := fun c hc => h c (List.mem_of_mem_drop hc)
theorem Xl.cons {n : Nat} {c : List Value} {M : List (List Value)} (h : c.length = n) (h1 : ∀ u ∈ c, u.oneCell' = true) (g : Xl n M) : Xl n (c :: M) := fun x hx => by
 rcases List.mem_cons.1 hx with rfl | q
 ·
  exact ⟨h, h1⟩
 ·
  exact g x q
theorem Xl.flat {n : Nat} {L : List (List Value)} (h : Xl n L) : ∀ u ∈ L.flatten, u.oneCell' = true := fun u hu => by
 obtain ⟨c, hc, hu⟩ := List.mem_flatten.1 hu
 exact (h c hc).2 u hu
/-- Raw elements as one row of cells. -/
theorem raw_row {n : Nat} (hn : 0 < n) {e : TypeId} {w : World} {F : Nat → Prop} {v : Value} {L : List (List Value)} (h : Kp e (Ub n) w F v L) : w.ownsRow 0 e n v L.length L.flatten ∧ Xl n L ∧ ∀ b, v.ownBlock = some b → F b := by
 obtain ⟨R, us, Fs, h1, h2, h3, _⟩ := h
 have hc : ∀ j, j < L.length → us j = L.getD j [] ∧ (us j).length = n ∧ ∀ u ∈ us j, u.oneCell' = true := fun j hj => (h3 j hj).2.1
 have hu : Xl n L := fun c hm => by
  obtain ⟨j, hj, rfl⟩ := List.getElem_of_mem hm
  have q := hc j hj
  rw [q.1] at q
  have e : L.getD j [] = L[j] := by simp [List.getD, hj]
  rw [e] at q
  exact q.2
 refine ⟨?_, hu, h2⟩
 have e : R = L.flatten := by
  apply List.ext_getElem?
  intro k
  have hR : R.length = L.length * n := h1.1
  by_cases hk : k < L.length * n
  ·
   have hj : k / n < L.length := (Nat.div_lt_iff_lt_mul hn).2 hk
   have hm : k % n < n := Nat.mod_lt _ hn
   have ek : k / n * n + k % n = k := Nat.div_add_mod' k n
   have a := (h3 (k / n) hj).1 (k % n) hm
   have b := flat_get hu.len (k / n) (k % n) hj hm
   rw [ek] at b
   have a' : R[k / n * n + k % n]? = (us (k / n))[k % n]? := a
   rw [ek, (hc _ hj).1] at a'
   rw [a', b]
  ·
   rw [List.getElem?_eq_none (by omega), List.getElem?_eq_none (by rw [Vz hu.len]; omega)]
 rw [← e]; exact h1
theorem row_raw {n : Nat} {e : TypeId} {w : World} {F : Nat → Prop} {v : Value} {L : List (List Value)} (h : w.ownsRow 0 e n v L.length L.flatten) (hu : Xl n L) (hF : ∀ b, v.ownBlock = some b → F b) : Kp e (Ub n) w F v L := by
 refine ⟨L.flatten, fun j => L.getD j [], fun _ _ => False, h, hF, fun j hj => ⟨fun i hi => flat_get hu.len j i hj hi, ?_, fun b hb => hb.elim⟩, fun i j _ _ _ b hb => hb.elim⟩
 have e : L.getD j [] = L[j] := by simp [List.getD, hj]
 have q := hu L[j] (List.getElem_mem hj)
 exact ⟨rfl, by show (L.getD j []).length = n; rw [e]; exact q.1, by show ∀ u ∈ L.getD j [], u.oneCell' = true; rw [e]; exact q.2⟩
/-- The row of a slice that is owned raw, and what it is when its block is written anew. -/
theorem raw_block {n : Nat} (hn : 0 < n) {e : TypeId} {w : World} {F : Nat → Prop} {v : Value} {L : List (List Value)} (h : Kp e (Ub n) w F v L) (hp : 0 < L.length) :
  ∃ (g cap : Nat) (tail : List Value), v = .slice (some ⟨g, 0, none⟩) L.length cap ∧ F g ∧ L.length ≤ cap ∧ cap ≤ maxLen ∧ w.heap[g]? = some (.cells (L.flatten ++ tail).toArray e (0, 0)) ∧ Xl n L ∧
   ∀ (w' : World) (M : List (List Value)) (tail' : List Value), w'.heap[g]? = some (.cells (M.flatten ++ tail').toArray e (0, 0)) → Xl n M → M.length ≤ cap → (M.flatten ++ tail').length = (L.flatten ++ tail).length → Kp e (Ub n) w' F (.slice (some ⟨g, 0, none⟩) M.length cap) M := by
 obtain ⟨h1, hu, hF⟩ := raw_row hn h
 rcases h1.2 with ⟨rfl, h0⟩ | ⟨g, cap, cur, rfl, hb, hg, hc, hm, hs, ht⟩
 ·
  omega
 ·
  have el : cur.toList = L.flatten ++ cur.toList.drop (L.length * n) := by rw [← ht, List.take_append_drop]
  have ec : cur = (L.flatten ++ cur.toList.drop (L.length * n)).toArray := by rw [← el]
  refine ⟨g, cap, cur.toList.drop (L.length * n), rfl, hF g rfl, hc, hm, by rw [← ec]; exact hg, hu, fun w' M tail' hg' hM hMc hlen => ?_⟩
  refine row_raw ⟨Vz hM.len, .inr ⟨g, cap, _, rfl, Ij _, hg', hMc, hm, ?_, ?_⟩⟩ hM (fun b hb => hF b hb)
  ·
   rw [List.size_toArray, hlen, ← el, Array.length_toList, hs]
  ·
   rw [← Vz hM.len]
   show (M.flatten ++ tail').take M.flatten.length = M.flatten
   exact List.take_left
section
variable {P : Program}
theorem run_copy_wide (w : World) (dT sT ty elem : TypeId) (m : Nat) (dp sp : Option Addr) (dLen dCap sLen sCap : Nat) (hu : P.underlying dT = some (.slice elem)) (hs : (P.info? elem).map (·.size) = some m) (hm : 0 < m)
  (g o : Nat) (cur : List Value) (t : TypeId) (hg : w.heap[g]? = some (.cells cur.toArray t (0, 0))) (cs : List Value) (hn : cs.length = Nat.min sLen dLen * m)
  (hpos : 0 < cs.length → dp = some ⟨g, o, none⟩ ∧ ∃ ad, sp = some ad ∧ ∀ j v, cs[j]? = some v → w.cell? (ad.add j) = some v) (hfit : o + cs.length ≤ cur.length) (h1 : ∀ v ∈ cs, v.oneCell' = true) :
  (Builtin.copy_ #[dT, sT] ty #[.slice dp dLen dCap, .slice sp sLen sCap]).run P w = .ok (goInt (Nat.min sLen dLen)) (w.setRow g (splice cur o cs).toArray) := by
 cases hq : P.info? elem with
 | none => simp [hq] at hs
 | some i =>
  have hi : i.size = m := by simpa [hq] using hs
  by_cases h0 : cs.length = 0
  ·
   obtain rfl : cs = [] := List.eq_nil_of_length_eq_zero h0
   have hz : Nat.min sLen dLen = 0 := by
    rcases Nat.eq_zero_or_pos (Nat.min sLen dLen) with q | q
    ·
     exact q
    ·
     have := Nat.mul_pos q hm; rw [← hn] at this; simp at this
   have hl : ∀ (x : Addr), (loadCells x 0).run P w = .ok #[] w := fun x => by simpa using run_loadCells_list (P := P) w x [] (by simp)
   have hsp : w.setRow g (splice cur o []).toArray = w := by
    have : splice cur o [] = cur := by simp [splice]
    rw [this]; exact setRow_self w g cur.toArray t (0, 0) hg
   rw [hsp]
   cases dp <;> cases sp <;> simp [Builtin.copy_, run_underlying hu, Builtin.lenOf, Builtin.firstCells, sizeOf, typeInfo, hq, hi, hz, storeCells, hl]
  ·
   obtain ⟨rfl, ad, rfl, hsrc⟩ := hpos (by omega)
   have hl := run_loadCells_list (P := P) w ad cs hsrc
   have hst := run_storeCells_at P g o t cs 0 cur.toArray w hg (by simpa using hfit) h1
   rw [hn] at hl
   simp [Builtin.copy_, run_underlying hu, Builtin.lenOf, Builtin.firstCells, sizeOf, typeInfo, hq, hi, hl, hst, splice]
/-- The same as a step of a region that draws its order. -/
theorem step_copy_wide {ops : Array Oper} {o : Oper} {a : Act} {w : World} {K : Act → World → Prop} {Q : Exit → Act → World → Prop} {E : Prop} (hwa : Region.wanted o (yielded ops a.tmps) = true) (d s : Operand) (dT sT : TypeId)
  (ho : o.op = .call { callee := .builtin .copy, args := #[d, s], argTypes := #[dT, sT] }) (elem : TypeId) (m : Nat) (hu : P.underlying dT = some (.slice elem)) (hsz : (P.info? elem).map (·.size) = some m) (hm : 0 < m)
  (dp sp : Option Addr) (dLen dCap sLen sCap : Nat) (hd : a.eval d = .slice dp dLen dCap) (hs : a.eval s = .slice sp sLen sCap)
  (g off : Nat) (cur : List Value) (t : TypeId) (hg : w.heap[g]? = some (.cells cur.toArray t (0, 0))) (cs : List Value) (hn : cs.length = Nat.min sLen dLen * m)
  (hpos : 0 < cs.length → dp = some ⟨g, off, none⟩ ∧ ∃ ad, sp = some ad ∧ ∀ j v, cs[j]? = some v → w.cell? (ad.add j) = some v)
  (hfit : off + cs.length ≤ cur.length) (h1 : ∀ v ∈ cs, v.oneCell' = true)
  (h : K (a.put o.dst (goInt (Nat.min sLen dLen))) (w.setRow g (splice cur off cs).toArray)) :
  if Region.wanted o (yielded ops a.tmps) = true then Oper.wp P o a w K Q else E := by
 rw [if_pos hwa]
 have hrun := run_copy_wide (P := P) w dT sT o.type elem m dp sp dLen dCap sLen sCap hu hsz hm g off cur t hg cs hn hpos hfit h1
 unfold Oper.wp
 simp only [execOp, ho, resolve, invoke, builtin, Sem.run_bind, Sem.run_pure, Result.andThen_ok, List.map_toArray, List.map_cons, List.map_nil, hd, hs, hrun]
 exact h
theorem run_clear_wide (w : World) (T ty elem : TypeId) (n : Nat) (z : Value) (hu : P.underlying T = some (.slice elem)) (hz : (zeroValue elem).run P w = .ok z w) (g o cap k : Nat) (cur : List Value) (t : TypeId) (hg : w.heap[g]? = some (.cells cur.toArray t (0, 0))) (cs : List Value) (hk : 0 < k) (hc : (Builtin.zeroCells z.cells k).toList = cs) (hfit : o + cs.length ≤ cur.length) (h1 : ∀ v ∈ cs, v.oneCell' = true) :
  (Builtin.clear_ #[T] ty #[.slice (some ⟨g, o, none⟩) k cap]).run P w = .ok (.tuple #[]) (w.setRow g (splice cur o cs).toArray) := by
 obtain ⟨j, rfl⟩ : ∃ j, k = j + 1 := ⟨k - 1, by omega⟩
 have hst := run_storeCells_at P g o t cs 0 cur.toArray w hg (by simpa using hfit) h1
 simp [Builtin.clear_, run_underlying hu, hz, hc, hst, splice]
end
section
variable {α : Type} {T : Ty α}
theorem slR_pre {w : World} {b off n cap : Nat} {xs : List α} (h : Ko T w (.slice (some ⟨b, off, none⟩) n cap) xs) {k : Nat} (hk : k ≤ xs.length) : Ko T w (.slice (some ⟨b, off, none⟩) k cap) (xs.take k) := by
 have hl : (xs.take k).length = k := by rw [List.length_take]; omega
 rcases h with ⟨rfl, a, c, hv⟩ | ⟨b', off', cap', us, hv, hc, hb, hj⟩
 ·
  obtain rfl : k = 0 := by simpa using hk
  exact Or.inl ⟨by simp, _, _, rfl⟩
 ·
  simp only [Ik, Option.some.injEq, Addr.mk.injEq] at hv
  obtain ⟨⟨rfl, rfl, _⟩, rfl, rfl⟩ := hv
  refine Or.inr ⟨b, off, cap, us, by rw [hl], by rw [hl]; omega, hb, fun j hj' => ?_⟩
  rw [hl] at hj'
  have q := hj j (by omega)
  have e : (xs.take k).getD j T.d = xs.getD j T.d := by simp [List.getD, List.getElem?_take_of_lt hj']
  rw [e]; exact q
theorem slR_suf {w : World} {b off n cap : Nat} {xs : List α} (h : Ko T w (.slice (some ⟨b, off, none⟩) n cap) xs) {k : Nat} (hk : k ≤ xs.length) : Ko T w (.slice (some ⟨b, off + k * T.n, none⟩) (n - k) (cap - k)) (xs.drop k) := by
 rcases h with ⟨rfl, a, c, hv⟩ | ⟨b', off', cap', us, hv, hc, hb, hj⟩
 ·
  simp only [Ik] at hv
  obtain ⟨_, rfl, _⟩ := hv
  exact Or.inl ⟨by simp, _, _, by rw [Nat.zero_sub]⟩
 ·
  simp only [Ik, Option.some.injEq, Addr.mk.injEq] at hv
  obtain ⟨⟨rfl, rfl, _⟩, rfl, rfl⟩ := hv
  refine Or.inr ⟨b, off + k * T.n, cap - k, fun j => us (k + j), by rw [List.length_drop], by rw [List.length_drop]; omega, hb, fun j hj' => ?_⟩
  rw [List.length_drop] at hj'
  have q := hj (k + j) (by omega)
  have e : (xs.drop k).getD j T.d = xs.getD (k + j) T.d := by simp [List.getD, List.getElem?_drop]
  rw [e]
  refine ⟨fun i hi => ?_, q.2⟩
  have e2 : off + k * T.n + j * T.n + i = off + (k + j) * T.n + i := by rw [Nat.add_mul]; omega
  rw [e2]; exact q.1 i hi
end
/-- One element of a row is left out: the row behind the copy, and behind the clearing. -/
theorem splice_erase {n : Nat} {L : List (List Value)} (h : Xl n L) {k : Nat} (hk : k < L.length) (tail : List Value) :
  splice (L.flatten ++ tail) (k * n) (L.drop (k + 1)).flatten = (L.eraseIdx k).flatten ++ ((L.drop (L.length - 1)).flatten ++ tail) := by
 have hl : (L.drop (k + 1)).flatten.length = (L.length - (k + 1)) * n := by rw [Vz (h.drop _).len, List.length_drop]
 have hle : k * n ≤ L.flatten.length := by rw [Vz h.len]; exact Nat.mul_le_mul_right _ (by omega)
 have e1 : k * n + (L.length - (k + 1)) * n = (L.length - 1) * n := by rw [← Nat.add_mul]; congr 1; omega
 have hle2 : (L.length - 1) * n ≤ L.flatten.length := by rw [Vz h.len]; exact Nat.mul_le_mul_right _ (by omega)
 unfold splice
 rw [hl, e1, List.take_append_of_le_length hle, flat_take h.len, List.drop_append_of_le_length hle2, flat_drop h.len, List.eraseIdx_eq_take_drop_succ, List.flatten_append, List.append_assoc]
theorem splice_clear {n : Nat} {E : List (List Value)} (h : Xl n E) (last zs tail : List Value) (hz : zs.length = last.length) :
  splice (E.flatten ++ (last ++ tail)) (E.length * n) zs = E.flatten ++ (zs ++ tail) := by
 unfold splice
 rw [← Vz h.len, List.take_left, List.drop_append, List.drop_eq_nil_of_le (by omega), List.nil_append]
 congr 2
 rw [show E.flatten.length + zs.length - E.flatten.length = last.length by omega, List.drop_left]
theorem Xl.erase {n : Nat} {L : List (List Value)} (h : Xl n L) (k : Nat) : Xl n (L.eraseIdx k) := fun c hc => h c (List.mem_of_mem_eraseIdx hc)
theorem Ud : (Ub 10).Law := Vs (by decide)
theorem tActive_1 : Ji.One := Kl (Kl Vh (Kl Vh (Kl (Xm _ _) (Xm _ _)))) (Kl Vh (Kl (Xm _ _) (Kl Vh (Kl Vh (Kl Vh (Xm _ _))))))
section
variable {w0 w : World} {l : List Xf}
theorem St.apartA {e : TypeId} {F : Nat → Prop} {v : Value} {xs : List _} (h : St w0 (iS e Jj F v xs :: l) w) :
  ∃ (L : List (List Value)) (F1 G : Nat → Prop), L.length = xs.length ∧ St w0 (iS e Ud F1 v L :: iE Jj G L xs :: l) w := by
 have o : Kp e Ji w F v xs := h.gS 0 rfl
 have lt : ∀ b, F b → b < w.heap.size := fun b hb => (h.s.2.1 b hb).1
 obtain ⟨L, F1, G, o1, o2, s1, s2, d, hl⟩ := slO_apart Jj tActive_1 o
 refine ⟨L, F1, G, hl, h.split [iS e Ud F1 v L, iE Jj G L xs] ⟨o1, fun b hb => ⟨lt b (s1 b hb), fun j hj => ?_⟩, o2, fun b hb => ⟨lt b (s2 b hb), fun j hj => by cases hj⟩, trivial⟩ ?_⟩
 ·
  simp only [List.mem_cons, List.not_mem_nil, or_false] at hj
  rcases hj with rfl
  exact d b hb
 ·
  intro j hj
  simp only [List.mem_cons, List.not_mem_nil, or_false] at hj
  rcases hj with rfl | rfl
  ·
   exact s1
  ·
   exact s2
theorem St.joinA {e : TypeId} {F1 G : Nat → Prop} {v : Value} {L : List (List Value)} {xs : List _} (h : St w0 (iS e Ud F1 v L :: iE Jj G L xs :: l) w) : ∃ F, St w0 (iS e Jj F v xs :: l) w := by
 refine ⟨fun b => F1 b ∨ G b, St.join [iS e Ud F1 v L, iE Jj G L xs] h _ (slO_join (T := Ji) (by decide) (h.gS 0 rfl) (h.s.get 1 rfl) (h.s.apart 0 rfl 1 rfl (by decide))) ?_⟩
 rintro b (q | q)
 ·
  exact ⟨_, List.mem_cons_self, q⟩
 ·
  exact ⟨_, List.mem_cons_of_mem _ List.mem_cons_self, q⟩
end
theorem zL_erase {α : Type} (T : Ty α) : ∀ (xs : List α) (k : Nat), zL T (xs.eraseIdx k) ≤ zL T xs
 | [], k => by simp
 | x :: xs, 0 => by
  rw [List.eraseIdx_cons_zero]
  unfold zL zTo sumN; simp; omega
 | x :: xs, k + 1 => by
  have ih := zL_erase T xs k
  rw [List.eraseIdx_cons_succ]
  unfold zL zTo sumN at *
  simp at *; omega
theorem Yp : Yn Je 3 Ja := Yv (by kernel_rfl)
theorem info_T_Cond : Yn Jk 177 (.agg #[Ja, Ja, Ja]) := Yv (by kernel_rfl)
theorem flat_Cond : Flat Jk := ⟨fun {w w' F cs x} h => by
 obtain ⟨a, b, c⟩ := x
 rw [tCond_R h]
 exact tCond_mkO, fun {w cs x} h u hu => by
 obtain ⟨a, b, c⟩ := x
 rw [tCond_R h] at hu
 simp at hu
 rcases hu with rfl | rfl | rfl <;> rfl⟩
set_option maxHeartbeats 2000000 in
theorem copyLVersionint (v : Value) (xs : List Int) (w : World) (h : Ko Je w v xs) (hn : xs.length ≤ 1048576) :
  Calls Tryz.prog 158 #[v] w (Xg 3 Je w xs) := by
 have H := zh h
 have HN := zh hn
 obtain ⟨a, cap, rfl⟩ := Jl h
 clear h hn
 go_enter Tryz.func158, Tryz.ntmps158
 go_wp2_with (at_builtin; refine Xt Jc Uf Yp Tryz.underlying25 rfl rfl _ (.tmp 3) rfl (fun _ => False) (Kw w) _ _ [] xs rfl rfl (Ya _ _ _ _) H.out (fun _ h => h.elim) (Ii _) (by have := HN.out; simp; omega) ?_)
 intro v' w1 o1 t1
 obtain ⟨va, vc, rfl⟩ := Ju o1
 have b1 := Js (Il w.heap.size w) t1 (fun _ h => h.elim) (Ii _)
 go_wp2
 go_ret
 exact ⟨_, rfl, o1, b1⟩
set_option maxHeartbeats 8000000 in
theorem copyVersion_P (a0 : Int) (a2 : Int) (a3 : Int) (v1 : Value) (x1 : List Int) (w : World) (h1 : Ko Je w v1 x1) (s1 : zL Je x1 ≤ 1048576) :
  Calls Tryz.prog 247 #[.agg #[a0, v1, a2, a3]] w (Yy Jh (fun cs => .agg cs.toArray) w (a0, x1, a2, a3)) := by
 obtain ⟨sa1, sc1, rfl⟩ := Jl h1
 have H1 := zh h1; have N1 := zh (Jz s1)
 clear h1 s1
 have d := zh (((Il w.heap.size w).alloc (Ii _) (.cells #[a0, .slice sa1 x1.length sc1, a2, a3] 212)).alloc (by simp) (.cells #[Ja, (), Ja, Ja] 212))
 have B0 : Hid (((w.alloc (.cells #[a0, .slice sa1 x1.length sc1, a2, a3] 212)).alloc (.cells #[Ja, (), Ja, Ja] 212)).heap[w.heap.size]? = some (.cells #[a0, .slice sa1 x1.length sc1, a2, a3] 212 (0, 0))) := zh (by rw [Below.heap_alloc _ _ _ (by simp)]; exact Ic w _)
 have B1 : Hid (((w.alloc (.cells #[a0, .slice sa1 x1.length sc1, a2, a3] 212)).alloc (.cells #[Ja, (), Ja, Ja] 212)).heap[(w.heap.size + 1)]? = some (.cells #[Ja, (), Ja, Ja] 212 (0, 0))) := zh (by
  have := Ic (w.alloc (.cells #[a0, .slice sa1 x1.length sc1, a2, a3] 212)) (.cells #[Ja, (), Ja, Ja] 212)
  simpa only [Ie] using this)
 have YW : Hid (w.heap.size + 1 < ((w.alloc (.cells #[a0, .slice sa1 x1.length sc1, a2, a3] 212)).alloc (.cells #[Ja, (), Ja, Ja] 212)).heap.size) := zh (by simp)
 go_enter Tryz.func247, Tryz.ntmps247
 go_wp2_with fail
 generalize ((w.alloc (.cells #[a0, .slice sa1 x1.length sc1, a2, a3] 212)).alloc (.cells #[Ja, (), Ja, Ja] 212)) = W at *
 refine (copyLVersionint (.slice sa1 x1.length sc1) x1 W (Jb Jc H1.out d.out) N1.out).mono ?_
 rintro e wq1 ⟨u, rfl, o1, c1⟩
 replace o1 := Kn Jc o1
 obtain ⟨ua1, uc1, rfl⟩ := Ju o1
 replace B0 := zb c1 B0
 replace B1 := zb c1 B1
 have P1 := zh o1
 have y0 := YW.out; have yd := d.out.size; have yc := c1.size
 have Q1 : Hid (∀ b, (Kw W b ∧ b < wq1.heap.size) → w.heap.size + 1 < b ∧ W.heap.size ≤ b ∧ b < wq1.heap.size) := zh (fun b h => ⟨Nat.lt_of_lt_of_le y0 h.1, h.1, h.2⟩)
 have Zq1 : Hid (W.heap.size ≤ wq1.heap.size) := zh yc
 replace d := zD d c1
 replace YW : Hid (w.heap.size + 1 < wq1.heap.size) := zh (Nat.lt_of_lt_of_le y0 yc)
 clear o1 c1 y0 yd yc
 have p0 := cr 1 (Value.slice sa1 x1.length sc1) B0.out
 have f0 := Ez wq1 _ 1 _ _ B0.out
 skip
 have tt : Kb (fun b => b = w.heap.size) wq1 (wq1.setCell ⟨w, 1, none⟩ (.slice ua1 x1.length uc1)) := Jm (G := fun b => b = w.heap.size) (g := w.heap.size) (j := 1) (u := .slice ua1 x1.length uc1) rfl
 have r := Ib wq1 w.heap.size 1 _ _ (.slice ua1 x1.length uc1) B0.out
 simp at r
 have y1 := YW.out
 have K0 : Hid ((wq1.setCell ⟨w, 1, none⟩ (.slice ua1 x1.length uc1)).heap[w.heap.size]? = some (.cells #[a0, .slice ua1 x1.length uc1, a2, a3] 212 (0, 0))) := zh r
 have K1 := zh ((tt.block (w.heap.size + 1) (Array.getElem?_eq_some_iff.1 B1.out).1 (fun h => by omega)).trans B1.out)
 have KP1 := zt Jc P1 tt (fun b h1 h2 => by have := Q1.out b h1; omega)
 have kd := zh (Js d.out tt (fun b h => by omega) d.out.size)
 have KY : Hid (w.heap.size + 1 < (wq1.setCell ⟨w, 1, none⟩ (.slice ua1 x1.length uc1)).heap.size) := zh (Nat.lt_of_lt_of_le y1 tt.size)
 have Zs1 : Hid (wq1.heap.size ≤ (wq1.setCell ⟨w, 1, none⟩ (.slice ua1 x1.length uc1)).heap.size) := zh tt.size
 clear tt r y1 B0 B1 d YW P1
 generalize hW : (wq1.setCell ⟨w, 1, none⟩ (.slice ua1 x1.length uc1)) = WF at *
 have c0 := cr 0 a0 K0.out
 have c1 := cr 1 (Value.slice ua1 x1.length uc1) K0.out
 have c2 := cr 2 a2 K0.out
 have c3 := cr 3 a3 K0.out
 have z0 := cr 0 Ja K1.out
 have g0 := Ez WF _ 0 _ _ K1.out
 have z1 := cr 1 () K1.out
 have g1 := Ez WF _ 1 _ _ K1.out
 have z2 := cr 2 Ja K1.out
 have g2 := Ez WF _ 2 _ _ K1.out
 have z3 := cr 3 Ja K1.out
 have g3 := Ez WF _ 3 _ _ K1.out
 have y1 := KY.out
 have DF := zh ((((kd.out.setCell (p := ⟨w.heap.size + 1, 0, none⟩) (by simp) a0).setCell (p := ⟨w.heap.size + 1, 1, none⟩) (by simp) (.slice ua1 x1.length uc1)).setCell (p := ⟨w.heap.size + 1, 2, none⟩) (by simp) a2).setCell (p := ⟨w.heap.size + 1, 3, none⟩) (by simp) a3)
 have r := st4 K1.out a0 (.slice ua1 x1.length uc1) a2 a3
 try simp at r
 have e0 := (Ia _ (w.heap.size + 1) 0 _ _ _ r).trans (show _ = some (Value.int .i64 a0) from rfl)
 have e1 := (Ia _ (w.heap.size + 1) 1 _ _ _ r).trans (show _ = some (Value.slice ua1 x1.length uc1) from rfl)
 have e2 := (Ia _ (w.heap.size + 1) 2 _ _ _ r).trans (show _ = some (Value.int .i64 a2) from rfl)
 have e3 := (Ia _ (w.heap.size + 1) 3 _ _ _ r).trans (show _ = some (Value.int .i64 a3) from rfl)
 have tt := ts4 WF (w.heap.size + 1) a0 (.slice ua1 x1.length uc1) a2 a3
 have PF1 := zt Jc KP1 tt (fun b h1 h2 => by have := Q1.out b h1; omega)
 clear r tt KY K1 kd y1 K0 KP1
 subst hW
 go_wp2
 refine bodyPost_ret (v := .agg #[a0, .slice ua1 x1.length uc1, a2, a3]) ?_ rfl ⟨[a0, .slice ua1 x1.length uc1, a2, a3], rfl, Ep PF1.out (fun b h => by have := Q1.out b h; show w.heap.size ≤ b; omega) , DF.out⟩
 simp [results, Tryz.f247, go_sem, e0, e1, e2, e3]
end Go.Proofs.YtnepfacnmaoieaaGreatDoor
