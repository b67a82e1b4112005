/-
 Texts of the proof, merged: AppInts, RowMark, RowMarkW, CondVal, CondSpec, QueryVal, SpanVal, SpanSl, FreshInts, BrRow, TQueryS, TyApp, Raw.
-/
import Derived.Test.YtnepfacnmaoieaaGreatDoorPK1
import Derived.Test.YtnepfacnmaoieaaGreatDoorPK2
import Derived.Deep.Upon
import Derived.BigQuiet
import Derived.Deep.QuietTactic
import Derived.Deep.RegionHeld3
import Derived.Maps.AppendAt
import Derived.Deep.Slices
namespace Go.Proofs.YtnepfacnmaoieaaGreatDoor
open Go.RowKit
set_option linter.unusedVariables false
set_option linter.unusedSimpArgs false
/-- Only blocks from B up to hi have turned. -/
structure Only (B hi : Nat) (w w' : World) : Prop where
 os : w'.os = w.os
 tape : w'.tape = w.tape
 output : w'.output = w.output
 size : w.heap.size ≤ w'.heap.size
 block : ∀ k, k < w.heap.size → (k < B ∨ hi ≤ k) → w'.heap[k]? = w.heap[k]?
theorem Only.refl (B hi : Nat) (w : World) : Only B hi w w := ⟨rfl, rfl, rfl, Nat.le_refl _, fun _ _ _ => rfl⟩
theorem Only.trans {B hi : Nat} {a b c : World} (h : Only B hi a b) (k : Only B hi b c) : Only B hi a c :=
 ⟨k.os.trans h.os, k.tape.trans h.tape, k.output.trans h.output, Nat.le_trans h.size k.size, fun i hi' hn => (k.block i (Nat.lt_of_lt_of_le hi' h.size) hn).trans (h.block i hi' hn)⟩
/-- A condition: field, low, high. -/
abbrev CondD := Int × Int × Int
/-- The cells of conditions. -/
def flatC (cs : List CondD) : List Value := cs.flatMap fun c => [.int .i64 c.1, .int .i64 c.2.1, .int .i64 c.2.2]
/-- The slice v reads as the conditions cs. -/
def CondsR (w : World) (v : Value) (cs : List CondD) : Prop :=
 (cs = [] ∧ ∃ a cap, v = .slice a 0 cap) ∨ ∃ b off cap, v = .slice (some ⟨b, off, none⟩) cs.length cap ∧ cs.length ≤ cap ∧ b < w.heap.size ∧ ∀ j, j < cs.length →
  w.cell? ⟨b, off + j * 3, none⟩ = some (.int .i64 (cs.getD j (0, 0, 0)).1) ∧ w.cell? ⟨b, off + j * 3 + 1, none⟩ = some (.int .i64 (cs.getD j (0, 0, 0)).2.1) ∧ w.cell? ⟨b, off + j * 3 + 2, none⟩ = some (.int .i64 (cs.getD j (0, 0, 0)).2.2)
theorem condsR_len {w : World} {v : Value} {cs : List CondD} (h : CondsR w v cs) : ∃ a cap, v = .slice a cs.length cap := by
 rcases h with ⟨rfl, a, cap, rfl⟩ | ⟨b, off, cap, rfl, _⟩
 ·
  exact ⟨a, cap, rfl⟩
 ·
  exact ⟨_, cap, rfl⟩
theorem condsR_below {W w : World} {v : Value} {cs : List CondD} (h : CondsR W v cs) (hb : Below W.heap.size W w) : CondsR w v cs := by
 rcases h with h | ⟨b, off, cap, h1, h2, h3, h4⟩
 ·
  exact Or.inl h
 ·
  exact Or.inr ⟨b, off, cap, h1, h2, Nat.lt_of_lt_of_le h3 hb.size, fun j hj => ⟨(hb.cell (p := ⟨b, off + j * 3, none⟩) h3).trans (h4 j hj).1, (hb.cell (p := ⟨b, off + j * 3 + 1, none⟩) h3).trans (h4 j hj).2.1, (hb.cell (p := ⟨b, off + j * 3 + 2, none⟩) h3).trans (h4 j hj).2.2⟩⟩
theorem condsR_at {w : World} {v : Value} {cs : List CondD} (h : CondsR w v cs) {k : Nat} (hk : k < cs.length) : ∃ (b off cap : Nat), v = .slice (some ⟨b, off, none⟩) cs.length cap ∧ b < w.heap.size ∧
  w.cell? ⟨b, off + k * 3, none⟩ = some (.int .i64 (cs.getD k (0, 0, 0)).1) ∧ w.cell? ⟨b, off + k * 3 + 1, none⟩ = some (.int .i64 (cs.getD k (0, 0, 0)).2.1) ∧ w.cell? ⟨b, off + k * 3 + 2, none⟩ = some (.int .i64 (cs.getD k (0, 0, 0)).2.2) := by
 rcases h with ⟨rfl, _⟩ | ⟨b, off, cap, h1, h2, h3, h4⟩
 ·
  simp at hk
 ·
  exact ⟨b, off, cap, h1, h3, h4 k hk⟩
/-- The slice v owns the conditions cs, in a block from B on. -/
def OwnsC (w : World) (B : Nat) (v : Value) (cs : List CondD) : Prop := w.ownsRow B 177 3 v cs.length (flatC cs)
def condB (c : CondD) : Bool := decide (0 ≤ c.1 ∧ c.1 ≤ 2) && (decide (0 ≤ c.2.1 ∧ c.2.1 ≤ c.2.2) && decide (c.2.2 ≤ 99))
abbrev condV (f l h : Int) : Value := .agg #[.int .i64 f, .int .i64 l, .int .i64 h]
set_option maxHeartbeats 4000000 in
set_option maxRecDepth 100000 in
theorem specIsCond (f l h : Int) (w : World) :
  Calls Tryz.prog 155 #[condV f l h] w fun e w' => e = .returned (.bool (condB (f, l, h))) ∧ Below w.heap.size w w' := by
 have hb : Below w.heap.size w (w.alloc (.cells #[.int .i64 f, .int .i64 l, .int .i64 h] 177)) := (Below.refl _ w).alloc (Nat.le_refl _) _
 by_cases h1 : 0 ≤ f ∧ f ≤ 2
 ·
  have H1 := Lib.hid (fun w => in_yes f 0 2 w h1.1 h1.2)
  by_cases h2 : 0 ≤ l ∧ l ≤ h
  ·
   have H2 := Lib.hid (fun w => in_yes l 0 h w h2.1 h2.2)
   have HF : Hid (condB (f, l, h) = decide (h ≤ 99)) := Lib.hid (by unfold condB; rw [decide_eq_true h1, decide_eq_true h2]; simp)
   by_cases h3 : h ≤ 99
   ·
    have HT : Hid (condB (f, l, h) = true) := Lib.hid (by rw [HF.out]; exact decide_eq_true h3)
    clear h1 h2 HF
    go_enter Tryz.func155, Tryz.ntmps155
    go_wp2_with fail
    refine (H1.out _).mono ?_
    rintro e w1 ⟨rfl, rfl⟩
    go_wp2_with fail
    refine (H2.out _).mono ?_
    rintro e w2 ⟨rfl, rfl⟩
    go_wp2
    go_ret
    exact ⟨ret_b HT.out.symm, hb⟩
   ·
    have HT : Hid (condB (f, l, h) = false) := Lib.hid (by rw [HF.out]; exact decide_eq_false h3)
    clear h1 h2 HT
    go_enter Tryz.func155, Tryz.ntmps155
    go_wp2_with fail
    refine (H1.out _).mono ?_
    rintro e w1 ⟨rfl, rfl⟩
    go_wp2_with fail
    refine (H2.out _).mono ?_
    rintro e w2 ⟨rfl, rfl⟩
    go_wp2
    go_ret
    exact ⟨ret_b HF.out.symm, hb⟩
  ·
   have H2 := Lib.hid (fun w => in_no l 0 h w h2)
   have HT : Hid (condB (f, l, h) = false) := Lib.hid (by unfold condB; rw [decide_eq_false h2]; simp)
   clear h1 h2
   go_enter Tryz.func155, Tryz.ntmps155
   go_wp2_with fail
   refine (H1.out _).mono ?_
   rintro e w1 ⟨rfl, rfl⟩
   go_wp2_with fail
   refine (H2.out _).mono ?_
   rintro e w2 ⟨rfl, rfl⟩
   go_wp2
   go_ret
   exact ⟨ret_b HT.out.symm, hb⟩
 ·
  have H1 := Lib.hid (fun w => in_no f 0 2 w h1)
  have HT : Hid (condB (f, l, h) = false) := Lib.hid (by unfold condB; rw [decide_eq_false h1]; simp)
  clear h1
  go_enter Tryz.func155, Tryz.ntmps155
  go_wp2_with fail
  refine (H1.out _).mono ?_
  rintro e w1 ⟨rfl, rfl⟩
  go_wp2
  go_ret
  exact ⟨ret_b HT.out.symm, hb⟩
abbrev qV (id tn : Int) (cv ov : Value) : Value := .agg #[.int .i64 id, .int .i64 tn, cv, ov]
/-- What the table of types says of the element. -/
def ElemInfo {α : Type} (T : Ty α) (e : TypeId) (z : Value) : Prop := ∃ i, Tryz.prog.info? e = some i ∧ i.zero = some z ∧ i.size = T.n ∧ i.bytes ≤ 512
theorem elemInfo_of {α : Type} {T : Ty α} {e : TypeId} {z : Value} (h : (Tryz.prog.info? e).map (fun i => (i.zero, i.size, decide (i.bytes ≤ 512))) = some (some z, T.n, true)) : ElemInfo T e z := by
 cases q : Tryz.prog.info? e with
 | none => rw [q] at h; simp at h
 | some i => rw [q] at h; simp only [Option.map_some, Option.some.injEq, Prod.mk.injEq, decide_eq_true_eq] at h; exact ⟨i, q, h.1, h.2.1, h.2.2⟩
theorem addr_add0 (b j : Nat) : (⟨b, 0, none⟩ : Addr).add j = ⟨b, j, none⟩ := by unfold Addr.add; split <;> simp_all
theorem addr_add (b o j : Nat) : (⟨b, o, none⟩ : Addr).add j = ⟨b, o + j, none⟩ := by unfold Addr.add; split <;> simp_all
/-- The blocks of what was there, as the append leaves them. -/
theorem grown_alloc {w w' : World} {o : Obj} {row : Option Nat} (h : (w.alloc o).grownBy w' row) : w.grownBy w' row := by
 have hg := World.grownBy_alloc w o row
 exact ⟨h.os.trans hg.os, h.tape.trans hg.tape, h.output.trans hg.output, Nat.le_trans hg.size h.size, fun k hk hne => (h.block k (Nat.lt_of_lt_of_le hk hg.size) hne).trans (hg.block k hk hne)⟩
theorem run_append_T {α : Type} {T : Ty α} (A : T.Law) {e t : TypeId} {z : Value} (I : ElemInfo T e z) (ht : Tryz.prog.underlying t = some (.slice e)) (hz : z.cells.size = T.n)
  {w : World} (ty : TypeId) (F : Nat → Prop) (D : Nat) (v : Value) (xs : List α) (hown : SlO e T w (fun b => F b ∧ b < D) v xs) (hD : D ≤ w.heap.size) (hf : ∀ b, D ≤ b → F b) (hn : xs.length ≤ 1048576)
  (cs : List Value) (x0 : α) (hnew : T.O w (fun b => D ≤ b) cs x0) (h1 : ∀ u ∈ cs, u.oneCell' = true) (c : Nat) :
  ∃ v' w', (Builtin.append_ #[t, t] ty #[v, .slice (some ⟨w.heap.size, 0, none⟩) 1 c]).run Tryz.prog (w.alloc (.cells cs.toArray e)) = .ok v' w' ∧ SlO e T w' F v' (xs ++ [x0]) ∧ Turn (fun b => F b ∧ b < D) w w' := by
 obtain ⟨i0, hi, hz0, hz1, hz2⟩ := I
 obtain ⟨L, us, Fs, g1, g2, g3, g4⟩ := slO_lt A hown
 have hcl : cs.length = T.n := A.len (A.reads hnew)
 have hpos := A.pos
 have hb : (xs.length + 1) * i0.bytes ≤ 1048577 * 512 := Nat.mul_le_mul (by omega) hz2
 obtain ⟨v', w', hr, k1, k2, _, k4⟩ := run_append_own_at (P := Tryz.prog) (w.alloc (.cells cs.toArray e)) 0 t ty e i0 z T.n i0.bytes ht hi hz0 hz1 rfl hz hpos v xs.length _ (g1.alloc _) ⟨w.heap.size, 0, none⟩ 1 c cs (by omega) (fun j u hj => by
  rw [addr_add0, cell_of_row _ w.heap.size j cs.toArray e (0, 0) (heap_alloc_new w _)]
  simpa using hj) h1 (by unfold maxLen; omega) (by omega) (Nat.zero_le _)
 have k5 := grown_alloc k2
 have hv : ∀ b, v.ownBlock = some b → F b ∧ b < D := fun b hb => (g2 b hb).1
 have hsz : (w.alloc (.cells cs.toArray e)).heap.size = w.heap.size + 1 := by simp [World.size_alloc]
 refine ⟨v', w', hr, ?_, turn_grown k5 hv⟩
 refine slO_app (F := F) (Fn := fun b => D ≤ b ∧ b < w.heap.size) A (fun b hb => (hv b hb).1) (fun j hj => ⟨(g3 j hj).1, (g3 j hj).2.1, fun b hb => ⟨⟨((g3 j hj).2.2 b hb).1.1.1, ((g3 j hj).2.2 b hb).1.2⟩, ((g3 j hj).2.2 b hb).2⟩⟩) g4 g1.1 k1 k5 (fun b hb => ?_) (A.lt hnew) hcl (fun b hb => ⟨hf b hb.1, hb.2, fun q => ?_, fun j hj q => ?_⟩)
 ·
  rcases k4 with q | q
  ·
   exact Or.inl (q ▸ hb)
  ·
   rw [q, hsz] at hb
   have := Option.some.inj hb
   exact Or.inr ⟨by omega, hf b (by omega)⟩
 ·
  have := (hv b q).2; omega
 ·
  have := ((g3 j hj).2.2 b q).1.1.2; omega
theorem append_T {α : Type} {T : Ty α} (A : T.Law) {e t : TypeId} {z : Value} (I : ElemInfo T e z) (ht : Tryz.prog.underlying t = some (.slice e)) (hz : z.cells.size = T.n)
  {w : World} {ops : Array Oper} {rest : List Oper} {o : Oper} {a : Act} {Q : Exit → Act → World → Prop} (hgd : o.guard = none) (s x : Operand)
  (ho : o.op = .call { callee := .builtin .append, args := #[s, x], argTypes := #[t, t] })
  (F : Nat → Prop) (D : Nat) (v : Value) (xs : List α) (hs : a.eval s = v) (hown : SlO e T w (fun b => F b ∧ b < D) v xs) (hD : D ≤ w.heap.size) (hf : ∀ b, D ≤ b → F b) (hn : xs.length ≤ 1048576)
  (cs : List Value) (x0 : α) (hnew : T.O w (fun b => D ≤ b) cs x0) (h1 : ∀ u ∈ cs, u.oneCell' = true) (c g0 : Nat) (hx : a.eval x = .slice (some ⟨g0, 0, none⟩) 1 c) (hg0 : g0 = w.heap.size)
  (h : ∀ v' w', SlO e T w' F v' (xs ++ [x0]) → Turn (fun b => F b ∧ b < D) w w' → wpList Tryz.prog ops Q rest (a.put o.dst v') w') : wpList Tryz.prog ops Q (o :: rest) a (w.alloc (.cells cs.toArray e)) := by
 subst hg0
 refine wpList_plain hgd fun K hK => ?_
 obtain ⟨v', w', hr, h2, h3⟩ := run_append_T A I ht hz o.type F D v xs hown hD hf hn cs x0 hnew h1 c
 unfold Oper.wp execOp
 simp only [ho, resolve, invoke, builtin, Sem.run_bind, Sem.run_pure, Result.andThen_ok, List.map_toArray, List.map_cons, List.map_nil, hs, hx, hr]
 exact hK _ _ (h v' w' h2 h3)
/-- The cells of a slice that is read, in a row. -/
theorem slR_cells {α : Type} {T : Ty α} {w : World} {b off cap m : Nat} {xs : List α} (A : T.Law) (h : SlR T w (.slice (some ⟨b, off, none⟩) m cap) xs) (hp : 0 < xs.length) :
  m = xs.length ∧ b < w.heap.size ∧ ∃ L : List Value, L.length = xs.length * T.n ∧ (∀ j u, L[j]? = some u → w.cell? ⟨b, off + j, none⟩ = some u) ∧ ∀ j, j < xs.length → ∃ cs, T.R w cs (xs.getD j T.d) ∧ ∀ i, i < T.n → L[j * T.n + i]? = cs[i]? := by
 rcases h with ⟨rfl, _⟩ | ⟨b', off', cap', us, hv, h2, h3, h4⟩
 ·
  simp at hp
 ·
  simp only [Value.slice.injEq, Option.some.injEq, Addr.mk.injEq] at hv
  obtain ⟨⟨rfl, rfl, _⟩, rfl, rfl⟩ := hv
  have hpos := A.pos
  have hlen : ∀ j, j < xs.length → (us j).length = T.n := fun j hj => A.len (h4 j hj).2
  refine ⟨rfl, h3, (List.range (xs.length * T.n)).map (fun k => (us (k / T.n)).getD (k % T.n) undef), by simp, fun j u hj => ?_, fun j hj => ⟨us j, (h4 j hj).2, fun i hi => ?_⟩⟩
  ·
   have hjl : j < xs.length * T.n := by
    have := (List.getElem?_eq_some_iff.1 hj).1
    simpa using this
   rw [List.getElem?_map, List.getElem?_range hjl] at hj
   simp only [Option.map_some, Option.some.injEq] at hj
   have hq : j / T.n < xs.length := (Nat.div_lt_iff_lt_mul hpos).2 hjl
   have hm : j % T.n < T.n := Nat.mod_lt _ hpos
   have e : off + j / T.n * T.n + j % T.n = off + j := by
    have := Nat.div_add_mod j T.n
    rw [Nat.mul_comm] at this; omega
   have hc := (h4 _ hq).1 _ hm
   rw [e, List.getElem?_eq_getElem (by rw [hlen _ hq]; exact hm)] at hc
   rw [hc, ← hj]
   simp [List.getD, hlen _ hq, hm]
  ·
   have hlt : j * T.n + i < xs.length * T.n := by
    have : (j + 1) * T.n ≤ xs.length * T.n := Nat.mul_le_mul_right _ hj
    rw [Nat.add_mul, Nat.one_mul] at this; omega
   have e1 : (j * T.n + i) / T.n = j := by rw [Nat.mul_comm, Nat.mul_add_div hpos, Nat.div_eq_of_lt hi]; omega
   have e2 : (j * T.n + i) % T.n = i := by rw [Nat.mul_comm, Nat.mul_add_mod, Nat.mod_eq_of_lt hi]
   rw [List.getElem?_map, List.getElem?_range hlt]
   simp only [Option.map_some, e1, e2]
   rw [List.getElem?_eq_getElem (by rw [hlen j hj]; exact hi)]
   simp [List.getD, hlen j hj, hi]
/-- Plain data: what is read may be owned. -/
def Flat {α : Type} (T : Ty α) : Prop := (∀ {w w' : World} {F : Nat → Prop} {cs : List Value} {x : α}, T.R w cs x → T.O w' F cs x) ∧ ∀ {w : World} {cs : List Value} {x : α}, T.R w cs x → ∀ u ∈ cs, u.oneCell' = true
/-- What lies in slices of plain data that the call made, element by element. -/
theorem slO_flat {α : Type} {T : Ty α} (A : T.Law) (hfl : Flat T) {e : TypeId} {w : World} {F : Nat → Prop} {v : Value} {xs : List α} {L : List Value} {B : Nat} (h : w.ownsRow B e T.n v xs.length L) (hF : ∀ b, v.ownBlock = some b → F b)
  (hL : ∀ j, j < xs.length → ∃ cs, T.R w cs (xs.getD j T.d) ∧ ∀ i, i < T.n → L[j * T.n + i]? = cs[i]?) : SlO e T w F v xs := by
 haveI : Inhabited (List Value) := ⟨[]⟩
 obtain ⟨f, hf⟩ := Go.Deep.choose_lt (α := List Value) (n := xs.length) (p := fun j cs => T.R w cs (xs.getD j T.d) ∧ ∀ i, i < T.n → L[j * T.n + i]? = cs[i]?) hL
 exact ⟨L, f, fun _ _ => False, row_low h (Nat.zero_le _), hF, fun j hj => ⟨(hf j hj).2, hfl.1 (hf j hj).1, fun b hb => False.elim hb⟩, fun i j _ _ _ b hb => False.elim hb⟩
theorem run_append_flat {α : Type} {T : Ty α} (A : T.Law) (hfl : Flat T) {e t : TypeId} {z : Value} (I : ElemInfo T e z) (ht : Tryz.prog.underlying t = some (.slice e)) (hz : z.cells.size = T.n)
  {w : World} {F0 F : Nat → Prop} {v u : Value} {xs ys : List α} (ty : TypeId) (hown : SlO e T w F0 v xs) (hu : SlR T w u ys) (h0 : ∀ b, F0 b → F b) (hf : F w.heap.size) (h63 : xs.length + ys.length ≤ 2097152) :
  ∃ v' w', (Builtin.append_ #[t, t] ty #[v, u]).run Tryz.prog w = .ok v' w' ∧ SlO e T w' F v' (xs ++ ys) ∧ w.grownBy w' v.ownBlock := by
 obtain ⟨i0, hi, hz0, hz1, hz2⟩ := I
 have hpos := A.pos
 by_cases hp : 0 < ys.length
 ·
  obtain ⟨a', cap', rfl⟩ := slR_len hu
  rcases hu with ⟨rfl, _⟩ | hu'
  ·
   simp at hp
  ·
   have hu : SlR T w (.slice a' ys.length cap') ys := Or.inr hu'
   obtain ⟨b, off, cap2, us, hv, _⟩ := hu'
   simp only [Value.slice.injEq] at hv
   obtain ⟨rfl, _, rfl⟩ := hv
   obtain ⟨_, hbl, N, hN, hNc, hNr⟩ := slR_cells A hu hp
   obtain ⟨L, us2, Fs, g1, g2, g3, g4⟩ := hown
   have hb : (xs.length + ys.length) * i0.bytes ≤ 2097152 * 512 := Nat.mul_le_mul h63 hz2
   obtain ⟨v', w', hr, k1, k2, _, k4⟩ := run_append_own_at (P := Tryz.prog) w 0 t ty e i0 z T.n i0.bytes ht hi hz0 hz1 rfl hz hpos v xs.length _ g1 ⟨b, off, none⟩ ys.length cap' N hN (fun j q hj => by rw [addr_add]; exact hNc j q hj) (fun q hq => by
    obtain ⟨k, hk, rfl⟩ := List.getElem_of_mem hq
    have hkl : k < ys.length * T.n := by omega
    have hq : k / T.n < ys.length := (Nat.div_lt_iff_lt_mul hpos).2 hkl
    have hm : k % T.n < T.n := Nat.mod_lt _ hpos
    obtain ⟨cs, hR, hc⟩ := hNr _ hq
    have e1 : k / T.n * T.n + k % T.n = k := by
     have := Nat.div_add_mod k T.n
     rw [Nat.mul_comm] at this; exact this
    have h5 := hc _ hm
    rw [e1, List.getElem?_eq_getElem hk, List.getElem?_eq_getElem (by rw [A.len hR]; exact hm)] at h5
    rw [Option.some.inj h5]
    exact hfl.2 hR _ (List.getElem_mem _)) (by unfold maxLen; omega) (by omega) (Nat.zero_le _)
   refine ⟨v', w', hr, ?_, k2⟩
   have hLl : L.length = xs.length * T.n := g1.1
   refine slO_flat A hfl (by rw [List.length_append]; exact k1) (fun c hc => ?_) (fun j hj => ?_)
   ·
    rcases k4 with q | q
    ·
     exact h0 c (g2 c (q ▸ hc))
    ·
     rw [q] at hc; rw [← Option.some.inj hc]; exact hf
   ·
    rw [List.length_append] at hj
    by_cases hlt : j < xs.length
    ·
     have er : (xs ++ ys).getD j T.d = xs.getD j T.d := by simp [List.getD, List.getElem?_append_left hlt]
     obtain ⟨c1, c2, _⟩ := g3 j hlt
     refine ⟨us2 j, by rw [er]; exact A.reads (hfl.1 (w' := w') (F := F) (A.reads c2)), fun i hi => ?_⟩
     have hl2 : j * T.n + i < L.length := by
      have : (j + 1) * T.n ≤ xs.length * T.n := Nat.mul_le_mul_right _ hlt
      rw [Nat.add_mul, Nat.one_mul] at this; omega
     rw [List.getElem?_append_left hl2]
     exact c1 i hi
    ·
     obtain ⟨m, rfl⟩ : ∃ m, j = xs.length + m := ⟨j - xs.length, by omega⟩
     have hm : m < ys.length := by omega
     have er : (xs ++ ys).getD (xs.length + m) T.d = ys.getD m T.d := by simp [List.getD, List.getElem?_append_right]
     obtain ⟨cs, hR, hc⟩ := hNr m hm
     refine ⟨cs, by rw [er]; exact A.reads (hfl.1 (w' := w') (F := F) hR), fun i hi => ?_⟩
     have e1 : (xs.length + m) * T.n + i = L.length + (m * T.n + i) := by rw [hLl, Nat.add_mul]; omega
     rw [e1, List.getElem?_append_right (by omega), Nat.add_sub_cancel_left]
     exact hc i hi
 ·
  have hy : ys = [] := List.eq_nil_of_length_eq_zero (by omega)
  subst hy
  obtain ⟨a', cap', rfl⟩ := slR_len hu
  have hs : Src Tryz.prog i0.size t (.slice a' 0 cap') 0 [] w := by
   cases a' with
   | none => exact Src.ofNil w ht cap'
   | some ad => exact Src.ofSlice w ht ad 0 cap' [] (by simp) (by simp) (by simp)
  obtain ⟨a, cap, hv, hle⟩ : ∃ a cap, v = .slice a xs.length cap ∧ xs.length ≤ cap := by
   obtain ⟨L, us2, Fs, g1, _⟩ := hown
   rcases g1.2 with ⟨rfl, q⟩ | ⟨g, cap, cur, rfl, _, _, hn, _⟩
   ·
    exact ⟨none, 0, by rw [q], by omega⟩
   ·
    exact ⟨_, cap, rfl, hn⟩
  subst hv
  exact ⟨_, _, run_append_nothing w t t ty e i0 ht hi a xs.length cap hle _ hs, by rw [List.append_nil]; exact slO_mono hown h0, World.grownBy.refl _ _⟩
theorem append_flat {α : Type} {T : Ty α} (A : T.Law) (hfl : Flat T) {e t : TypeId} {z : Value} (I : ElemInfo T e z) (ht : Tryz.prog.underlying t = some (.slice e)) (hz : z.cells.size = T.n)
  {w : World} {ops : Array Oper} {rest : List Oper} {o : Oper} {a : Act} {Q : Exit → Act → World → Prop} (hgd : o.guard = none) (s x : Operand)
  (ho : o.op = .call { callee := .builtin .append, args := #[s, x], argTypes := #[t, t] })
  (F0 F : Nat → Prop) (v u : Value) (xs ys : List α) (hs : a.eval s = v) (hx : a.eval x = u) (hown : SlO e T w F0 v xs) (hu : SlR T w u ys) (h0 : ∀ b, F0 b → F b) (hf : F w.heap.size) (h63 : xs.length + ys.length ≤ 2097152)
  (h : ∀ v' w', SlO e T w' F v' (xs ++ ys) → Turn F0 w w' → wpList Tryz.prog ops Q rest (a.put o.dst v') w') : wpList Tryz.prog ops Q (o :: rest) a w := by
 refine wpList_plain hgd fun K hK => ?_
 have hblk : ∀ b, v.ownBlock = some b → F0 b := by obtain ⟨L, us2, Fs, g1, g2, _⟩ := hown; exact g2
 obtain ⟨v', w', hr, h2, h3⟩ := run_append_flat A hfl I ht hz o.type hown hu h0 hf h63
 unfold Oper.wp execOp
 simp only [ho, resolve, invoke, builtin, Sem.run_bind, Sem.run_pure, Result.andThen_ok, List.map_toArray, List.map_cons, List.map_nil, hs, hx, hr]
 exact hK _ _ (h v' w' h2 (turn_grown h3 hblk))
/-- 'T{}' as a slice: no element yet. -/
theorem slO_empty {α : Type} {T : Ty α} (w : World) (e : TypeId) (F : Nat → Prop) (h : F w.heap.size) : SlO e T (w.alloc (.cells #[] e)) F (.slice (some ⟨w.heap.size, 0, none⟩) 0 0) [] := by
 refine ⟨[], fun _ => [], fun _ _ => False, ?_, fun b hb => ?_, fun j hj => by simp at hj, fun i j hi => by simp at hi⟩
 ·
  have := World.ownsRow_made (base := 0) (e := e) (size := T.n) w #[] 0 (Nat.zero_le _) (by unfold maxLen; omega) (by simp)
  exact this
 ·
  simp [Value.ownBlock] at hb; rw [← hb]; exact h
/-- Cells as they are: n of them. -/
def tRaw (n : Nat) : Ty (List Value) := { n := n, d := [], R := fun _ cs x => cs = x ∧ cs.length = n ∧ ∀ u ∈ cs, u.oneCell' = true, O := fun _ _ cs x => cs = x ∧ cs.length = n ∧ ∀ u ∈ cs, u.oneCell' = true, sz := fun _ => 0, nd := fun _ => 0, nv := fun _ => 0, md := fun x _ => x, mv := fun x _ => x, ok := fun _ => True, s := 0 }
theorem tRaw_law {n : Nat} (h : 0 < n) : (tRaw n).Law := ⟨h, fun h => h.2.1, fun h _ => h, fun h => h, fun h _ _ => h, fun h _ => h, fun h => h, fun x => Nat.le_refl _, fun x => Nat.le_refl _⟩
theorem flat_raw (n : Nat) : Flat (tRaw n) := ⟨fun h => h, fun h => h.2.2⟩
/-- Each cell of an element holds one value. -/
def OneC {α : Type} (T : Ty α) : Prop := ∀ {w : World} {cs : List Value} {x : α}, T.R w cs x → ∀ u ∈ cs, u.oneCell' = true
/-- What the cells read as. -/
def Sh {α : Type} (T : Ty α) (w : World) (L : List (List Value)) (xs : List α) : Prop := L.length = xs.length ∧ ∀ j, j < xs.length → T.R w (L.getD j []) (xs.getD j T.d)
section
variable {α : Type} {T : Ty α}
theorem sh_nil (w : World) : Sh T w [] [] := ⟨rfl, fun j hj => by simp at hj⟩
theorem sh_len {w : World} {L : List (List Value)} {xs : List α} (h : Sh T w L xs) : L.length = xs.length := h.1
theorem sh_below (A : T.Law) {W w : World} {L : List (List Value)} {xs : List α} (h : Sh T W L xs) (hb : Below W.heap.size W w) : Sh T w L xs := ⟨h.1, fun j hj => A.below (h.2 j hj) hb⟩
theorem sh_app {w : World} {L M : List (List Value)} {xs ys : List α} (h : Sh T w L xs) (g : Sh T w M ys) : Sh T w (L ++ M) (xs ++ ys) := by
 refine ⟨by rw [List.length_append, List.length_append, h.1, g.1], fun j hj => ?_⟩
 rw [List.length_append] at hj
 by_cases hlt : j < xs.length
 ·
  have e1 : (xs ++ ys).getD j T.d = xs.getD j T.d := by simp [List.getD, List.getElem?_append_left hlt]
  have e2 : (L ++ M).getD j [] = L.getD j [] := by simp only [List.getD]; rw [List.getElem?_append_left (by rw [h.1]; exact hlt)]
  rw [e1, e2]; exact h.2 j hlt
 ·
  have e1 : (xs ++ ys).getD j T.d = ys.getD (j - xs.length) T.d := by simp [List.getD, List.getElem?_append_right (show xs.length ≤ j by omega)]
  have e2 : (L ++ M).getD j [] = M.getD (j - xs.length) [] := by simp only [List.getD]; rw [List.getElem?_append_right (by rw [h.1]; omega), h.1]
  rw [e1, e2]; exact g.2 _ (by omega)
theorem sh_one {w : World} {cs : List Value} {x : α} (h : T.R w cs x) : Sh T w [cs] [x] := ⟨rfl, fun j hj => by
 obtain rfl : j = 0 := by simpa using hj
 exact h⟩
/-- A slice that is read, as cells. -/
theorem slR_raw (A : T.Law) (O : OneC T) {w : World} {v : Value} {xs : List α} (h : SlR T w v xs) : ∃ L, SlR (tRaw T.n) w v L ∧ Sh T w L xs := by
 rcases h with ⟨rfl, a, cap, rfl⟩ | ⟨b, off, cap, us, rfl, h2, h3, h4⟩
 ·
  exact ⟨[], Or.inl ⟨rfl, a, cap, rfl⟩, sh_nil w⟩
 ·
  have hl : ((List.range xs.length).map us).length = xs.length := by simp
  have hg : ∀ j, j < xs.length → ((List.range xs.length).map us).getD j [] = us j := fun j hj => by simp [List.getD, hj]
  refine ⟨(List.range xs.length).map us, Or.inr ⟨b, off, cap, us, by rw [hl], by rw [hl]; exact h2, h3, fun j hj => ?_⟩, hl, fun j hj => by rw [hg j hj]; exact (h4 j hj).2⟩
  rw [hl] at hj
  refine ⟨(h4 j hj).1, ?_⟩
  show us j = ((List.range xs.length).map us).getD j [] ∧ _
  rw [hg j hj]
  exact ⟨rfl, A.len (h4 j hj).2, O (h4 j hj).2⟩
theorem raw_slR {w : World} {v : Value} {L : List (List Value)} {xs : List α} (h : SlR (tRaw T.n) w v L) (g : Sh T w L xs) : SlR T w v xs := by
 rcases h with ⟨rfl, a, cap, rfl⟩ | ⟨b, off, cap, us, rfl, h2, h3, h4⟩
 ·
  have : xs = [] := List.eq_nil_of_length_eq_zero (by rw [← g.1]; rfl)
  subst this
  exact Or.inl ⟨rfl, a, cap, rfl⟩
 ·
  rw [g.1] at h2 h4
  refine Or.inr ⟨b, off, cap, us, by rw [g.1], h2, h3, fun j hj => ⟨(h4 j hj).1, ?_⟩⟩
  have e : us j = L.getD j [] := (h4 j hj).2.1
  rw [e]
  exact g.2 j hj
/-- What is owned raw and read as elements that were there, stays while the rest of the memory stays. -/
theorem raw_reads (hn : 0 < T.n) {e : TypeId} {w : World} {F : Nat → Prop} {v : Value} {L : List (List Value)} {xs : List α} (h : SlO e (tRaw T.n) w F v L) (g : Sh T w L xs) : SlR T w v xs := raw_slR (slO_reads (tRaw_law hn) h) g
end
end Go.Proofs.YtnepfacnmaoieaaGreatDoor
