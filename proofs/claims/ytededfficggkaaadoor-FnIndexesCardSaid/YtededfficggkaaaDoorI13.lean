/-
 Texts of the proof, merged: SetOps, TyApp, FlatT.
-/
import Derived.Test.YtededfficggkaaaDoorI2
import Derived.Test.YtededfficggkaaaDoorI11
import Derived.Maps.AppendAt
import Derived.Deep.Upon
import Derived.Deep.Slices
namespace Go.Proofs.YtededfficggkaaaDoor
open Go.RowKit
set_option linter.unusedVariables false
set_option linter.unusedSimpArgs false
/-- The first k of a that p takes. -/
def accA (p : Int → Bool) (a : List Int) (k : Nat) : List Int := (a.take k).filter p
theorem accA_yes {p : Int → Bool} {a : List Int} {k : Nat} (hk : k < a.length) (h : p (a.getD k 0) = true) : accA p a k ++ [a.getD k 0] = accA p a (k + 1) := by
 unfold accA
 have e : a.getD k 0 = a[k] := by simp [List.getD, hk]
 rw [e] at h ⊢
 rw [List.take_succ_eq_append_getElem hk, List.filter_append]
 simp [h]
theorem accA_no {p : Int → Bool} {a : List Int} {k : Nat} (hk : k < a.length) (h : p (a.getD k 0) = false) : accA p a k = accA p a (k + 1) := by
 unfold accA
 have e : a.getD k 0 = a[k] := by simp [List.getD, hk]
 rw [e] at h
 rw [List.take_succ_eq_append_getElem hk, List.filter_append]
 simp [h]
theorem accA_len (p : Int → Bool) (a : List Int) (k : Nat) : (accA p a k).length ≤ a.length := by
 have h1 := List.length_filter_le p (a.take k)
 have h2 := List.length_take_le' k a
 unfold accA; omega
theorem meet_no {a b : List Int} (h : (setB a && setB b) = false) : meetL a b = [] := by unfold meetL; rw [h]; rfl
theorem meet_yes {a b : List Int} (h1 : setB a = true) (h2 : setB b = true) : meetL a b = accA (fun x => decide (x ∈ b)) a a.length := by unfold meetL accA; rw [h1, h2, List.take_length]; rfl
/-! ### Meet -/
set_option maxHeartbeats 2000000 in
set_option maxRecDepth 100000 in
theorem specMeet (va vb : Value) (a b : List Int) (w : World) (ha : Ints w va a) (hb : Ints w vb b) (na : a.length ≤ 1048576) (nb : b.length ≤ 1048576) :
  Calls Tryd.prog 13 #[va, vb] w (Fresh w (meetL a b)) := by
 have HA := Lib.hid ha
 have HB := Lib.hid hb
 have NA := Lib.hid na
 have NB := Lib.hid nb
 obtain ⟨ao, cap, hva⟩ := ints_len ha
 clear ha hb nb
 by_cases hsa : setB a = true
 ·
  by_cases hsb : setB b = true
  ·
   have HU := Lib.hid (meet_yes hsa hsb)
   have SA := Lib.hid hsa
   have SB := Lib.hid hsb
   clear hsa hsb
   generalize hp : (fun x => decide (x ∈ b)) = p at HU
   have HP := Lib.hid hp
   clear hp
   subst hva
   go_enter Tryd.func13, Tryd.ntmps13
   go_wp2
   go_loopw [5, 6] (fun v i wr => ∃ k : Nat, k ≤ a.length ∧ i = .int .i64 k ∧ OwnsN wr w.heap.size v (accA p a k) ∧ Below w.heap.size w wr) (fun _ i _ => a.length - (intOf i).toNat)
   case atStart => exact ⟨0, Nat.zero_le _, rfl, ownsN_lit w _ (Nat.le_refl _) #[] 0 [] rfl rfl (by decide), (Below.refl _ _).alloc (Nat.le_refl _) _⟩
   case round =>
    obtain ⟨k, hk, rfl, hown, hbel⟩ := hrel
    by_cases hlt : k < a.length
    ·
     have HL := Lib.hid (accA_len p a k)
     have HK := Lib.hid (congrFun HP.out (a.getD k 0))
     have i1 : (0 : Int) ≤ (k : Int) := by omega
     have i2 : (k : Int) < (a.length : Int) := by omega
     go_wp2_with fail
     refine (specIsSet _ a _ (ints_below HA.out hbel) NA.out).mono ?_
     rintro e w1 ⟨rfl, hb1⟩
     rw [SA.out]
     have hown1 := ownsN_below hown hb1
     have hbel1 := hbel.trans (hb1.mono hbel.size)
     clear hown hbel hb1
     go_wp2_with fail
     refine (specIsSet vb b _ (ints_below HB.out hbel1) NB.out).mono ?_
     rintro e w2 ⟨rfl, hb2⟩
     rw [SB.out]
     have hown2 := ownsN_below hown1 hb2
     have hbel2 := hbel1.trans (hb2.mono hbel1.size)
     have hB2 := hbel2.size
     clear hown1 hbel1 hb2
     obtain ⟨bb, off, cap', hv, hbl, hc⟩ := ints_cell HA.out (by omega)
     simp only [Value.slice.injEq] at hv
     obtain ⟨rfl, _, rfl⟩ := hv
     have hcell := (hbel2.cell (p := ⟨bb, off + k, none⟩) hbl).trans (hc k hlt)
     have HYES := Lib.hid (fun h => accA_yes (p := p) hlt h)
     have HNO := Lib.hid (fun h => accA_no (p := p) hlt h)
     clear hc
     generalize a.getD k 0 = y at hcell HK HYES HNO
     go_wp2_with fail
     refine (specHas vb b y _ (ints_below HB.out hbel2) NB.out).mono ?_
     rintro e w3 ⟨rfl, rfl⟩
     cases hmb : decide (y ∈ b) with
     | true =>
      have HT : Hid (p y = true) := Lib.hid (by rw [← HK.out]; simp [hmb])
      clear hmb
      go_wp2_with (at_builtin; refine append_ints rfl (.tmp 28) (.tmp 33) rfl w.heap.size _ _ rfl hown2 hB2 _ [y] 1 _ rfl (by first | rfl | (simp; done)) rfl (by have := HL.out; have := NA.out; simp; omega) ?_)
      intro v' w4 hown3 hb3
      rw [HYES.out HT.out] at hown3
      have hb4 := hbel2.trans hb3
      clear hown2 hbel2 hb3 hcell
      go_wp2
      go_roundw
      case rel => exact ⟨k + 1, by omega, by go_num, hown3, hb4⟩
      case measure => simp [intOf]; omega
     | false =>
      have HT : Hid (p y = false) := Lib.hid (by rw [← HK.out]; simp [hmb])
      clear hmb
      rw [HNO.out HT.out] at hown2
      go_wp2
      go_roundw
      case rel => exact ⟨k + 1, by omega, by go_num, hown2, hbel2⟩
      case measure => simp [intOf]; omega
    ·
     obtain rfl : k = a.length := by omega
     rw [← HU.out] at hown
     go_wp2
     go_ret
     exact ⟨_, rfl, hown, hbel⟩
  ·
   have HE := Lib.hid (meet_no (a := a) (b := b) (by simp [hsb]))
   have SA := Lib.hid hsa
   have SB := Lib.hid (show setB b = false by simpa using hsb)
   clear hsa hsb
   rw [HE.out]
   subst hva
   go_enter Tryd.func13, Tryd.ntmps13
   go_wp2
   have hown := ownsN_lit w w.heap.size (Nat.le_refl _) #[] 0 [] rfl rfl (by decide)
   have hbel := (Below.refl w.heap.size w).alloc (Nat.le_refl _) (.cells #[] 3)
   generalize w.alloc (.cells #[] 3) = w0 at hown hbel ⊢
   go_loopw [5, 6] (fun v i wr => wr = w0 ∧ i = .int .i64 0 ∧ v = .slice (some ⟨w.heap.size, 0, none⟩) 0 0) (fun _ _ _ => 0)
   case atStart => exact ⟨rfl, rfl, rfl⟩
   case round =>
    obtain ⟨rfl, rfl, rfl⟩ := hrel
    by_cases hl : 0 < a.length
    ·
     go_wp2_with fail
     refine (specIsSet _ a _ (ints_below HA.out hbel) NA.out).mono ?_
     rintro e w1 ⟨rfl, hb1⟩
     rw [SA.out]
     have hown1 := ownsN_below hown hb1
     have hbel1 := hbel.trans (hb1.mono hbel.size)
     clear hown hbel hb1
     go_wp2_with fail
     refine (specIsSet vb b _ (ints_below HB.out hbel1) NB.out).mono ?_
     rintro e w2 ⟨rfl, hb2⟩
     rw [SB.out]
     have hown2 := ownsN_below hown1 hb2
     have hbel2 := hbel1.trans (hb2.mono hbel1.size)
     clear hown1 hbel1 hb2
     go_wp2
     go_ret
     exact ⟨_, rfl, hown2, hbel2⟩
    ·
     have hl2 : ¬ ((0 : Int) < (a.length : Int)) := by omega
     go_wp2
     go_ret
     exact ⟨_, rfl, hown, hbel⟩
 ·
  have HE := Lib.hid (meet_no (a := a) (b := b) (by simp [hsa]))
  have SA := Lib.hid (show setB a = false by simpa using hsa)
  clear hsa
  rw [HE.out]
  subst hva
  go_enter Tryd.func13, Tryd.ntmps13
  go_wp2
  have hown := ownsN_lit w w.heap.size (Nat.le_refl _) #[] 0 [] rfl rfl (by decide)
  have hbel := (Below.refl w.heap.size w).alloc (Nat.le_refl _) (.cells #[] 3)
  generalize w.alloc (.cells #[] 3) = w0 at hown hbel ⊢
  go_loopw [5, 6] (fun v i wr => wr = w0 ∧ i = .int .i64 0 ∧ v = .slice (some ⟨w.heap.size, 0, none⟩) 0 0) (fun _ _ _ => 0)
  case atStart => exact ⟨rfl, rfl, rfl⟩
  case round =>
   obtain ⟨rfl, rfl, rfl⟩ := hrel
   by_cases hl : 0 < a.length
   ·
    go_wp2_with fail
    refine (specIsSet _ a _ (ints_below HA.out hbel) NA.out).mono ?_
    rintro e w1 ⟨rfl, hb1⟩
    rw [SA.out]
    have hown1 := ownsN_below hown hb1
    have hbel1 := hbel.trans (hb1.mono hbel.size)
    clear hown hbel hb1
    go_wp2
    go_ret
    exact ⟨_, rfl, hown1, hbel1⟩
   ·
    have hl2 : ¬ ((0 : Int) < (a.length : Int)) := by omega
    go_wp2
    go_ret
    exact ⟨_, rfl, hown, hbel⟩
/-! ### Sub -/
/-- What the table of types says of the element. -/
def ElemInfo {α : Type} (T : Ty α) (e : TypeId) (z : Value) : Prop := ∃ i, Tryd.prog.info? e = some i ∧ i.zero = some z ∧ i.size = T.n ∧ i.bytes ≤ 512
theorem elemInfo_of {α : Type} {T : Ty α} {e : TypeId} {z : Value} (h : (Tryd.prog.info? e).map (fun i => (i.zero, i.size, decide (i.bytes ≤ 512))) = some (some z, T.n, true)) : ElemInfo T e z := by
 cases q : Tryd.prog.info? e with
 | none => rw [q] at h; simp at h
 | some i => rw [q] at h; simp only [Option.map_some, Option.some.injEq, Prod.mk.injEq, decide_eq_true_eq] at h; exact ⟨i, q, h.1, h.2.1, h.2.2⟩
theorem addr_add0 (b j : Nat) : (⟨b, 0, none⟩ : Addr).add j = ⟨b, j, none⟩ := by unfold Addr.add; split <;> simp_all
theorem addr_add (b o j : Nat) : (⟨b, o, none⟩ : Addr).add j = ⟨b, o + j, none⟩ := by unfold Addr.add; split <;> simp_all
/-- The blocks of what was there, as the append leaves them. -/
theorem grown_alloc {w w' : World} {o : Obj} {row : Option Nat} (h : (w.alloc o).grownBy w' row) : w.grownBy w' row := by
 have hg := World.grownBy_alloc w o row
 exact ⟨h.os.trans hg.os, h.tape.trans hg.tape, h.output.trans hg.output, Nat.le_trans hg.size h.size, fun k hk hne => (h.block k (Nat.lt_of_lt_of_le hk hg.size) hne).trans (hg.block k hk hne)⟩
theorem run_append_T {α : Type} {T : Ty α} (A : T.Law) {e t : TypeId} {z : Value} (I : ElemInfo T e z) (ht : Tryd.prog.underlying t = some (.slice e)) (hz : z.cells.size = T.n)
  {w : World} (ty : TypeId) (F : Nat → Prop) (D : Nat) (v : Value) (xs : List α) (hown : SlO e T w (fun b => F b ∧ b < D) v xs) (hD : D ≤ w.heap.size) (hf : ∀ b, D ≤ b → F b) (hn : xs.length ≤ 1048576)
  (cs : List Value) (x0 : α) (hnew : T.O w (fun b => D ≤ b) cs x0) (h1 : ∀ u ∈ cs, u.oneCell' = true) (c : Nat) :
  ∃ v' w', (Builtin.append_ #[t, t] ty #[v, .slice (some ⟨w.heap.size, 0, none⟩) 1 c]).run Tryd.prog (w.alloc (.cells cs.toArray e)) = .ok v' w' ∧ SlO e T w' F v' (xs ++ [x0]) ∧ Turn (fun b => F b ∧ b < D) w w' := by
 obtain ⟨i0, hi, hz0, hz1, hz2⟩ := I
 obtain ⟨L, us, Fs, g1, g2, g3, g4⟩ := slO_lt A hown
 have hcl : cs.length = T.n := A.len (A.reads hnew)
 have hpos := A.pos
 have hb : (xs.length + 1) * i0.bytes ≤ 1048577 * 512 := Nat.mul_le_mul (by omega) hz2
 obtain ⟨v', w', hr, k1, k2, _, k4⟩ := run_append_own_at (P := Tryd.prog) (w.alloc (.cells cs.toArray e)) 0 t ty e i0 z T.n i0.bytes ht hi hz0 hz1 rfl hz hpos v xs.length _ (g1.alloc _) ⟨w.heap.size, 0, none⟩ 1 c cs (by omega) (fun j u hj => by
  rw [addr_add0, cell_of_row _ w.heap.size j cs.toArray e (0, 0) (heap_alloc_new w _)]
  simpa using hj) h1 (by unfold maxLen; omega) (by omega) (Nat.zero_le _)
 have k5 := grown_alloc k2
 have hv : ∀ b, v.ownBlock = some b → F b ∧ b < D := fun b hb => (g2 b hb).1
 have hsz : (w.alloc (.cells cs.toArray e)).heap.size = w.heap.size + 1 := by simp [World.size_alloc]
 refine ⟨v', w', hr, ?_, turn_grown k5 hv⟩
 refine slO_app (F := F) (Fn := fun b => D ≤ b ∧ b < w.heap.size) A (fun b hb => (hv b hb).1) (fun j hj => ⟨(g3 j hj).1, (g3 j hj).2.1, fun b hb => ⟨⟨((g3 j hj).2.2 b hb).1.1.1, ((g3 j hj).2.2 b hb).1.2⟩, ((g3 j hj).2.2 b hb).2⟩⟩) g4 g1.1 k1 k5 (fun b hb => ?_) (A.lt hnew) hcl (fun b hb => ⟨hf b hb.1, hb.2, fun q => ?_, fun j hj q => ?_⟩)
 ·
  rcases k4 with q | q
  ·
   exact Or.inl (q ▸ hb)
  ·
   rw [q, hsz] at hb
   have := Option.some.inj hb
   exact Or.inr ⟨by omega, hf b (by omega)⟩
 ·
  have := (hv b q).2; omega
 ·
  have := ((g3 j hj).2.2 b q).1.1.2; omega
theorem append_T {α : Type} {T : Ty α} (A : T.Law) {e t : TypeId} {z : Value} (I : ElemInfo T e z) (ht : Tryd.prog.underlying t = some (.slice e)) (hz : z.cells.size = T.n)
  {w : World} {ops : Array Oper} {rest : List Oper} {o : Oper} {a : Act} {Q : Exit → Act → World → Prop} (hgd : o.guard = none) (s x : Operand)
  (ho : o.op = .call { callee := .builtin .append, args := #[s, x], argTypes := #[t, t] })
  (F : Nat → Prop) (D : Nat) (v : Value) (xs : List α) (hs : a.eval s = v) (hown : SlO e T w (fun b => F b ∧ b < D) v xs) (hD : D ≤ w.heap.size) (hf : ∀ b, D ≤ b → F b) (hn : xs.length ≤ 1048576)
  (cs : List Value) (x0 : α) (hnew : T.O w (fun b => D ≤ b) cs x0) (h1 : ∀ u ∈ cs, u.oneCell' = true) (c g0 : Nat) (hx : a.eval x = .slice (some ⟨g0, 0, none⟩) 1 c) (hg0 : g0 = w.heap.size)
  (h : ∀ v' w', SlO e T w' F v' (xs ++ [x0]) → Turn (fun b => F b ∧ b < D) w w' → wpList Tryd.prog ops Q rest (a.put o.dst v') w') : wpList Tryd.prog ops Q (o :: rest) a (w.alloc (.cells cs.toArray e)) := by
 subst hg0
 refine wpList_plain hgd fun K hK => ?_
 obtain ⟨v', w', hr, h2, h3⟩ := run_append_T A I ht hz o.type F D v xs hown hD hf hn cs x0 hnew h1 c
 unfold Oper.wp execOp
 simp only [ho, resolve, invoke, builtin, Sem.run_bind, Sem.run_pure, Result.andThen_ok, List.map_toArray, List.map_cons, List.map_nil, hs, hx, hr]
 exact hK _ _ (h v' w' h2 h3)
theorem step_append_T {α : Type} {T : Ty α} (A : T.Law) {e t : TypeId} {z : Value} (I : ElemInfo T e z) (ht : Tryd.prog.underlying t = some (.slice e)) (hz : z.cells.size = T.n)
  {w : World} {ops : Array Oper} {o : Oper} {a : Act} {K : Act → World → Prop} {Q : Exit → Act → World → Prop} {E : Prop} (hwa : Region.wanted o (yielded ops a.tmps) = true) (s x : Operand)
  (ho : o.op = .call { callee := .builtin .append, args := #[s, x], argTypes := #[t, t] })
  (F : Nat → Prop) (D : Nat) (v : Value) (xs : List α) (hs : a.eval s = v) (hown : SlO e T w (fun b => F b ∧ b < D) v xs) (hD : D ≤ w.heap.size) (hf : ∀ b, D ≤ b → F b) (hn : xs.length ≤ 1048576)
  (cs : List Value) (x0 : α) (hnew : T.O w (fun b => D ≤ b) cs x0) (h1 : ∀ u ∈ cs, u.oneCell' = true) (c g0 : Nat) (hx : a.eval x = .slice (some ⟨g0, 0, none⟩) 1 c) (hg0 : g0 = w.heap.size)
  (h : ∀ v' w', SlO e T w' F v' (xs ++ [x0]) → Turn (fun b => F b ∧ b < D) w w' → K (a.put o.dst v') w') : if Region.wanted o (yielded ops a.tmps) = true then Oper.wp Tryd.prog o a (w.alloc (.cells cs.toArray e)) K Q else E := by
 subst hg0
 rw [if_pos hwa]
 obtain ⟨v', w', hr, h2, h3⟩ := run_append_T A I ht hz o.type F D v xs hown hD hf hn cs x0 hnew h1 c
 unfold Oper.wp execOp
 simp only [ho, resolve, invoke, builtin, Sem.run_bind, Sem.run_pure, Result.andThen_ok, List.map_toArray, List.map_cons, List.map_nil, hs, hx, hr]
 exact h v' w' h2 h3
/-- The cells of a slice that is read, in a row. -/
theorem slR_cells {α : Type} {T : Ty α} {w : World} {b off cap m : Nat} {xs : List α} (A : T.Law) (h : SlR T w (.slice (some ⟨b, off, none⟩) m cap) xs) (hp : 0 < xs.length) :
  m = xs.length ∧ b < w.heap.size ∧ ∃ L : List Value, L.length = xs.length * T.n ∧ (∀ j u, L[j]? = some u → w.cell? ⟨b, off + j, none⟩ = some u) ∧ ∀ j, j < xs.length → ∃ cs, T.R w cs (xs.getD j T.d) ∧ ∀ i, i < T.n → L[j * T.n + i]? = cs[i]? := by
 rcases h with ⟨rfl, _⟩ | ⟨b', off', cap', us, hv, h2, h3, h4⟩
 ·
  simp at hp
 ·
  simp only [Value.slice.injEq, Option.some.injEq, Addr.mk.injEq] at hv
  obtain ⟨⟨rfl, rfl, _⟩, rfl, rfl⟩ := hv
  have hpos := A.pos
  have hlen : ∀ j, j < xs.length → (us j).length = T.n := fun j hj => A.len (h4 j hj).2
  refine ⟨rfl, h3, (List.range (xs.length * T.n)).map (fun k => (us (k / T.n)).getD (k % T.n) undef), by simp, fun j u hj => ?_, fun j hj => ⟨us j, (h4 j hj).2, fun i hi => ?_⟩⟩
  ·
   have hjl : j < xs.length * T.n := by
    have := (List.getElem?_eq_some_iff.1 hj).1
    simpa using this
   rw [List.getElem?_map, List.getElem?_range hjl] at hj
   simp only [Option.map_some, Option.some.injEq] at hj
   have hq : j / T.n < xs.length := (Nat.div_lt_iff_lt_mul hpos).2 hjl
   have hm : j % T.n < T.n := Nat.mod_lt _ hpos
   have e : off + j / T.n * T.n + j % T.n = off + j := by
    have := Nat.div_add_mod j T.n
    rw [Nat.mul_comm] at this; omega
   have hc := (h4 _ hq).1 _ hm
   rw [e, List.getElem?_eq_getElem (by rw [hlen _ hq]; exact hm)] at hc
   rw [hc, ← hj]
   simp [List.getD, hlen _ hq, hm]
  ·
   have hlt : j * T.n + i < xs.length * T.n := by
    have : (j + 1) * T.n ≤ xs.length * T.n := Nat.mul_le_mul_right _ hj
    rw [Nat.add_mul, Nat.one_mul] at this; omega
   have e1 : (j * T.n + i) / T.n = j := by rw [Nat.mul_comm, Nat.mul_add_div hpos, Nat.div_eq_of_lt hi]; omega
   have e2 : (j * T.n + i) % T.n = i := by rw [Nat.mul_comm, Nat.mul_add_mod, Nat.mod_eq_of_lt hi]
   rw [List.getElem?_map, List.getElem?_range hlt]
   simp only [Option.map_some, e1, e2]
   rw [List.getElem?_eq_getElem (by rw [hlen j hj]; exact hi)]
   simp [List.getD, hlen j hj, hi]
/-- Plain data: what is read may be owned. -/
def Flat {α : Type} (T : Ty α) : Prop := (∀ {w w' : World} {F : Nat → Prop} {cs : List Value} {x : α}, T.R w cs x → T.O w' F cs x) ∧ ∀ {w : World} {cs : List Value} {x : α}, T.R w cs x → ∀ u ∈ cs, u.oneCell' = true
theorem flat_int : Flat tInt := ⟨fun h => h, fun h u hu => by rw [show _ = [Value.int .i64 _] from h] at hu; simp at hu; rw [hu]; rfl⟩
/-- What lies in slices of plain data that the call made, element by element. -/
theorem slO_flat {α : Type} {T : Ty α} (A : T.Law) (hfl : Flat T) {e : TypeId} {w : World} {F : Nat → Prop} {v : Value} {xs : List α} {L : List Value} {B : Nat} (h : w.ownsRow B e T.n v xs.length L) (hF : ∀ b, v.ownBlock = some b → F b)
  (hL : ∀ j, j < xs.length → ∃ cs, T.R w cs (xs.getD j T.d) ∧ ∀ i, i < T.n → L[j * T.n + i]? = cs[i]?) : SlO e T w F v xs := by
 haveI : Inhabited (List Value) := ⟨[]⟩
 obtain ⟨f, hf⟩ := Go.Deep.choose_lt (α := List Value) (n := xs.length) (p := fun j cs => T.R w cs (xs.getD j T.d) ∧ ∀ i, i < T.n → L[j * T.n + i]? = cs[i]?) hL
 exact ⟨L, f, fun _ _ => False, row_low h (Nat.zero_le _), hF, fun j hj => ⟨(hf j hj).2, hfl.1 (hf j hj).1, fun b hb => False.elim hb⟩, fun i j _ _ _ b hb => False.elim hb⟩
theorem run_append_flat {α : Type} {T : Ty α} (A : T.Law) (hfl : Flat T) {e t : TypeId} {z : Value} (I : ElemInfo T e z) (ht : Tryd.prog.underlying t = some (.slice e)) (hz : z.cells.size = T.n)
  {w : World} {F0 F : Nat → Prop} {v u : Value} {xs ys : List α} (ty : TypeId) (hown : SlO e T w F0 v xs) (hu : SlR T w u ys) (h0 : ∀ b, F0 b → F b) (hf : F w.heap.size) (h63 : xs.length + ys.length ≤ 2097152) :
  ∃ v' w', (Builtin.append_ #[t, t] ty #[v, u]).run Tryd.prog w = .ok v' w' ∧ SlO e T w' F v' (xs ++ ys) ∧ w.grownBy w' v.ownBlock := by
 obtain ⟨i0, hi, hz0, hz1, hz2⟩ := I
 have hpos := A.pos
 by_cases hp : 0 < ys.length
 ·
  obtain ⟨a', cap', rfl⟩ := slR_len hu
  rcases hu with ⟨rfl, _⟩ | hu'
  ·
   simp at hp
  ·
   have hu : SlR T w (.slice a' ys.length cap') ys := Or.inr hu'
   obtain ⟨b, off, cap2, us, hv, _⟩ := hu'
   simp only [Value.slice.injEq] at hv
   obtain ⟨rfl, _, rfl⟩ := hv
   obtain ⟨_, hbl, N, hN, hNc, hNr⟩ := slR_cells A hu hp
   obtain ⟨L, us2, Fs, g1, g2, g3, g4⟩ := hown
   have hb : (xs.length + ys.length) * i0.bytes ≤ 2097152 * 512 := Nat.mul_le_mul h63 hz2
   obtain ⟨v', w', hr, k1, k2, _, k4⟩ := run_append_own_at (P := Tryd.prog) w 0 t ty e i0 z T.n i0.bytes ht hi hz0 hz1 rfl hz hpos v xs.length _ g1 ⟨b, off, none⟩ ys.length cap' N hN (fun j q hj => by rw [addr_add]; exact hNc j q hj) (fun q hq => by
    obtain ⟨k, hk, rfl⟩ := List.getElem_of_mem hq
    have hkl : k < ys.length * T.n := by omega
    have hq : k / T.n < ys.length := (Nat.div_lt_iff_lt_mul hpos).2 hkl
    have hm : k % T.n < T.n := Nat.mod_lt _ hpos
    obtain ⟨cs, hR, hc⟩ := hNr _ hq
    have e1 : k / T.n * T.n + k % T.n = k := by
     have := Nat.div_add_mod k T.n
     rw [Nat.mul_comm] at this; exact this
    have h5 := hc _ hm
    rw [e1, List.getElem?_eq_getElem hk, List.getElem?_eq_getElem (by rw [A.len hR]; exact hm)] at h5
    rw [Option.some.inj h5]
    exact hfl.2 hR _ (List.getElem_mem _)) (by unfold maxLen; omega) (by omega) (Nat.zero_le _)
   refine ⟨v', w', hr, ?_, k2⟩
   have hLl : L.length = xs.length * T.n := g1.1
   refine slO_flat A hfl (by rw [List.length_append]; exact k1) (fun c hc => ?_) (fun j hj => ?_)
   ·
    rcases k4 with q | q
    ·
     exact h0 c (g2 c (q ▸ hc))
    ·
     rw [q] at hc; rw [← Option.some.inj hc]; exact hf
   ·
    rw [List.length_append] at hj
    by_cases hlt : j < xs.length
    ·
     have er : (xs ++ ys).getD j T.d = xs.getD j T.d := by simp [List.getD, List.getElem?_append_left hlt]
     obtain ⟨c1, c2, _⟩ := g3 j hlt
     refine ⟨us2 j, by rw [er]; exact A.reads (hfl.1 (w' := w') (F := F) (A.reads c2)), fun i hi => ?_⟩
     have hl2 : j * T.n + i < L.length := by
      have : (j + 1) * T.n ≤ xs.length * T.n := Nat.mul_le_mul_right _ hlt
      rw [Nat.add_mul, Nat.one_mul] at this; omega
     rw [List.getElem?_append_left hl2]
     exact c1 i hi
    ·
     obtain ⟨m, rfl⟩ : ∃ m, j = xs.length + m := ⟨j - xs.length, by omega⟩
     have hm : m < ys.length := by omega
     have er : (xs ++ ys).getD (xs.length + m) T.d = ys.getD m T.d := by simp [List.getD, List.getElem?_append_right]
     obtain ⟨cs, hR, hc⟩ := hNr m hm
     refine ⟨cs, by rw [er]; exact A.reads (hfl.1 (w' := w') (F := F) hR), fun i hi => ?_⟩
     have e1 : (xs.length + m) * T.n + i = L.length + (m * T.n + i) := by rw [hLl, Nat.add_mul]; omega
     rw [e1, List.getElem?_append_right (by omega), Nat.add_sub_cancel_left]
     exact hc i hi
 ·
  have hy : ys = [] := List.eq_nil_of_length_eq_zero (by omega)
  subst hy
  obtain ⟨a', cap', rfl⟩ := slR_len hu
  have hs : Src Tryd.prog i0.size t (.slice a' 0 cap') 0 [] w := by
   cases a' with
   | none => exact Src.ofNil w ht cap'
   | some ad => exact Src.ofSlice w ht ad 0 cap' [] (by simp) (by simp) (by simp)
  obtain ⟨a, cap, hv, hle⟩ : ∃ a cap, v = .slice a xs.length cap ∧ xs.length ≤ cap := by
   obtain ⟨L, us2, Fs, g1, _⟩ := hown
   rcases g1.2 with ⟨rfl, q⟩ | ⟨g, cap, cur, rfl, _, _, hn, _⟩
   ·
    exact ⟨none, 0, by rw [q], by omega⟩
   ·
    exact ⟨_, cap, rfl, hn⟩
  subst hv
  exact ⟨_, _, run_append_nothing w t t ty e i0 ht hi a xs.length cap hle _ hs, by rw [List.append_nil]; exact slO_mono hown h0, World.grownBy.refl _ _⟩
theorem step_append_flat {α : Type} {T : Ty α} (A : T.Law) (hfl : Flat T) {e t : TypeId} {z : Value} (I : ElemInfo T e z) (ht : Tryd.prog.underlying t = some (.slice e)) (hz : z.cells.size = T.n)
  {w : World} {ops : Array Oper} {o : Oper} {a : Act} {K : Act → World → Prop} {Q : Exit → Act → World → Prop} {E : Prop} (hwa : Region.wanted o (yielded ops a.tmps) = true) (s x : Operand)
  (ho : o.op = .call { callee := .builtin .append, args := #[s, x], argTypes := #[t, t] })
  (F0 F : Nat → Prop) (v u : Value) (xs ys : List α) (hs : a.eval s = v) (hx : a.eval x = u) (hown : SlO e T w F0 v xs) (hu : SlR T w u ys) (h0 : ∀ b, F0 b → F b) (hf : F w.heap.size) (h63 : xs.length + ys.length ≤ 2097152)
  (h : ∀ v' w', SlO e T w' F v' (xs ++ ys) → Turn F0 w w' → K (a.put o.dst v') w') : if Region.wanted o (yielded ops a.tmps) = true then Oper.wp Tryd.prog o a w K Q else E := by
 rw [if_pos hwa]
 have hblk : ∀ b, v.ownBlock = some b → F0 b := by obtain ⟨L, us2, Fs, g1, g2, _⟩ := hown; exact g2
 obtain ⟨v', w', hr, h2, h3⟩ := run_append_flat A hfl I ht hz o.type hown hu h0 hf h63
 unfold Oper.wp execOp
 simp only [ho, resolve, invoke, builtin, Sem.run_bind, Sem.run_pure, Result.andThen_ok, List.map_toArray, List.map_cons, List.map_nil, hs, hx, hr]
 exact h v' w' h2 (turn_grown h3 hblk)
/-- 'T{}' as a slice: no element yet. -/
theorem slO_empty {α : Type} {T : Ty α} (w : World) (e : TypeId) (F : Nat → Prop) (h : F w.heap.size) : SlO e T (w.alloc (.cells #[] e)) F (.slice (some ⟨w.heap.size, 0, none⟩) 0 0) [] := by
 refine ⟨[], fun _ => [], fun _ _ => False, ?_, fun b hb => ?_, fun j hj => by simp at hj, fun i j hi => by simp at hi⟩
 ·
  have := World.ownsRow_made (base := 0) (e := e) (size := T.n) w #[] 0 (Nat.zero_le _) (by unfold maxLen; omega) (by simp)
  exact this
 ·
  simp [Value.ownBlock] at hb; rw [← hb]; exact h
theorem info_T_int : ElemInfo tInt 3 (.int .i64 0) := elemInfo_of (by kernel_rfl)
theorem info_T_Cond : ElemInfo tCond 124 (.agg #[.int .i64 0, .int .i64 0, .int .i64 0]) := elemInfo_of (by kernel_rfl)
theorem flat_Cond : Flat tCond := ⟨fun {w w' F cs x} h => by
 obtain ⟨a, b, c⟩ := x
 rw [tCond_R h]
 exact tCond_mkO, fun {w cs x} h u hu => by
 obtain ⟨a, b, c⟩ := x
 rw [tCond_R h] at hu
 simp at hu
 rcases hu with rfl | rfl | rfl <;> rfl⟩
end Go.Proofs.YtededfficggkaaaDoor
