/-
 Texts of the proof, merged: RowAre, RowLess, RowCopy, RowIns, RowInsM, RowSort, RowOrd, RowEqP, RowCmp, RowCopyP, RowDraw, AnswerSpec, RowsDraw, QueryDraw.
-/
import Derived.Test.YtededfficggkaaaDoorI2
import Derived.Test.YtededfficggkaaaDoorI3
import Derived.Test.YtededfficggkaaaDoorI4
import Derived.Test.YtededfficggkaaaDoorI6
import Derived.Test.YtededfficggkaaaDoorI7
import Derived.Test.YtededfficggkaaaDoorShI
import Derived.Maps.AppendAt
import Derived.Lib.Small
import Derived.Sort.Grow
import Derived.Lib.MinMax
namespace Go.Proofs.YtededfficggkaaaDoor
open Go.RowKit
set_option linter.unusedVariables false
set_option linter.unusedSimpArgs false
/-- The cells of a slice of rows that the call made. -/
def RowsC (w : World) (B : Nat) (v : Value) (n : Nat) (cs : List Value) : Prop := w.ownsRow B 51 2 v n cs
theorem info_row : ∃ i, Tryd.prog.info? 51 = some i ∧ i.zero = some (.agg #[.int .i64 0, .slice none 0 0]) ∧ i.size = 2 ∧ i.bytes = 32 := by
 have h1 := Tryd.infoRow
 have h2 := row_bytes
 cases e : Tryd.prog.info? 51 with
 | none => rw [e] at h1; simp at h1
 | some i => rw [e] at h1 h2; simp at h1 h2; exact ⟨i, rfl, h1.1, h1.2, h2⟩
/-- 'append(x, ..)' of m rows whose cells lie at ad. -/
theorem append_rows {w : World} {ops : Array Oper} {rest : List Oper} {o : Oper} {a : Act} {Q : Exit → Act → World → Prop} (hgd : o.guard = none) (s x : Operand)
  (ho : o.op = .call { callee := .builtin .append, args := #[s, x], argTypes := #[65, 65] })
  (B : Nat) (v : Value) (n : Nat) (cs : List Value) (hs : a.eval s = v) (hown : RowsC w B v n cs) (hB : B ≤ w.heap.size)
  (ad : Addr) (m c : Nat) (news : List Value) (hx : a.eval x = .slice (some ad) m c) (hl : news.length = m * 2) (hnews : ∀ j u, news[j]? = some u → w.cell? (ad.add j) = some u) (h1 : ∀ u ∈ news, u.oneCell' = true) (h63 : n + m ≤ 2097152)
  (h : ∀ v' w', RowsC w' B v' (n + m) (cs ++ news) → w.grownBy w' v.ownBlock → (v' = .slice none 0 0 ↔ v = .slice none 0 0 ∧ m = 0) → (v'.ownBlock = v.ownBlock ∨ v'.ownBlock = some w.heap.size) → wpList Tryd.prog ops Q rest (a.put o.dst v') w') : wpList Tryd.prog ops Q (o :: rest) a w := by
 obtain ⟨i0, hi, hz0, hz1, hz2⟩ := info_row
 exact wpList_append_own_at _ hgd s x 65 ho B 51 i0 (.agg #[.int .i64 0, .slice none 0 0]) 2 32 Tryd.underlying65 hi hz0 hz1 hz2 rfl (by decide) v n cs hs hown ad m c news hx hl hnews h1 (by unfold maxLen; omega) (by omega) hB h
theorem rowsC_kept {w w' : World} {B : Nat} {v : Value} {n : Nat} {cs : List Value} (h : RowsC w B v n cs) (hb : Below w.heap.size w w') : RowsC w' B v n cs := ownsRow_below h hb
theorem ownsR_empty (w : World) : OwnsR (w.alloc (.cells #[] 51)) w.heap.size (.slice (some ⟨w.heap.size, 0, none⟩) 0 0) [] := by
 refine ⟨[], fun _ => .slice none 0 0, ?_, fun j hj => by simp at hj, fun i j hi => by simp at hi⟩
 exact World.ownsRow_lit (e := 51) (size := 2) w #[] 0 (Nat.le_refl _) (by unfold maxLen; omega) rfl
/-! The program's comparison: a number below zero, zero, or above zero. -/
/-- 'append(out, xs...)' of the numbers of a slice that came from anywhere. -/
theorem wpl_append_ints {w : World} {ops : Array Oper} {rest : List Oper} {o : Oper} {a : Act} {Q : Exit → Act → World → Prop} (hgd : o.guard = none) (s x : Operand)
  (ho : o.op = .call { callee := .builtin .append, args := #[s, x], argTypes := #[24, 24] })
  (B : Nat) (v u : Value) (xs ys : List Int) (hs : a.eval s = v) (hx : a.eval x = u) (hown : OwnsN w B v xs) (hu : Ints w u ys) (hB : B ≤ w.heap.size) (h63 : xs.length + ys.length ≤ 17592186044416)
  (h : ∀ v' w', OwnsN w' B v' (xs ++ ys) → Below B w w' → wpList Tryd.prog ops Q rest (a.put o.dst v') w') : wpList Tryd.prog ops Q (o :: rest) a w := by
 refine wpList_plain hgd fun K hK => ?_
 obtain ⟨v', w', hr, h2, h3⟩ := run_append_ints o.type hown hu hB h63
 unfold Oper.wp
 simp [execOp, ho, resolve, invoke, builtin, hs, hx, hr, Result.andThen]
 exact hK _ _ (h v' w' h2 h3)
/-- The cursor goes on from w to wr; of what was there only the cursor turned. -/
structure Dr (w0 : World) (c : Nat) (v : Value) (xs : List Int) (w wr : World) : Prop where
 cur : Cur w0 c v xs wr
 gr : w.grownBy wr (some c)
 lt : c < w.heap.size
 low : w0.heap.size ≤ w.heap.size
theorem grownBy_refl (w : World) (r : Option Nat) : w.grownBy w r := ⟨rfl, rfl, rfl, Nat.le_refl _, fun _ _ _ => rfl⟩
theorem Dr.start {w0 : World} {c : Nat} {v : Value} {xs : List Int} {w : World} (h : Cur w0 c v xs w) : Dr w0 c v xs w w := ⟨h, grownBy_refl _ _, cur_lt h, h.old.size⟩
theorem Dr.alloc {w0 : World} {c : Nat} {v : Value} {xs : List Int} {w wr : World} (h : Dr w0 c v xs w wr) (o : Obj) : Dr w0 c v xs w (wr.alloc o) := ⟨cur_alloc h.cur o, grown_chain h.gr (World.grownBy_alloc wr o _), h.lt, h.low⟩
theorem Dr.call {w0 : World} {c : Nat} {v : Value} {xs : List Int} {w wr w' : World} (h : Dr w0 c v xs w wr) (hC : Cur w0 c v xs w') (hg : wr.grownBy w' (some c)) : Dr w0 c v xs w w' := ⟨hC, grown_chain h.gr hg, h.lt, h.low⟩
theorem Dr.below {w0 : World} {c : Nat} {v : Value} {xs : List Int} {w wr w' : World} {B : Nat} (h : Dr w0 c v xs w wr) (hb : Below B wr w') (hB : w.heap.size ≤ B) : Dr w0 c v xs w w' :=
 ⟨cur_below h.cur (Nat.lt_of_lt_of_le h.lt hB) (Nat.le_trans h.low hB) hb, grown_below h.gr (hb.mono hB), h.lt, h.low⟩
theorem Dr.set {w0 : World} {c : Nat} {v : Value} {xs : List Int} {w wr : World} (h : Dr w0 c v xs w wr) {R : Nat} (hR : w.heap.size ≤ R) (j : Nat) (u : Value) : Dr w0 c v xs w (wr.setCell ⟨R, j, none⟩ u) :=
 h.below ((Below.refl w.heap.size wr).setCell (p := ⟨R, j, none⟩) hR u) (Nat.le_refl _)
theorem Dr.size {w0 : World} {c : Nat} {v : Value} {xs : List Int} {w wr : World} (h : Dr w0 c v xs w wr) : w.heap.size ≤ wr.heap.size := h.gr.size
theorem Dr.ne {w0 : World} {c : Nat} {v : Value} {xs : List Int} {w wr : World} (h : Dr w0 c v xs w wr) {R : Nat} (hR : w.heap.size ≤ R) : R ≠ c := by have := h.lt; omega
/-- What the cursor's turning leaves alone. -/
theorem keep {w w' : World} {c k : Nat} {o : Obj} (hg : w.grownBy w' (some c)) (hne : k ≠ c) (h : w.heap[k]? = some o) : w'.heap[k]? = some o := (hg.block k (Array.getElem?_eq_some_iff.1 h).1 (fun e => hne (Option.some.inj e))).trans h
theorem keepA {w : World} {k : Nat} {o : Obj} (x : Obj) (h : w.heap[k]? = some o) : (w.alloc x).heap[k]? = some o := (Below.heap_alloc _ _ _ (Array.getElem?_eq_some_iff.1 h).1).trans h
theorem keepB {w w' : World} {B k : Nat} {o : Obj} (hb : Below B w w') (hk : k < B) (h : w.heap[k]? = some o) : w'.heap[k]? = some o := (hb.block k hk).trans h
def wides : List Int := [3, 6, 100]
theorem wides_in : ∀ x ∈ wides, 3 ≤ x ∧ x ≤ 100 := by decide
/-- A row is drawn, in new memory. -/
def DrawnRow (w0 : World) (c : Nat) (v : Value) (xs : List Int) (w : World) (e : Ending) (w' : World) : Prop :=
 ∃ (id : Int) (u : Value) (ys : List Int), e = .returned (.agg #[.int .i64 id, u]) ∧ OwnsN w' w.heap.size u ys ∧ ys.length ≤ 4 ∧ Dr w0 c v xs w w'
def DrawnRow3 (w0 : World) (c : Nat) (v : Value) (xs : List Int) (w : World) (e : Ending) (w' : World) : Prop :=
 ∃ (id : Int) (u : Value) (ys : List Int), e = .returned (.agg #[.int .i64 id, u]) ∧ OwnsN w' w.heap.size u ys ∧ ys.length = 3 ∧ Dr w0 c v xs w w'
set_option maxHeartbeats 4000000 in
set_option maxRecDepth 100000 in
theorem row_any (w0 : World) (c : Nat) (v : Value) (xs : List Int) (w : World) (hC : Cur w0 c v xs w) (id : Int) :
  Calls Tryd.prog 120 #[.pointer (some ⟨c, 0, none⟩), .int .i64 id] w (DrawnRow3 w0 c v xs w) := by
 have hD := (((Dr.start hC).alloc (.cells #[.int .i64 0, .slice none 0 0] 51)).alloc (.cells #[.int .i64 id, .slice none 0 0] 51)).alloc (.cells (wides.map (Value.int .i64)).toArray 3 (0, 0))
 have hz := keepA (.cells (wides.map (Value.int .i64)).toArray 3 (0, 0)) (keepA (.cells #[.int .i64 id, .slice none 0 0] 51) (heap_alloc_new w (.cells #[.int .i64 0, .slice none 0 0] 51)))
 have hb := keepA (.cells (wides.map (Value.int .i64)).toArray 3 (0, 0)) (heap_alloc_new (w.alloc (.cells #[.int .i64 0, .slice none 0 0] 51)) (.cells #[.int .i64 id, .slice none 0 0] 51))
 have hl := heap_alloc_new ((w.alloc (.cells #[.int .i64 0, .slice none 0 0] 51)).alloc (.cells #[.int .i64 id, .slice none 0 0] 51)) (.cells (wides.map (Value.int .i64)).toArray 3 (0, 0))
 simp only [World.size_alloc] at hb hl
 have hne : w.heap.size + 1 + 1 ≠ c := hD.ne (by omega)
 have HP := Lib.hid (pick_any w0 c v xs _ hD.cur (w.heap.size + 1 + 1) wides 3 100 wides_in (by decide) (by decide) hl hne)
 have HD := Lib.hid hD
 have HZ := Lib.hid hz
 have HB := Lib.hid hb
 clear hD hz hb hl hne hC
 go_enter Tryd.func120, Tryd.ntmps120
 go_wp2_with fail
 refine Calls.mono HP.out ?_
 rintro e w1 ⟨wd, d0, d1, rfl, hC1, hg1⟩
 have D1 := HD.out.call hC1 hg1
 have z1 := keep hg1 (HD.out.ne (Nat.le_refl _)) HZ.out
 have b1 := keep hg1 (HD.out.ne (by omega)) HB.out
 have s1 : w.heap.size + 1 + 1 ≤ w1.heap.size := by have := hg1.size; simp only [World.size_alloc] at this; omega
 clear hC1 hg1 HP HD HZ HB
 go_wp2
 go_loopw [7] (fun i wr => ∃ (k : Nat) (u : Value) (ys : List Int), k ≤ 3 ∧ ys.length = k ∧ i = .int .i64 k ∧ wr.heap[w.heap.size + 1]? = some (.cells #[.int .i64 id, u] 51 (0, 0)) ∧ wr.heap[w.heap.size]? = some (.cells #[.int .i64 0, .slice none 0 0] 51 (0, 0)) ∧ OwnsN wr (w.heap.size + 1 + 1) u ys ∧ Dr w0 c v xs w wr) (fun i _ => 3 - (intOf i).toNat)
 case atStart => exact ⟨0, .slice none 0 0, [], by omega, rfl, rfl, b1, z1, ownsN_nil _ _, D1⟩
 case round =>
  obtain ⟨k, u, ys, hk, hyl, rfl, hb, hz, hown, hD⟩ := hrel
  clear D1 b1 z1
  have HL := Lib.hid hyl
  clear hyl
  obtain ⟨ua, ucap, rfl⟩ := ints_len (ownsN_ints hown)
  have hsz : w.heap.size + 1 + 1 ≤ wr.heap.size := by have := (Array.getElem?_eq_some_iff.1 hb).1; omega
  by_cases hlt : k < 3
  ·
   go_wp2_with fail
   refine (below_any w0 c v xs _ hD.cur wd (by omega) (by omega)).mono ?_
   rintro e w2 ⟨x, x0, x1, rfl, hC2, hg2⟩
   have D2 := hD.call hC2 hg2
   have b2 := keep hg2 (hD.ne (by omega)) hb
   have z2 := keep hg2 (hD.ne (Nat.le_refl _)) hz
   have o2 := ownsN_grown hown hg2 (by have := hD.lt; omega)
   have s2 := Nat.le_trans hsz hg2.size
   clear hD hC2 hg2 hb hz hown hsz
   have al : Below w2.heap.size w2 (w2.alloc (.cells #[.int .i64 x] 3)) := (Below.refl _ _).alloc (Nat.le_refl _) _
   have q7 := (cell_lit w2 #[.int .i64 x] 3 0).trans (show _ = some (Value.int .i64 x) from rfl)
   have l7 : w2.heap.size < (w2.alloc (.cells #[.int .i64 x] 3)).heap.size := by simp
   have p1 := (cell_of_row w2 _ 1 _ _ _ b2).trans (show _ = some (Value.slice ua ys.length ucap) from rfl)
   have HI7 : Hid (Ints (w2.alloc (.cells #[.int .i64 x] 3)) (.slice (some ⟨w2.heap.size, 0, none⟩) 1 1) [x]) := Lib.hid (Or.inr ⟨w2.heap.size, 0, 1, rfl, by simp, l7, fun j hj => by
    have : j = 0 := by simp at hj; omega
    subst this
    simp⟩)
   have o3 := ownsN_below o2 al
   have D3 := D2.alloc (.cells #[.int .i64 x] 3)
   have b3 := keepA (.cells #[.int .i64 x] 3) b2
   have z3 := keepA (.cells #[.int .i64 x] 3) z2
   have s3 := Nat.le_trans s2 al.size
   clear o2 D2 b2 z2 s2 al q7 l7
   go_wp2_with (at_builtin; refine wpl_append_ints rfl (.tmp 22) (.tmp 24) rfl (w.heap.size + 1 + 1) _ _ ys [x] rfl rfl o3 HI7.out s3 (by have := HL.out; simp; omega) ?_; intro u4 w4 o4 bl4; obtain ⟨ua4, ucap4, rfl⟩ := ints_len (ownsN_ints o4); have D4 := D3.below bl4 (by omega); have b4 := keepB bl4 (by omega) b3; have z4 := keepB bl4 (by omega) z3; have y1 := (cell_of_row w4 _ 1 _ _ _ b4).trans (show _ = some (Value.slice ua ys.length ucap) from rfl); have f1 := frozen_of_row w4 _ 1 _ _ b4; clear o3 D3 b3 z3 bl4)
   have r1 := heap_setCell_same w4 (w.heap.size + 1) 1 _ _ (.slice ua4 (ys ++ [x]).length ucap4) b4
   have zz := (heap_setCell_other w4 ⟨w.heap.size + 1, 1, none⟩ w.heap.size (.slice ua4 (ys ++ [x]).length ucap4) (by simp)).trans z4
   have D5 := D4.set (R := w.heap.size + 1) (by omega) 1 (.slice ua4 (ys ++ [x]).length ucap4)
   have o5 := ownsN_low o4 (b := w.heap.size + 1) (by omega) 1 (.slice ua4 (ys ++ [x]).length ucap4)
   go_roundw
   case rel => exact ⟨k + 1, .slice ua4 (ys ++ [x]).length ucap4, ys ++ [x], by omega, by simp; exact HL.out, by go_num, by simpa using r1, by simpa using zz, by simpa using o5, by simpa using D5⟩
   case measure => simp [intOf]; omega
  ·
   obtain rfl : k = 3 := by omega
   have q0 := (cell_of_row wr _ 0 _ _ _ hb).trans (show _ = some (Value.int .i64 id) from rfl)
   have q1 := (cell_of_row wr _ 1 _ _ _ hb).trans (show _ = some (Value.slice ua ys.length ucap) from rfl)
   have y0 := (cell_of_row wr _ 0 _ _ _ hz).trans (show _ = some (Value.int .i64 0) from rfl)
   have y1 := (cell_of_row wr _ 1 _ _ _ hz).trans (show _ = some (Value.slice none 0 0) from rfl)
   have f0 := frozen_of_row wr _ 0 _ _ hz
   have f1 := frozen_of_row wr _ 1 _ _ hz
   go_wp2
   have r1 := heap_setCell_same wr w.heap.size 0 _ _ (.int .i64 id) hz
   have r2 := heap_setCell_same _ w.heap.size 1 _ _ (.slice ua ys.length ucap) r1
   have D5 := (hD.set (R := w.heap.size) (Nat.le_refl _) 0 (.int .i64 id)).set (R := w.heap.size) (Nat.le_refl _) 1 (.slice ua ys.length ucap)
   have o5 := ownsN_low (ownsN_low hown (b := w.heap.size) (by omega) 0 (.int .i64 id)) (b := w.heap.size) (by omega) 1 (.slice ua ys.length ucap)
   have e0 := cell_of_row _ _ 0 _ _ _ r2
   have e1 := cell_of_row _ _ 1 _ _ _ r2
   simp at e0 e1
   refine bodyPost_ret (v := .agg #[.int .i64 id, .slice ua ys.length ucap]) ?_ rfl ?_
   ·
    simp [results, Tryd.f120, go_sem, e0, e1]
   ·
    exact ⟨id, _, ys, rfl, ownsN_up o5 (by omega), HL.out, D5⟩
/-- A row in new memory is appended to a slice of rows that the call made. -/
theorem append_owns {w1 w2 w3 : World} {B D : Nat} {v v' vv : Value} {rs : List RowD} {vs : Nat → Value} {cs : List Value} {r : RowD}
  (h1 : w1.ownsRow B 51 2 v rs.length cs)
  (h2 : ∀ j, j < rs.length → cs[j * 2]? = some (.int .i64 (rs.getD j (0, [])).1) ∧ cs[j * 2 + 1]? = some (vs j) ∧ OwnsN w1 B (vs j) (rs.getD j (0, [])).2 ∧ ∀ b, (vs j).ownBlock = some b → v.ownBlock ≠ some b)
  (h3 : ∀ i j, i < rs.length → j < rs.length → i ≠ j → ∀ b, (vs i).ownBlock = some b → (vs j).ownBlock ≠ some b)
  (hlow : ∀ j, j < rs.length → ∀ b, (vs j).ownBlock = some b → b < D) (hvlow : ∀ b, v.ownBlock = some b → b < D) (hBD : B ≤ D) (hv : OwnsN w1 D vv r.2)
  (h12 : Below w1.heap.size w1 w2) (hg : w2.grownBy w3 v.ownBlock) (hx : RowsC w3 B v' (rs.length + 1) (cs ++ [.int .i64 r.1, vv])) (hat : v'.ownBlock = v.ownBlock ∨ v'.ownBlock = some w2.heap.size) : OwnsR w3 B v' (rs ++ [r]) := by
 have hcl : cs.length = rs.length * 2 := h1.1
 have hlen : (rs ++ [r]).length = rs.length + 1 := by simp
 have old : ∀ j, j < rs.length → OwnsN w3 B (vs j) (rs.getD j (0, [])).2 := fun j hj => by
  refine World.ownsRow.kept (ownsN_below (h2 j hj).2.2.1 h12) hg ?_
  cases e : (vs j).ownBlock with
  | none => exact Or.inl rfl
  | some b => exact Or.inr (fun q => (h2 j hj).2.2.2 b e q.symm)
 have new : OwnsN w3 D vv r.2 := by
  refine World.ownsRow.kept (ownsN_below hv h12) hg ?_
  cases e : vv.ownBlock with
  | none => exact Or.inl rfl
  | some b => exact Or.inr (fun q => by have := hvlow b q.symm; have := (hv.lt b e).1; omega)
 have lt1 : ∀ j, j < rs.length → ∀ b, (vs j).ownBlock = some b → b < w2.heap.size := fun j hj b e => Nat.lt_of_lt_of_le ((h2 j hj).2.2.1.lt b e).2 h12.size
 have lt2 : ∀ b, vv.ownBlock = some b → b < w2.heap.size := fun b e => Nat.lt_of_lt_of_le (hv.lt b e).2 h12.size
 have get_old : ∀ j, j < rs.length → (rs ++ [r]).getD j (0, []) = rs.getD j (0, []) := fun j hj => by simp [List.getD, List.getElem?_append_left hj]
 have get_new : (rs ++ [r]).getD rs.length (0, []) = r := by simp [List.getD]
 refine ⟨cs ++ [.int .i64 r.1, vv], fun j => if j < rs.length then vs j else vv, by rw [hlen]; exact hx, fun j hj => ?_, fun i j hi hj hij b hb => ?_⟩
 ·
  rw [hlen] at hj
  by_cases c : j < rs.length
  ·
   simp only [if_pos c]
   obtain ⟨g1, g2, _, g4⟩ := h2 j c
   rw [get_old j c, List.getElem?_append_left (by omega), List.getElem?_append_left (by omega)]
   refine ⟨g1, g2, old j c, fun b e q => ?_⟩
   rcases hat with h | h
   ·
    rw [h] at q; exact g4 b e q
   ·
    rw [h] at q; have := lt1 j c b e; have := Option.some.inj q; omega
  ·
   obtain rfl : j = rs.length := by omega
   simp only [if_neg c]
   rw [get_new, List.getElem?_append_right (by omega), List.getElem?_append_right (by omega), show rs.length * 2 - cs.length = 0 by omega, show rs.length * 2 + 1 - cs.length = 1 by omega]
   refine ⟨rfl, rfl, ownsN_up new hBD, fun b e q => ?_⟩
   rcases hat with h | h
   ·
    rw [h] at q; have := hvlow b q; have := (hv.lt b e).1; omega
   ·
    rw [h] at q; have := lt2 b e; have := Option.some.inj q; omega
 ·
  rw [hlen] at hi hj
  by_cases ci : i < rs.length
  ·
   by_cases cj : j < rs.length
   ·
    simp only [if_pos ci, if_pos cj] at hb ⊢
    exact h3 i j ci cj hij b hb
   ·
    simp only [if_pos ci, if_neg cj] at hb ⊢
    intro q
    have := hlow i ci b hb
    have := (hv.lt b q).1
    omega
  ·
   have cj : j < rs.length := by omega
   simp only [if_neg ci, if_pos cj] at hb ⊢
   intro q
   have := hlow j cj b q
   have := (hv.lt b hb).1
   omega
def ids3 : List Int := [-1, 999, 1000]
def vals3 : List Int := [-1, 99, 100]
theorem ownsN_off {w : World} {B : Nat} {v : Value} {xs : List Int} (h : OwnsN w B v xs) {b : Nat} (hne : v.ownBlock ≠ some b) (j : Nat) (u : Value) : OwnsN (w.setCell ⟨b, j, none⟩ u) B v xs := by
 refine ⟨h.1, ?_⟩
 rcases h.2 with hn | ⟨g, cap, cur, rfl, hb', hg, rest⟩
 ·
  exact .inl hn
 ·
  refine .inr ⟨g, cap, cur, rfl, hb', ?_, rest⟩
  have hgb : ¬ b = g := fun e => hne (by rw [e]; rfl)
  exact (heap_setCell_other w ⟨b, j, none⟩ g u (by simpa using fun e => hgb e.symm)).trans hg
theorem ownsN_apart {w : World} {B R : Nat} {v : Value} {xs : List Int} {vals : Array Value} {T : TypeId} {fr : Nat × Nat} (h : OwnsN w B v xs) (hb : w.heap[R]? = some (.cells vals T fr)) (hT : T ≠ 3) : v.ownBlock ≠ some R := by
 intro e
 rcases h.2 with ⟨rfl, _⟩ | ⟨g, cap, cur, rfl, _, hg, _⟩
 ·
  simp [Value.ownBlock] at e
 ·
  have : g = R := by simpa [Value.ownBlock] using e
  subst this
  rw [hg] at hb
  simp only [Option.some.injEq, Obj.cells.injEq] at hb
  exact hT hb.2.1.symm
theorem wpl_append_one {w : World} {ops : Array Oper} {rest : List Oper} {o : Oper} {a : Act} {Q : Exit → Act → World → Prop} (hgd : o.guard = none) (s x : Operand)
  (ho : o.op = .call { callee := .builtin .append, args := #[s, x], argTypes := #[24, 24] })
  (B : Nat) (v : Value) (xs : List Int) (b : Nat) (y : Int) (hs : a.eval s = v) (hx : a.eval x = .slice (some ⟨b, 0, none⟩) 1 1) (hown : OwnsN w B v xs) (hu : w.cell? ⟨b, 0, none⟩ = some (.int .i64 y)) (hB : B ≤ w.heap.size) (h63 : xs.length ≤ 1048576)
  (h : ∀ v' w', OwnsN w' B v' (xs ++ [y]) → w.grownBy w' v.ownBlock → wpList Tryd.prog ops Q rest (a.put o.dst v') w') : wpList Tryd.prog ops Q (o :: rest) a w := by
 obtain ⟨i0, hi, hz0, hz1, hz2⟩ := info_parts Tryd.infoI64
 refine wpList_plain hgd fun K hK => ?_
 obtain ⟨v', w', hr, h2, h3, h4⟩ := run_append_own (P := Tryd.prog) w B 24 o.type 3 i0 (.int .i64 0) 1 8 Tryd.underlying24 hi hz0 hz1 hz2 rfl (by decide) v xs.length _ hown ⟨b, 0, none⟩ 1 1 [Value.int .i64 y] (by simp) (by
  intro j q hj
  rw [Go.WideShapes.add_plain]
  have : j = 0 := by
   by_cases e : j = 0
   ·
    exact e
   ·
    rw [List.getElem?_eq_none (by simp; omega)] at hj; simp at hj
  subst this
  simp at hj
  rw [← hj]; exact hu) (by intro q hq; simp at hq; rw [hq]; rfl) (by unfold maxLen; omega) (by omega) hB
 unfold Oper.wp
 simp [execOp, ho, resolve, invoke, builtin, hs, hx, hr, Result.andThen]
 refine hK _ _ (h v' w' ?_ h3)
 unfold OwnsN
 simpa using h2
set_option maxHeartbeats 8000000 in
set_option maxRecDepth 100000 in
theorem rowAny_any (w0 : World) (c : Nat) (v : Value) (xs : List Int) (w : World) (hC : Cur w0 c v xs w) :
  Calls Tryd.prog 79 #[.pointer (some ⟨c, 0, none⟩)] w (DrawnRow w0 c v xs w) := by
 have D0 := (Dr.start hC).alloc (.cells #[.int .i64 0, .slice none 0 0] 51)
 have z0 := heap_alloc_new w (.cells #[.int .i64 0, .slice none 0 0] 51)
 have s0 : (w.alloc (.cells #[.int .i64 0, .slice none 0 0] 51)).heap.size = w.heap.size + 1 := by simp
 have HD0 := Lib.hid D0
 have HZ0 := Lib.hid z0
 have HS0 := Lib.hid s0
 clear D0 z0 s0 hC
 go_enter Tryd.func79, Tryd.ntmps79
 go_wp2_with fail
 generalize w.alloc (.cells #[.int .i64 0, .slice none 0 0] 51) = W at *
 refine (below_any w0 c v xs _ HD0.out.cur 9 (by omega) (by omega)).mono ?_
 rintro e w1 ⟨x, x0, x1, rfl, hC1, hg1⟩
 have D1 := HD0.out.call hC1 hg1
 have z1 := keep hg1 (D1.ne (Nat.le_refl _)) HZ0.out
 have s1 : w.heap.size + 1 ≤ w1.heap.size := by rw [← HS0.out]; exact hg1.size
 clear HD0 HZ0 HS0 hC1 hg1
 go_wp2_with fail
 refine (row_any w0 c v xs _ D1.cur x).mono ?_
 rintro e w2 ⟨id, u, ys, rfl, ou, hyl, d2⟩
 have D2 := D1.call d2.cur d2.gr
 have z2 := keep d2.gr (D1.ne (Nat.le_refl _)) z1
 have s2 := Nat.le_trans s1 d2.size
 obtain ⟨g, ucap, rfl⟩ : ∃ g ucap, u = .slice (some ⟨g, 0, none⟩) ys.length ucap := by
  rcases ownsN_form ou with ⟨_, e⟩ | ⟨g, cap, e, _⟩
  ·
   rw [e] at hyl; simp at hyl
  ·
   exact ⟨g, cap, e⟩
 have HYL := Lib.hid hyl
 have hgl := ou.lt g rfl
 clear D1 z1 hyl
 have D3 := D2.alloc (.cells #[.int .i64 id, .slice (some ⟨g, 0, none⟩) ys.length ucap] 51)
 have z3 := keepA (.cells #[.int .i64 id, .slice (some ⟨g, 0, none⟩) ys.length ucap] 51) z2
 have b3 := heap_alloc_new w2 (.cells #[.int .i64 id, .slice (some ⟨g, 0, none⟩) ys.length ucap] 51)
 have o3 : OwnsN _ w1.heap.size _ ys := ou.alloc (.cells #[.int .i64 id, .slice (some ⟨g, 0, none⟩) ys.length ucap] 51)
 have HOU := Lib.hid o3
 have HD3 := Lib.hid D3
 have HZ3 := Lib.hid z3
 have HB3 := Lib.hid b3
 have HG := Lib.hid hgl
 have HS1 := Lib.hid s1
 have HS2 := Lib.hid s2
 clear D2 z2 D3 z3 b3 o3 ou hgl s1 s2 d2
 go_wp2_with fail
 generalize w2.alloc (.cells #[.int .i64 id, .slice (some ⟨g, 0, none⟩) ys.length ucap] 51) = W3 at *
 refine (below_any w0 c v xs _ HD3.out.cur 8 (by omega) (by omega)).mono ?_
 rintro e w4 ⟨d, d0, d1, rfl, hC4, hg4⟩
 have D4 := HD3.out.call hC4 hg4
 have z4 := keep hg4 (HD3.out.ne (Nat.le_refl _)) HZ3.out
 have b4 := keep hg4 (HD3.out.ne (by have := HS2.out; omega)) HB3.out
 have o4 := ownsN_grown HOU.out hg4 (by have := HD3.out.lt; have := HS1.out; omega)
 clear HOU HD3 HZ3 HB3 hC4 hg4
 by_cases hd0 : d = 0
 ·
  have t0 : (d == 0) = true := by rw [beq_iff_eq]; exact hd0
  clear hd0
  have HP := Lib.hid (pick_any w0 c v xs (w4.alloc (.cells (ids3.map (Value.int .i64)).toArray 3 (0, 0))) (cur_alloc D4.cur _) w4.heap.size ids3 (-1) 1000 (by decide) (by decide) (by decide) (heap_alloc_new w4 _) (D4.ne D4.size))
  have D5 := D4.alloc (.cells (ids3.map (Value.int .i64)).toArray 3 (0, 0))
  have z5 := keepA (.cells (ids3.map (Value.int .i64)).toArray 3 (0, 0)) z4
  have b5 := keepA (.cells (ids3.map (Value.int .i64)).toArray 3 (0, 0)) b4
  have o5 : OwnsN _ w1.heap.size _ ys := o4.alloc (.cells (ids3.map (Value.int .i64)).toArray 3 (0, 0))
  go_wp2_with fail
  refine Calls.mono HP.out ?_
  rintro e w6 ⟨y, yl, yh, rfl, hC6, hg6⟩
  have D6 := D5.call hC6 hg6
  have z6 := keep hg6 (D5.ne (Nat.le_refl _)) z5
  have b6 := keep hg6 (D5.ne (by have := HS2.out; omega)) b5
  have o6 := ownsN_grown o5 hg6 (by have := D5.lt; have := HS1.out; omega)
  have hn1 : ¬ w2.heap.size = w.heap.size := by have := HS2.out; omega
  have hn2 : ¬ w.heap.size = w2.heap.size := by have := HS2.out; omega
  have hn3 : ¬ g = w2.heap.size := by have := HG.out; omega
  have hn4 : ¬ w2.heap.size = g := by have := HG.out; omega
  have hn5 : ¬ g = w.heap.size := by have := HG.out; have := HS1.out; omega
  have hn6 : ¬ w.heap.size = g := by have := HG.out; have := HS1.out; omega
  have p0 := (cell_of_row w6 _ 0 _ _ _ b6).trans (show _ = some (Value.int .i64 id) from rfl)
  have p1 := (cell_of_row w6 _ 1 _ _ _ b6).trans (show _ = some (Value.slice (some ⟨g, 0, none⟩) ys.length ucap) from rfl)
  have g0 := frozen_of_row w6 _ 0 _ _ b6
  have b7 := heap_setCell_same w6 w2.heap.size 0 _ _ (.int .i64 y) b6
  have z7 := (heap_setCell_other w6 ⟨w2.heap.size, 0, none⟩ w.heap.size (.int .i64 y) (by simpa using hn2)).trans z6
  have D7 := D6.set (R := w2.heap.size) (by have := HS2.out; omega) 0 (.int .i64 y)
  have o7 := ownsN_off o6 (b := w2.heap.size) (by simp [Value.ownBlock, hn3]) 0 (.int .i64 y)
  clear D5 z5 b5 o5 D6 o6 HP D4 z4 b4 o4 hC6 hg6
  have q0 := (cell_of_row (w6.setCell ⟨w2.heap.size, 0, none⟩ (.int .i64 y)) _ 0 _ _ _ b7).trans (show _ = some (Value.int .i64 y) from rfl)
  have q1 := (cell_of_row (w6.setCell ⟨w2.heap.size, 0, none⟩ (.int .i64 y)) _ 1 _ _ _ b7).trans (show _ = some (Value.slice (some ⟨g, 0, none⟩) ys.length ucap) from rfl)
  have y0 := (cell_of_row (w6.setCell ⟨w2.heap.size, 0, none⟩ (.int .i64 y)) _ 0 _ _ _ z7).trans (show _ = some (Value.int .i64 0) from rfl)
  have y1 := (cell_of_row (w6.setCell ⟨w2.heap.size, 0, none⟩ (.int .i64 y)) _ 1 _ _ _ z7).trans (show _ = some (Value.slice none 0 0) from rfl)
  have f0 := frozen_of_row (w6.setCell ⟨w2.heap.size, 0, none⟩ (.int .i64 y)) _ 0 _ _ z7
  have f1 := frozen_of_row (w6.setCell ⟨w2.heap.size, 0, none⟩ (.int .i64 y)) _ 1 _ _ z7
  go_wp2
  have r1 := heap_setCell_same (w6.setCell ⟨w2.heap.size, 0, none⟩ (.int .i64 y)) w.heap.size 0 _ _ (.int .i64 y) z7
  have r2 := heap_setCell_same _ w.heap.size 1 _ _ (.slice (some ⟨g, 0, none⟩) ys.length ucap) r1
  have D9 := (D7.set (R := w.heap.size) (Nat.le_refl _) 0 (.int .i64 y)).set (R := w.heap.size) (Nat.le_refl _) 1 (.slice (some ⟨g, 0, none⟩) ys.length ucap)
  have o9 := ownsN_low (ownsN_low o7 (b := w.heap.size) (by have := HS1.out; omega) 0 (.int .i64 y)) (b := w.heap.size) (by have := HS1.out; omega) 1 (.slice (some ⟨g, 0, none⟩) ys.length ucap)
  have e0 := cell_of_row _ _ 0 _ _ _ r2
  have e1 := cell_of_row _ _ 1 _ _ _ r2
  simp at e0 e1
  refine bodyPost_ret (v := .agg #[.int .i64 y, .slice (some ⟨g, 0, none⟩) ys.length ucap]) ?_ rfl ?_
  ·
   simp [results, Tryd.f79, go_sem, e0, e1]
  ·
   exact ⟨y, _, _, rfl, ownsN_up o9 (by have := HS1.out; omega), by have := HYL.out; omega, D9⟩
 ·
  by_cases hd1 : d = 1
  ·
   have t0 : (d == 0) = false := by rw [beq_eq_false_iff_ne]; exact hd0
   have t1 : (d == 1) = true := by rw [beq_iff_eq]; exact hd1
   clear hd0 hd1
   have hn1 : ¬ w2.heap.size = w.heap.size := by have := HS2.out; omega
   have hn2 : ¬ w.heap.size = w2.heap.size := by have := HS2.out; omega
   have hn3 : ¬ g = w2.heap.size := by have := HG.out; omega
   have hn4 : ¬ w2.heap.size = g := by have := HG.out; omega
   have hn5 : ¬ g = w.heap.size := by have := HG.out; have := HS1.out; omega
   have hn6 : ¬ w.heap.size = g := by have := HG.out; have := HS1.out; omega
   have p1 := (cell_of_row w4 _ 1 _ _ _ b4).trans (show _ = some (Value.slice (some ⟨g, 0, none⟩) ys.length ucap) from rfl)
   have n0 : (0 : Int) < (ys.length : Int) := by have := HYL.out; omega
   have n1 : 0 < ys.length := by have := HYL.out; omega
   have D4d : Dr w0 c v xs w w4.drew := D4.below (below_drew (Below.refl w4.heap.size w4)) D4.size
   have o4d : OwnsN w4.drew w1.heap.size _ ys := ownsN_below o4 (below_drew (Below.refl w4.heap.size w4))
   have z4d : w4.drew.heap[w.heap.size]? = some _ := z4
   have b4d : w4.drew.heap[w2.heap.size]? = some _ := b4
   clear D4 o4 z4 b4
   go_wp2
   refine wp_region_held_drew (S := fun w' => w'.cell? ⟨w2.heap.size, 1, none⟩ = some (.slice (some ⟨g, 0, none⟩) ys.length ucap)) (by kernel_rfl) p1 (fun hHeld => ?_)
   refine tR (i := 0) (v := ?_) ?_ ?_; rotate_left
   ·
    intro w hSw; (try dsimp only at hSw); go_simp; try (with_reducible rfl)
   try simp only [Act.put, lA, lB, lC]
   refine tR (i := 1) (v := ?_) ?_ ?_; rotate_left
   ·
    intro w hSw; (try dsimp only at hSw); go_simp; try (with_reducible rfl)
   try simp only [Act.put, lA, lB, lC]
   refine tR (i := 2) (v := ?_) ?_ ?_; rotate_left
   ·
    intro w hSw; (try dsimp only at hSw); go_simp; try (with_reducible rfl)
   try simp only [Act.put, lA, lB, lC]
   refine wpAnyH_ready (rs := [3]) (by kernel_rfl) (by simp) ?_
   refine (AllReadyH.cons (o := _) (by simp only [hA, hB, hC]; rfl) (fun K hK => ?_) AllReadyH.nil)
   go_simp
   have D5 := D4d.alloc (.cells (vals3.map (Value.int .i64)).toArray 3 (0, 0))
   have z5 := keepA (.cells (vals3.map (Value.int .i64)).toArray 3 (0, 0)) z4d
   have b5 := keepA (.cells (vals3.map (Value.int .i64)).toArray 3 (0, 0)) b4d
   have o5 : OwnsN _ w1.heap.size _ ys := o4d.alloc (.cells (vals3.map (Value.int .i64)).toArray 3 (0, 0))
   have l5 := heap_alloc_new w4.drew (.cells (vals3.map (Value.int .i64)).toArray 3 (0, 0))
   have s_b5 := (cell_of_row (w4.drew.alloc (.cells (vals3.map (Value.int .i64)).toArray 3 (0, 0))) _ 1 _ _ _ b5).trans (show _ = some (Value.slice (some ⟨g, 0, none⟩) ys.length ucap) from rfl)
   have HP := Lib.hid (pick_any w0 c v xs (w4.drew.alloc (.cells (vals3.map (Value.int .i64)).toArray 3 (0, 0))) D5.cur w4.drew.heap.size vals3 (-1) 100 (by decide) (by decide) (by decide) l5 (D4d.ne D4d.size))
   refine hK.out _ _ (s_b5) (fun hHeld => ?_)
   clear hK K
   try simp only [Act.put, lA, lB, lC]
   refine wpAnyH_ready (rs := [4]) (by kernel_rfl) (by simp) ?_
   refine (AllReadyH.cons (o := _) (by simp only [hA, hB, hC]; rfl) (fun K hK => ?_) AllReadyH.nil)
   go_simp
   refine Calls.mono HP.out ?_
   rintro e w6 ⟨y, yl, yh, rfl, hC6, hg6⟩
   have D6 := D5.call hC6 hg6
   have z6 := keep hg6 (D5.ne (Nat.le_refl _)) z5
   have b6 := keep hg6 (D5.ne (by have := HS2.out; omega)) b5
   have o6 := ownsN_grown o5 hg6 (by have := D5.lt; have := HS1.out; omega)
   have s_b6 := (cell_of_row w6 _ 1 _ _ _ b6).trans (show _ = some (Value.slice (some ⟨g, 0, none⟩) ys.length ucap) from rfl)
   refine hK.out _ _ (s_b6) (fun hHeld => ?_)
   clear hK K
   try simp only [Act.put, lA, lB, lC]
   refine tR (i := 5) (v := ?_) ?_ ?_; rotate_left
   ·
    intro w hSw; (try dsimp only at hSw); go_simp; try (with_reducible rfl)
   try simp only [Act.put, lA, lB, lC]
   have x0c := ownsN_cell o6 (j := 0) (List.getElem?_eq_getElem n1)
   have x0f := ownsN_frozen o6 0
   refine wpAnyH_ready (rs := [6]) (by kernel_rfl) (by simp) ?_
   refine (AllReadyH.cons (o := _) (by simp only [hA, hB, hC]; rfl) (fun K hK => ?_) AllReadyH.nil)
   go_simp
   have b7 := (heap_setCell_other w6 ⟨g, 0, none⟩ w2.heap.size (.int .i64 y) (by simpa using hn4)).trans b6
   have z7 := (heap_setCell_other w6 ⟨g, 0, none⟩ w.heap.size (.int .i64 y) (by simpa using hn6)).trans z6
   have D7 := D6.set (R := g) (by have := HG.out; have := HS1.out; omega) 0 (.int .i64 y)
   have o7 := ownsN_store o6 0 y
   have s_b7 := (cell_of_row (w6.setCell ⟨g, 0, none⟩ (.int .i64 y)) _ 1 _ _ _ b7).trans (show _ = some (Value.slice (some ⟨g, 0, none⟩) ys.length ucap) from rfl)
   refine hK.out _ _ (s_b7) (fun hHeld => ?_)
   clear hK K
   try simp only [Act.put, lA, lB, lC]
   refine wpAnyH_done (by kernel_rfl) ?_ _
   have hls : (ys.set 0 y).length = ys.length := List.length_set ..
   clear D4d z4d b4d o4d D5 z5 b5 o5 l5 HP D6 z6 b6 o6 hC6 hg6 s_b5 s_b6 s_b7 hHeld x0c x0f p1
   have q0 := (cell_of_row (w6.setCell ⟨g, 0, none⟩ (.int .i64 y)) _ 0 _ _ _ b7).trans (show _ = some (Value.int .i64 id) from rfl)
   have q1 := (cell_of_row (w6.setCell ⟨g, 0, none⟩ (.int .i64 y)) _ 1 _ _ _ b7).trans (show _ = some (Value.slice (some ⟨g, 0, none⟩) ys.length ucap) from rfl)
   have y0 := (cell_of_row (w6.setCell ⟨g, 0, none⟩ (.int .i64 y)) _ 0 _ _ _ z7).trans (show _ = some (Value.int .i64 0) from rfl)
   have y1 := (cell_of_row (w6.setCell ⟨g, 0, none⟩ (.int .i64 y)) _ 1 _ _ _ z7).trans (show _ = some (Value.slice none 0 0) from rfl)
   have f0 := frozen_of_row (w6.setCell ⟨g, 0, none⟩ (.int .i64 y)) _ 0 _ _ z7
   have f1 := frozen_of_row (w6.setCell ⟨g, 0, none⟩ (.int .i64 y)) _ 1 _ _ z7
   go_wp2
   have r1 := heap_setCell_same (w6.setCell ⟨g, 0, none⟩ (.int .i64 y)) w.heap.size 0 _ _ (.int .i64 id) z7
   have r2 := heap_setCell_same _ w.heap.size 1 _ _ (.slice (some ⟨g, 0, none⟩) ys.length ucap) r1
   have D9 := (D7.set (R := w.heap.size) (Nat.le_refl _) 0 (.int .i64 id)).set (R := w.heap.size) (Nat.le_refl _) 1 (.slice (some ⟨g, 0, none⟩) ys.length ucap)
   have o9 := ownsN_low (ownsN_low o7 (b := w.heap.size) (by have := HS1.out; omega) 0 (.int .i64 id)) (b := w.heap.size) (by have := HS1.out; omega) 1 (.slice (some ⟨g, 0, none⟩) ys.length ucap)
   have e0 := cell_of_row _ _ 0 _ _ _ r2
   have e1 := cell_of_row _ _ 1 _ _ _ r2
   simp at e0 e1
   refine bodyPost_ret (v := .agg #[.int .i64 id, .slice (some ⟨g, 0, none⟩) ys.length ucap]) ?_ rfl ?_
   ·
    simp [results, Tryd.f79, go_sem, e0, e1]
   ·
    exact ⟨id, _, _, rfl, ownsN_up o9 (by have := HS1.out; omega), by rw [hls]; have := HYL.out; omega, D9⟩
  ·
   by_cases hd2 : d = 2
   ·
    have t0 : (d == 0) = false := by rw [beq_eq_false_iff_ne]; exact hd0
    have t1 : (d == 1) = false := by rw [beq_eq_false_iff_ne]; exact hd1
    have t2 : (d == 2) = true := by rw [beq_iff_eq]; exact hd2
    clear hd0 hd1 hd2
    have hn1 : ¬ w2.heap.size = w.heap.size := by have := HS2.out; omega
    have hn2 : ¬ w.heap.size = w2.heap.size := by have := HS2.out; omega
    have hn3 : ¬ g = w2.heap.size := by have := HG.out; omega
    have hn4 : ¬ w2.heap.size = g := by have := HG.out; omega
    have hn5 : ¬ g = w.heap.size := by have := HG.out; have := HS1.out; omega
    have hn6 : ¬ w.heap.size = g := by have := HG.out; have := HS1.out; omega
    have p1 := (cell_of_row w4 _ 1 _ _ _ b4).trans (show _ = some (Value.slice (some ⟨g, 0, none⟩) ys.length ucap) from rfl)
    have b5 := keepA (.cells #[.int .i64 1] 3) b4
    have z5 := keepA (.cells #[.int .i64 1] 3) z4
    have D5 := D4.alloc (.cells #[.int .i64 1] 3)
    have o5 : OwnsN _ w1.heap.size _ ys := o4.alloc (.cells #[.int .i64 1] 3)
    have u5 := (cell_lit w4 #[.int .i64 1] 3 0).trans (show _ = some (Value.int .i64 1) from rfl)
    have s5 : w1.heap.size ≤ (w4.alloc (.cells #[.int .i64 1] 3)).heap.size := by have := (o4.lt g rfl); simp; omega
    clear D4 z4 b4 o4
    go_wp2_with (at_builtin; refine wpl_append_one rfl (.tmp 27) (.tmp 28) rfl w1.heap.size (.slice (some ⟨g, 0, none⟩) ys.length ucap) ys w4.heap.size 1 rfl rfl o5 u5 s5 (by have := HYL.out; omega) ?_)
    intro u6 w6 o6 g6
    obtain ⟨ub, ucap6, rfl⟩ := ints_len (ownsN_ints o6)
    have o7 : OwnsN w6 w1.heap.size (.slice ub (ys.length + 1) ucap6) (ys ++ [1]) := by simpa using o6
    have bl6 := (Below.refl w1.heap.size _).grown g6 s5 (fun k hk => (o5.lt k hk).1)
    have D6 := D5.below bl6 (by have := HS1.out; omega)
    have b6 := (g6.block w2.heap.size (Array.getElem?_eq_some_iff.1 b5).1 (by simp [Value.ownBlock, hn4])).trans b5
    have z6 := (g6.block w.heap.size (Array.getElem?_eq_some_iff.1 z5).1 (by simp [Value.ownBlock, hn6])).trans z5
    have h1 := (cell_of_row w6 _ 1 _ _ _ b6).trans (show _ = some (Value.slice (some ⟨g, 0, none⟩) ys.length ucap) from rfl)
    have k1 := frozen_of_row w6 _ 1 _ _ b6
    have b7 := heap_setCell_same w6 w2.heap.size 1 _ _ (.slice ub (ys.length + 1) ucap6) b6
    have z7 := (heap_setCell_other w6 ⟨w2.heap.size, 1, none⟩ w.heap.size (.slice ub (ys.length + 1) ucap6) (by simpa using hn2)).trans z6
    simp only [List.length_append, List.length_cons, List.length_nil, Nat.zero_add]
    have q0 := (cell_of_row (w6.setCell ⟨w2.heap.size, 1, none⟩ (.slice ub (ys.length + 1) ucap6)) _ 0 _ _ _ b7).trans (show _ = some (Value.int .i64 id) from rfl)
    have q1 := (cell_of_row (w6.setCell ⟨w2.heap.size, 1, none⟩ (.slice ub (ys.length + 1) ucap6)) _ 1 _ _ _ b7).trans (show _ = some (Value.slice ub (ys.length + 1) ucap6) from rfl)
    have y0 := (cell_of_row (w6.setCell ⟨w2.heap.size, 1, none⟩ (.slice ub (ys.length + 1) ucap6)) _ 0 _ _ _ z7).trans (show _ = some (Value.int .i64 0) from rfl)
    have y1 := (cell_of_row (w6.setCell ⟨w2.heap.size, 1, none⟩ (.slice ub (ys.length + 1) ucap6)) _ 1 _ _ _ z7).trans (show _ = some (Value.slice none 0 0) from rfl)
    have f0 := frozen_of_row (w6.setCell ⟨w2.heap.size, 1, none⟩ (.slice ub (ys.length + 1) ucap6)) _ 0 _ _ z7
    have f1 := frozen_of_row (w6.setCell ⟨w2.heap.size, 1, none⟩ (.slice ub (ys.length + 1) ucap6)) _ 1 _ _ z7
    clear D5 z5 b5 o5 u5 s5 bl6 o6 g6 p1
    go_wp2
    have D8 := D6.set (R := w2.heap.size) (by have := HS2.out; omega) 1 (.slice ub (ys.length + 1) ucap6)
    have o8 : OwnsN (w6.setCell ⟨w2.heap.size, 1, none⟩ (.slice ub (ys.length + 1) ucap6)) w1.heap.size (.slice ub (ys.length + 1) ucap6) (ys ++ [1]) := ownsN_off o7 (ownsN_apart o7 b6 (by decide)) 1 _
    have r1 := heap_setCell_same (w6.setCell ⟨w2.heap.size, 1, none⟩ (.slice ub (ys.length + 1) ucap6)) w.heap.size 0 _ _ (.int .i64 id) z7
    have r2 := heap_setCell_same _ w.heap.size 1 _ _ (.slice ub (ys.length + 1) ucap6) r1
    have D9 := (D8.set (R := w.heap.size) (Nat.le_refl _) 0 (.int .i64 id)).set (R := w.heap.size) (Nat.le_refl _) 1 (.slice ub (ys.length + 1) ucap6)
    have o9 := ownsN_low (ownsN_low o8 (b := w.heap.size) (by have := HS1.out; omega) 0 (.int .i64 id)) (b := w.heap.size) (by have := HS1.out; omega) 1 (.slice ub (ys.length + 1) ucap6)
    have e0 := cell_of_row _ _ 0 _ _ _ r2
    have e1 := cell_of_row _ _ 1 _ _ _ r2
    simp at e0 e1
    refine bodyPost_ret (v := .agg #[.int .i64 id, .slice ub (ys.length + 1) ucap6]) ?_ rfl ?_
    ·
     simp [results, Tryd.f79, go_sem, e0, e1]
    ·
     exact ⟨id, _, _, rfl, ownsN_up o9 (by have := HS1.out; omega), by have := HYL.out; simp; omega, D9⟩
   ·
    have t0 : (d == 0) = false := by rw [beq_eq_false_iff_ne]; exact hd0
    have t1 : (d == 1) = false := by rw [beq_eq_false_iff_ne]; exact hd1
    have t2 : (d == 2) = false := by rw [beq_eq_false_iff_ne]; exact hd2
    clear hd0 hd1 hd2
    have hn1 : ¬ w2.heap.size = w.heap.size := by have := HS2.out; omega
    have hn2 : ¬ w.heap.size = w2.heap.size := by have := HS2.out; omega
    have q0 := (cell_of_row w4 _ 0 _ _ _ b4).trans (show _ = some (Value.int .i64 id) from rfl)
    have q1 := (cell_of_row w4 _ 1 _ _ _ b4).trans (show _ = some (Value.slice (some ⟨g, 0, none⟩) ys.length ucap) from rfl)
    have y0 := (cell_of_row w4 _ 0 _ _ _ z4).trans (show _ = some (Value.int .i64 0) from rfl)
    have y1 := (cell_of_row w4 _ 1 _ _ _ z4).trans (show _ = some (Value.slice none 0 0) from rfl)
    have f0 := frozen_of_row w4 _ 0 _ _ z4
    have f1 := frozen_of_row w4 _ 1 _ _ z4
    go_wp2
    have r1 := heap_setCell_same w4 w.heap.size 0 _ _ (.int .i64 id) z4
    have r2 := heap_setCell_same _ w.heap.size 1 _ _ (.slice (some ⟨g, 0, none⟩) ys.length ucap) r1
    have D9 := (D4.set (R := w.heap.size) (Nat.le_refl _) 0 (.int .i64 id)).set (R := w.heap.size) (Nat.le_refl _) 1 (.slice (some ⟨g, 0, none⟩) ys.length ucap)
    have o9 := ownsN_low (ownsN_low o4 (b := w.heap.size) (by have := HS1.out; omega) 0 (.int .i64 id)) (b := w.heap.size) (by have := HS1.out; omega) 1 (.slice (some ⟨g, 0, none⟩) ys.length ucap)
    have e0 := cell_of_row _ _ 0 _ _ _ r2
    have e1 := cell_of_row _ _ 1 _ _ _ r2
    simp at e0 e1
    refine bodyPost_ret (v := .agg #[.int .i64 id, .slice (some ⟨g, 0, none⟩) ys.length ucap]) ?_ rfl ?_
    ·
     simp [results, Tryd.f79, go_sem, e0, e1]
    ·
     exact ⟨id, _, _, rfl, ownsN_up o9 (by have := HS1.out; omega), by have := HYL.out; omega, D9⟩
theorem kept_low {w w' : World} {B c : Nat} {e : TypeId} {size : Nat} {v : Value} {n : Nat} {xs : List Value} (h : w.ownsRow B e size v n xs) (hg : w.grownBy w' (some c)) (hc : c < B) : w'.ownsRow B e size v n xs := by
 refine h.kept hg ?_
 cases hv : v.ownBlock with
 | none => exact Or.inl rfl
 | some k => exact Or.inr (by intro e; have := (h.lt k hv).1; simp at e; omega)
theorem ownsR_grown {w w' : World} {B c : Nat} {v : Value} {rs : List RowD} (h : OwnsR w B v rs) (hg : w.grownBy w' (some c)) (hc : c < B) : OwnsR w' B v rs := by
 obtain ⟨cs, vs, h1, h2, h3⟩ := h
 exact ⟨cs, vs, kept_low h1 hg hc, fun j hj => ⟨(h2 j hj).1, (h2 j hj).2.1, ownsN_grown (h2 j hj).2.2.1 hg hc, (h2 j hj).2.2.2⟩, h3⟩
theorem ownsR_next {wa wb : World} {B c : Nat} {v uu : Value} {rs : List RowD} {id : Int} {ys : List Int} (h : OwnsR wa B v rs) (hg : wa.grownBy wb (some c)) (hc : c < B) (hB : B ≤ wa.heap.size) (hu : OwnsN wb wa.heap.size uu ys) :
  ∃ cs, RowsC wb B v rs.length cs ∧ ∀ wc wd v', Below wb.heap.size wb wc → wc.grownBy wd v.ownBlock → RowsC wd B v' (rs.length + 1) (cs ++ [.int .i64 id, uu]) → (v'.ownBlock = v.ownBlock ∨ v'.ownBlock = some wc.heap.size) → OwnsR wd B v' (rs ++ [(id, ys)]) := by
 obtain ⟨cs, vs, h1, h2, h3⟩ := h
 have H1 : RowsC wb B v rs.length cs := kept_low h1 hg hc
 exact ⟨cs, H1, fun wc wd v' hb hg' hx hat => append_owns (r := (id, ys)) H1 (fun j hj => ⟨(h2 j hj).1, (h2 j hj).2.1, ownsN_grown (h2 j hj).2.2.1 hg hc, (h2 j hj).2.2.2⟩) h3 (fun j hj q e => ((h2 j hj).2.2.1.lt q e).2) (fun q e => (h1.lt q e).2) hB hu hb hg' hx hat⟩
/-- Rows are drawn, in new memory. -/
def DrawnRows (w0 : World) (c : Nat) (v : Value) (xs : List Int) (w : World) (e : Ending) (w' : World) : Prop :=
 ∃ (u : Value) (rs : List RowD), e = .returned u ∧ OwnsR w' w.heap.size u rs ∧ rs.length ≤ 9 ∧ (∀ r ∈ rs, r.2.length ≤ 4) ∧ Dr w0 c v xs w w'
set_option maxHeartbeats 8000000 in
set_option maxRecDepth 100000 in
theorem rows_any (w0 : World) (c : Nat) (v : Value) (xs : List Int) (w : World) (hC : Cur w0 c v xs w) :
  Calls Tryd.prog 125 #[.pointer (some ⟨c, 0, none⟩), .int .i64 8] w fun e w' => ∃ (u : Value) (rs : List RowD), e = .returned u ∧ OwnsR w' w.heap.size u rs ∧ rs.length ≤ 8 ∧ (∀ r ∈ rs, r.2.length ≤ 4) ∧ Dr w0 c v xs w w' := by
 have D0 := (Dr.start hC).alloc (.cells #[] 51)
 have o0 : OwnsR (w.alloc (.cells #[] 51)) w.heap.size (.slice (some ⟨w.heap.size, 0, none⟩) 0 0) [] := ownsR_empty w
 have hcB := cur_lt hC
 clear hC
 go_enter Tryd.func125, Tryd.ntmps125
 go_wp2_with fail
 generalize w.alloc (.cells #[] 51) = W at *
 refine (below_any w0 c v xs _ D0.cur 3 (by omega) (by omega)).mono ?_
 rintro e w1 ⟨x, x0, x1, rfl, hC1, hg1⟩
 have D1 := D0.call hC1 hg1
 have o1 := ownsR_grown o0 hg1 hcB
 clear D0 o0 hC1 hg1
 go_wp2_with fail
 refine (below_any w0 c v xs _ D1.cur 9 (by omega) (by omega)).mono ?_
 rintro e w2 ⟨n, n0, n1, rfl, hC2, hg2⟩
 obtain ⟨n, rfl⟩ := Int.eq_ofNat_of_zero_le n0
 have D2 := D1.call hC2 hg2
 have o2 := ownsR_grown o1 hg2 hcB
 clear D1 o1 hC2 hg2
 go_wp2_with fail
 go_loopw [5, 6, 7] (fun l y i wr => ∃ (m : Nat) (z : Int) (rs : List RowD), rs.length + m ≤ 8 ∧ 0 ≤ z ∧ z + 3 * (m : Int) ≤ 26 ∧ y = .int .i64 z ∧ i = .int .i64 m ∧ OwnsR wr w.heap.size l rs ∧ Hid (∀ r ∈ rs, r.2.length ≤ 4) ∧ Dr w0 c v xs w wr) (fun _ _ i _ => (intOf i).toNat)
 case atStart => exact ⟨n, x, [], by simp; omega, x0, by omega, rfl, rfl, o2, Lib.hid (fun r hr => by simp at hr), D2⟩
 case round =>
  obtain ⟨m, z, rs, hrm, z0, z1, rfl, rfl, hown, hall, hD⟩ := hrel
  clear D2 o2
  by_cases hlt : 0 < m
  ·
   go_wp2_with fail
   refine (row_any w0 c v xs _ hD.cur z).mono ?_
   rintro e w3 ⟨id, u, ys, rfl, ou, hyl, d3⟩
   obtain ⟨ua, ucap, rfl⟩ := ints_len (ownsN_ints ou)
   have D3 := hD.call d3.cur d3.gr
   obtain ⟨cs, oX, hnext⟩ := ownsR_next (id := id) hown d3.gr hcB hD.size ou
   have HN := Lib.hid hnext
   have HRM : Hid (rs.length + m ≤ 8) := Lib.hid hrm
   have HALL : Hid (∀ r ∈ rs ++ [(id, ys)], r.2.length ≤ 4) := Lib.hid (by
    intro r hr
    rcases List.mem_append.1 hr with h | h
    ·
     exact hall.out r h
    ·
     simp at h; rw [h]; simp only; omega)
   have al : Below w3.heap.size w3 (w3.alloc (.cells #[.int .i64 id, .slice ua ys.length ucap] 51)) := (Below.refl _ _).alloc (Nat.le_refl _) _
   have oX4 := rowsC_kept oX al
   have D4 := D3.alloc (.cells #[.int .i64 id, .slice ua ys.length ucap] 51)
   have HAL := Lib.hid al
   have HD4 := Lib.hid D4
   clear hown hnext hall d3 D3 oX al ou hD hyl D4
   go_wp2_with (at_builtin; refine append_rows rfl (.tmp 19) (.tmp 23) rfl w.heap.size _ _ _ rfl oX4 HD4.out.size ⟨w3.heap.size, 0, none⟩ 1 1 [.int .i64 id, .slice ua ys.length ucap] rfl rfl (fun j u hj => by rw [Go.WideShapes.add_plain, Nat.zero_add, cell_lit]; simpa using hj) (by intro u hu; simp at hu; rcases hu with rfl | rfl <;> rfl) (by have := HRM.out; omega) ?_)
   intro u5 w5 o5 g5 _ hat
   have oR5 := HN.out _ w5 u5 HAL.out g5 o5 (by simpa [World.size_alloc] using hat)
   have D5 := HD4.out.below ((Below.refl w.heap.size _).grown g5 HD4.out.size (fun k hk => (oX4.lt k hk).1)) (Nat.le_refl _)
   clear o5 g5 hat oX4 HN HAL HD4
   go_wp2_with fail
   refine (below_any w0 c v xs _ D5.cur 3 (by omega) (by omega)).mono ?_
   rintro e w6 ⟨p, p0, p1, rfl, hC6, hg6⟩
   have D6 := D5.call hC6 hg6
   have o6 := ownsR_grown oR5 hg6 hcB
   clear D5 oR5 hC6 hg6
   go_wp2
   go_roundw
   case rel => exact ⟨m - 1, z + 1 + p, rs ++ [(id, ys)], by have := HRM.out; simp; omega, by omega, by omega, by go_num, by go_num, o6, HALL, D6⟩
   case measure => simp [intOf]; omega
  ·
   obtain rfl : m = 0 := by omega
   go_wp2
   go_ret
   exact ⟨_, rs, rfl, hown, by omega, hall.out, hD⟩
set_option maxHeartbeats 8000000 in
set_option maxRecDepth 100000 in
theorem anyRows_any (w0 : World) (c : Nat) (v : Value) (xs : List Int) (w : World) (hC : Cur w0 c v xs w) :
  Calls Tryd.prog 90 #[.pointer (some ⟨c, 0, none⟩)] w (DrawnRows w0 c v xs w) := by
 have hcB := cur_lt hC
 go_enter Tryd.func90, Tryd.ntmps90
 go_wp2_with fail
 refine (rows_any w0 c v xs _ hC).mono ?_
 rintro e w1 ⟨u, rs, rfl, o1, hl, hall, D1⟩
 go_wp2_with fail
 refine (once_any w0 c v xs _ D1.cur 6 (by omega) (by omega)).mono ?_
 rintro e w2 ⟨⟨b, rfl⟩, hC2, hg2⟩
 have D2 := D1.call hC2 hg2
 have o2 := ownsR_grown o1 hg2 hcB
 clear D1 o1 hC2 hg2 hC
 cases b with
 | false =>
  go_wp2
  go_ret
  exact ⟨_, rs, rfl, o2, by omega, hall, D2⟩
 | true =>
  have HALL0 := Lib.hid hall
  clear hall
  go_wp2_with fail
  refine (rowAny_any w0 c v xs _ D2.cur).mono ?_
  rintro e w3 ⟨id, u3, ys, rfl, ou, hyl, d3⟩
  obtain ⟨ua, ucap, rfl⟩ := ints_len (ownsN_ints ou)
  have D3 := D2.call d3.cur d3.gr
  obtain ⟨cs, oX, hnext⟩ := ownsR_next (id := id) o2 d3.gr hcB D2.size ou
  have HN := Lib.hid hnext
  have HRM : Hid (rs.length ≤ 8) := Lib.hid hl
  have HALL : Hid (∀ r ∈ rs ++ [(id, ys)], r.2.length ≤ 4) := Lib.hid (by
   intro r hr
   rcases List.mem_append.1 hr with h | h
   ·
    exact HALL0.out r h
   ·
    simp at h; rw [h]; simp only; omega)
  have al : Below w3.heap.size w3 (w3.alloc (.cells #[.int .i64 id, .slice ua ys.length ucap] 51)) := (Below.refl _ _).alloc (Nat.le_refl _) _
  have oX4 := rowsC_kept oX al
  have D4 := D3.alloc (.cells #[.int .i64 id, .slice ua ys.length ucap] 51)
  have HAL := Lib.hid al
  have HD4 := Lib.hid D4
  clear o2 hnext d3 D3 oX al ou D2 hyl D4 hl
  go_wp2_with (at_builtin; refine append_rows rfl (.tmp 8) (.tmp 11) rfl w.heap.size _ _ _ rfl oX4 HD4.out.size ⟨w3.heap.size, 0, none⟩ 1 1 [.int .i64 id, .slice ua ys.length ucap] rfl rfl (fun j u hj => by rw [Go.WideShapes.add_plain, Nat.zero_add, cell_lit]; simpa using hj) (by intro u hu; simp at hu; rcases hu with rfl | rfl <;> rfl) (by have := HRM.out; omega) ?_)
  intro u5 w5 o5 g5 _ hat
  have oR5 := HN.out _ w5 u5 HAL.out g5 o5 (by simpa [World.size_alloc] using hat)
  have D5 := HD4.out.below ((Below.refl w.heap.size _).grown g5 HD4.out.size (fun k hk => (oX4.lt k hk).1)) (Nat.le_refl _)
  clear o5 g5 hat oX4 HN HAL HD4
  go_wp2
  go_ret
  exact ⟨_, _, rfl, oR5, by have := HRM.out; simp; omega, HALL.out, D5⟩
theorem owns_belowC {w w' : World} {B C : Nat} {e : TypeId} {size : Nat} {v : Value} {n : Nat} {xs : List Value} (h : w.ownsRow B e size v n xs) (hb : Below C w w') (hC : ∀ b, v.ownBlock = some b → b < C) : w'.ownsRow B e size v n xs := by
 refine ⟨h.1, ?_⟩
 rcases h.2 with hn | ⟨g, cap, cur, rfl, hb', hg, rest⟩
 ·
  exact .inl hn
 ·
  exact .inr ⟨g, cap, cur, rfl, hb', (hb.block g (hC g rfl)).trans hg, rest⟩
/-- A query is drawn, in new memory. -/
def DrawnQ (w0 : World) (c : Nat) (v : Value) (xs : List Int) (w : World) (e : Ending) (w' : World) : Prop :=
 ∃ (id tn : Int) (cs : List CondD) (os : List Int) (cv ov : Value), e = .returned (qV id tn cv ov) ∧ OwnsC w' w.heap.size cv cs ∧ OwnsN w' w.heap.size ov os ∧ cs.length ≤ 4 ∧ os.length ≤ 4 ∧ Dr w0 c v xs w w'
def DrawnQ3 (w0 : World) (c : Nat) (v : Value) (xs : List Int) (w : World) (e : Ending) (w' : World) : Prop :=
 ∃ (id tn : Int) (cs : List CondD) (os : List Int) (cv ov : Value), e = .returned (qV id tn cv ov) ∧ OwnsC w' w.heap.size cv cs ∧ OwnsN w' w.heap.size ov os ∧ cs.length ≤ 3 ∧ os.length ≤ 3 ∧ (∀ b, cv.ownBlock = some b → ov.ownBlock ≠ some b) ∧ Dr w0 c v xs w w'
set_option maxHeartbeats 16000000 in
set_option maxRecDepth 100000 in
theorem query_drawn (w0 : World) (c : Nat) (v : Value) (xs : List Int) (w : World) (hC : Cur w0 c v xs w) (id : Int) :
  Calls Tryd.prog 140 #[.pointer (some ⟨c, 0, none⟩), .int .i64 id] w (DrawnQ3 w0 c v xs w) := by
 have D0 := (Dr.start hC).alloc (.cells #[.int .i64 0, .int .i64 0, .slice none 0 0, .slice none 0 0] 63)
 have z0 := heap_alloc_new w (.cells #[.int .i64 0, .int .i64 0, .slice none 0 0, .slice none 0 0] 63)
 have s0 : (w.alloc (.cells #[.int .i64 0, .int .i64 0, .slice none 0 0, .slice none 0 0] 63)).heap.size = w.heap.size + 1 := by simp
 have hcB := cur_lt hC
 clear hC
 go_enter Tryd.func140, Tryd.ntmps140
 go_wp2_with fail
 generalize w.alloc (.cells #[.int .i64 0, .int .i64 0, .slice none 0 0, .slice none 0 0] 63) = W at *
 refine (below_any w0 c v xs _ D0.cur 4 (by omega) (by omega)).mono ?_
 rintro e w1 ⟨tn, x0, x1, rfl, hC1, hg1⟩
 have D1 := D0.call hC1 hg1
 have z1 := keep hg1 (D0.ne (Nat.le_refl _)) z0
 have s1 : w.heap.size + 1 ≤ w1.heap.size := by rw [← s0]; exact hg1.size
 clear D0 z0 s0 hC1 hg1
 have D2 := (D1.alloc (.cells #[.int .i64 id, .int .i64 tn, .slice none 0 0, .slice none 0 0] 63)).alloc (.cells (wides.map (Value.int .i64)).toArray 3 (0, 0))
 have z2 := keepA (.cells (wides.map (Value.int .i64)).toArray 3 (0, 0)) (keepA (.cells #[.int .i64 id, .int .i64 tn, .slice none 0 0, .slice none 0 0] 63) z1)
 have b2 := keepA (.cells (wides.map (Value.int .i64)).toArray 3 (0, 0)) (heap_alloc_new w1 (.cells #[.int .i64 id, .int .i64 tn, .slice none 0 0, .slice none 0 0] 63))
 have l2 := heap_alloc_new (w1.alloc (.cells #[.int .i64 id, .int .i64 tn, .slice none 0 0, .slice none 0 0] 63)) (.cells (wides.map (Value.int .i64)).toArray 3 (0, 0))
 have s2 : ((w1.alloc (.cells #[.int .i64 id, .int .i64 tn, .slice none 0 0, .slice none 0 0] 63)).alloc (.cells (wides.map (Value.int .i64)).toArray 3 (0, 0))).heap.size = w1.heap.size + 1 + 1 := by simp
 simp only [World.size_alloc] at l2
 have hne : w1.heap.size + 1 ≠ c := D1.ne (by omega)
 have HP := Lib.hid (pick_any w0 c v xs _ D2.cur (w1.heap.size + 1) wides 3 100 wides_in (by decide) (by decide) l2 hne)
 have HS1 := Lib.hid s1
 have HD2 := Lib.hid D2
 have HZ2 := Lib.hid z2
 have HB2 := Lib.hid b2
 have HS2 := Lib.hid s2
 clear D1 z1 D2 z2 b2 l2 s2 s1 hne
 go_wp2_with fail
 refine Calls.mono HP.out ?_
 rintro e w3 ⟨wd, wd0, wd1, rfl, hC3, hg3⟩
 obtain ⟨R, hR⟩ : ∃ R, w1.heap.size = R := ⟨_, rfl⟩
 have D3 := HD2.out.call hC3 hg3
 have z3 := keep hg3 (HD2.out.ne (Nat.le_refl _)) HZ2.out
 have b3 := keep hg3 (HD2.out.ne (by have := HS1.out; omega)) HB2.out
 have s3 : w1.heap.size + 1 ≤ w3.heap.size := by have h2 := hg3.size; rw [HS2.out] at h2; omega
 rw [hR] at b3 s3 HS1 ⊢
 clear HP HD2 HZ2 HB2 HS2 hC3 hg3 hR
 go_wp2
 go_loopw [7] (fun i wr => ∃ (k : Nat) (cv : Value) (cs : List CondD), k ≤ 3 ∧ Hid (cs.length ≤ k) ∧ i = .int .i64 k ∧ wr.heap[R]? = some (.cells #[.int .i64 id, .int .i64 tn, cv, .slice none 0 0] 63 (0, 0)) ∧ wr.heap[w.heap.size]? = some (.cells #[.int .i64 0, .int .i64 0, .slice none 0 0, .slice none 0 0] 63 (0, 0)) ∧ OwnsC wr (R + 1) cv cs ∧ Dr w0 c v xs w wr) (fun i _ => 3 - (intOf i).toNat)
 case atStart => exact ⟨0, .slice none 0 0, [], by omega, Lib.hid (by simp), rfl, b3, z3, ownsC_nil _ _, D3⟩
 case round =>
  obtain ⟨k, cv, cs, hk, hcl, rfl, hb, hz, hown, hD⟩ := hrel
  clear D3 b3 z3 s3
  obtain ⟨ca, ccap, rfl⟩ := ownsC_len hown
  have hRl := (Array.getElem?_eq_some_iff.1 hb).1
  by_cases hlt : k < 3
  ·
   go_wp2_with fail
   refine (once_any w0 c v xs _ hD.cur 2 (by omega) (by omega)).mono ?_
   rintro e w4 ⟨⟨b, rfl⟩, hC4, hg4⟩
   have D4 := hD.call hC4 hg4
   have b4 := keep hg4 (hD.ne (by have := HS1.out; omega)) hb
   have z4 := keep hg4 (hD.ne (Nat.le_refl _)) hz
   have o4 : OwnsC w4 (R + 1) _ cs := kept_low hown hg4 (by have := hD.lt; have := HS1.out; omega)
   have l4 := Nat.lt_of_lt_of_le hRl hg4.size
   clear hD hC4 hg4 hb hz hown hRl
   cases b with
   | false =>
    go_wp2
    go_roundw
    case rel => exact ⟨k + 1, _, cs, by omega, Lib.hid (by have := hcl.out; omega), by go_num, b4, z4, o4, D4⟩
    case measure => simp [intOf]; omega
   | true =>
    go_wp2_with fail
    refine (below_any w0 c v xs _ D4.cur wd (by omega) (by omega)).mono ?_
    rintro e w5 ⟨lo, lo0, lo1, rfl, hC5, hg5⟩
    have D5 := D4.call hC5 hg5
    have b5 := keep hg5 (D4.ne (by have := HS1.out; omega)) b4
    have z5 := keep hg5 (D4.ne (Nat.le_refl _)) z4
    have o5 : OwnsC w5 (R + 1) _ cs := kept_low o4 hg5 (by have := D4.lt; have := HS1.out; omega)
    have l5 := Nat.lt_of_lt_of_le l4 hg5.size
    clear D4 hC5 hg5 b4 z4 o4 l4
    go_wp2_with fail
    refine (below_any w0 c v xs _ D5.cur wd (by omega) (by omega)).mono ?_
    rintro e w6 ⟨x, xl, xh, rfl, hC6, hg6⟩
    have D6 := D5.call hC6 hg6
    have b6 := keep hg6 (D5.ne (by have := HS1.out; omega)) b5
    have z6 := keep hg6 (D5.ne (Nat.le_refl _)) z5
    have o6 : OwnsC w6 (R + 1) _ cs := kept_low o5 hg6 (by have := D5.lt; have := HS1.out; omega)
    have l6 := Nat.lt_of_lt_of_le l5 hg6.size
    clear D5 hC6 hg6 b5 z5 o5 l5
    have wsum : IntKind.i64.wrap (lo + x) = lo + x := IntWalk.i64_in _ (by omega)
    go_wp2_with fail
    generalize min 99 (lo + x) = hi at *
    clear wsum
    refine (once_any w0 c v xs _ D6.cur 3 (by omega) (by omega)).mono ?_
    rintro e w7 ⟨⟨b7', rfl⟩, hC7, hg7⟩
    have D7 := D6.call hC7 hg7
    have b7 := keep hg7 (D6.ne (by have := HS1.out; omega)) b6
    have z7 := keep hg7 (D6.ne (Nat.le_refl _)) z6
    have o7 : OwnsC w7 (R + 1) _ cs := kept_low o6 hg7 (by have := D6.lt; have := HS1.out; omega)
    have l7 := Nat.lt_of_lt_of_le l6 hg7.size
    clear D6 hC7 hg7 b6 z6 o6 l6
    cases b7' with
    | false =>
     have al : Below w7.heap.size w7 (w7.alloc (.cells #[.int .i64 (k : Int), .int .i64 lo, .int .i64 hi] 124)) := (Below.refl _ _).alloc (Nat.le_refl _) _
     have q7 : (w7.alloc (.cells #[.int .i64 (k : Int), .int .i64 lo, .int .i64 hi] 124)).cell? ⟨w7.heap.size, 0, none⟩ = some (.int .i64 (k : Int)) ∧ (w7.alloc (.cells #[.int .i64 (k : Int), .int .i64 lo, .int .i64 hi] 124)).cell? ⟨w7.heap.size, 1, none⟩ = some (.int .i64 lo) ∧ (w7.alloc (.cells #[.int .i64 (k : Int), .int .i64 lo, .int .i64 hi] 124)).cell? ⟨w7.heap.size, 2, none⟩ = some (.int .i64 hi) := ⟨(cell_lit w7 #[.int .i64 (k : Int), .int .i64 lo, .int .i64 hi] 124 0).trans rfl, (cell_lit w7 #[.int .i64 (k : Int), .int .i64 lo, .int .i64 hi] 124 1).trans rfl, (cell_lit w7 #[.int .i64 (k : Int), .int .i64 lo, .int .i64 hi] 124 2).trans rfl⟩
     have l8 : w7.heap.size < (w7.alloc (.cells #[.int .i64 (k : Int), .int .i64 lo, .int .i64 hi] 124)).heap.size := by simp
     have HC7 := Lib.hid (conds_one q7 l8)
     have b8 := keepA (.cells #[.int .i64 (k : Int), .int .i64 lo, .int .i64 hi] 124) b7
     have z8 := keepA (.cells #[.int .i64 (k : Int), .int .i64 lo, .int .i64 hi] 124) z7
     have o8 := ownsC_below o7 al
     have D8 := D7.alloc (.cells #[.int .i64 (k : Int), .int .i64 lo, .int .i64 hi] 124)
     have s8 := Nat.le_trans (Nat.succ_le_of_lt l7) al.size
     have p2 := (cell_of_row w7 _ 2 _ _ _ b7).trans (show _ = some (Value.slice ca cs.length ccap) from rfl)
     clear al q7 l8 b7 z7 o7 D7 l7
     go_wp2_with (at_builtin; refine wpl_append_conds rfl (.tmp 38) (.tmp 43) rfl (R + 1) _ _ cs [((k : Int), lo, hi)] rfl rfl o8 HC7.out s8 (by have := hcl.out; simp; omega) ?_)
     intro u9 w9 o9 bl9
     obtain ⟨ub, ubc, rfl⟩ := ownsC_len o9
     have o9c : OwnsC w9 (R + 1) (.slice ub (cs.length + 1) ubc) (cs ++ [((k : Int), lo, hi)]) := by simpa using o9
     have b9 := keepB bl9 (Nat.lt_succ_self _) b8
     have z9 := keepB bl9 (by have := HS1.out; omega) z8
     have D9 := D8.below bl9 (by have := HS1.out; omega)
     simp only [List.length_append, List.length_cons, List.length_nil, Nat.zero_add]
     have y2 := (cell_of_row w9 _ 2 _ _ _ b9).trans (show _ = some (Value.slice ca cs.length ccap) from rfl)
     have f2 := frozen_of_row w9 _ 2 _ _ b9
     clear o8 b8 z8 D8 s8 bl9 o9 p2
     go_wp2
     have r9 := heap_setCell_same w9 R 2 _ _ (.slice ub (cs.length + 1) ubc) b9
     have zz := (heap_setCell_other w9 ⟨R, 2, none⟩ w.heap.size (.slice ub (cs.length + 1) ubc) (by have := HS1.out; simp; omega)).trans z9
     have D10 := D9.set (R := R) (by have := HS1.out; omega) 2 (.slice ub (cs.length + 1) ubc)
     have o10 := ownsC_low o9c (b := R) (Nat.lt_succ_self _) 2 (.slice ub (cs.length + 1) ubc)
     go_roundw
     case rel => exact ⟨k + 1, _, _, by omega, Lib.hid (by have := hcl.out; simp; omega), by go_num, r9, zz, o10, D10⟩
     case measure => simp [intOf]; omega
    | true =>
     have al : Below w7.heap.size w7 (w7.alloc (.cells #[.int .i64 (k : Int), .int .i64 lo, .int .i64 lo] 124)) := (Below.refl _ _).alloc (Nat.le_refl _) _
     have q7 : (w7.alloc (.cells #[.int .i64 (k : Int), .int .i64 lo, .int .i64 lo] 124)).cell? ⟨w7.heap.size, 0, none⟩ = some (.int .i64 (k : Int)) ∧ (w7.alloc (.cells #[.int .i64 (k : Int), .int .i64 lo, .int .i64 lo] 124)).cell? ⟨w7.heap.size, 1, none⟩ = some (.int .i64 lo) ∧ (w7.alloc (.cells #[.int .i64 (k : Int), .int .i64 lo, .int .i64 lo] 124)).cell? ⟨w7.heap.size, 2, none⟩ = some (.int .i64 lo) := ⟨(cell_lit w7 #[.int .i64 (k : Int), .int .i64 lo, .int .i64 lo] 124 0).trans rfl, (cell_lit w7 #[.int .i64 (k : Int), .int .i64 lo, .int .i64 lo] 124 1).trans rfl, (cell_lit w7 #[.int .i64 (k : Int), .int .i64 lo, .int .i64 lo] 124 2).trans rfl⟩
     have l8 : w7.heap.size < (w7.alloc (.cells #[.int .i64 (k : Int), .int .i64 lo, .int .i64 lo] 124)).heap.size := by simp
     have HC7 := Lib.hid (conds_one q7 l8)
     have b8 := keepA (.cells #[.int .i64 (k : Int), .int .i64 lo, .int .i64 lo] 124) b7
     have z8 := keepA (.cells #[.int .i64 (k : Int), .int .i64 lo, .int .i64 lo] 124) z7
     have o8 := ownsC_below o7 al
     have D8 := D7.alloc (.cells #[.int .i64 (k : Int), .int .i64 lo, .int .i64 lo] 124)
     have s8 := Nat.le_trans (Nat.succ_le_of_lt l7) al.size
     have p2 := (cell_of_row w7 _ 2 _ _ _ b7).trans (show _ = some (Value.slice ca cs.length ccap) from rfl)
     clear al q7 l8 b7 z7 o7 D7 l7
     go_wp2_with (at_builtin; refine wpl_append_conds rfl (.tmp 38) (.tmp 43) rfl (R + 1) _ _ cs [((k : Int), lo, lo)] rfl rfl o8 HC7.out s8 (by have := hcl.out; simp; omega) ?_)
     intro u9 w9 o9 bl9
     obtain ⟨ub, ubc, rfl⟩ := ownsC_len o9
     have o9c : OwnsC w9 (R + 1) (.slice ub (cs.length + 1) ubc) (cs ++ [((k : Int), lo, lo)]) := by simpa using o9
     have b9 := keepB bl9 (Nat.lt_succ_self _) b8
     have z9 := keepB bl9 (by have := HS1.out; omega) z8
     have D9 := D8.below bl9 (by have := HS1.out; omega)
     simp only [List.length_append, List.length_cons, List.length_nil, Nat.zero_add]
     have y2 := (cell_of_row w9 _ 2 _ _ _ b9).trans (show _ = some (Value.slice ca cs.length ccap) from rfl)
     have f2 := frozen_of_row w9 _ 2 _ _ b9
     clear o8 b8 z8 D8 s8 bl9 o9 p2
     go_wp2
     have r9 := heap_setCell_same w9 R 2 _ _ (.slice ub (cs.length + 1) ubc) b9
     have zz := (heap_setCell_other w9 ⟨R, 2, none⟩ w.heap.size (.slice ub (cs.length + 1) ubc) (by have := HS1.out; simp; omega)).trans z9
     have D10 := D9.set (R := R) (by have := HS1.out; omega) 2 (.slice ub (cs.length + 1) ubc)
     have o10 := ownsC_low o9c (b := R) (Nat.lt_succ_self _) 2 (.slice ub (cs.length + 1) ubc)
     go_roundw
     case rel => exact ⟨k + 1, _, _, by omega, Lib.hid (by have := hcl.out; simp; omega), by go_num, r9, zz, o10, D10⟩
     case measure => simp [intOf]; omega
  ·
   obtain rfl : k = 3 := by omega
   go_wp2_with fail
   refine (below_any w0 c v xs _ hD.cur 3 (by omega) (by omega)).mono ?_
   rintro e w4 ⟨n, n0, n1, rfl, hC4, hg4⟩
   obtain ⟨n, rfl⟩ := Int.eq_ofNat_of_zero_le n0
   have D4 := hD.call hC4 hg4
   have b4 := keep hg4 (hD.ne (by have := HS1.out; omega)) hb
   have z4 := keep hg4 (hD.ne (Nat.le_refl _)) hz
   have o4 : OwnsC w4 (R + 1) _ cs := kept_low hown hg4 (by have := hD.lt; have := HS1.out; omega)
   have HL4 := Lib.hid (Nat.lt_of_lt_of_le hRl hg4.size)
   have HCB := Lib.hid (fun b (hb : (Value.slice ca cs.length ccap).ownBlock = some b) => o4.lt b hb)
   have HCL := Lib.hid hcl.out
   clear hD hC4 hg4 hb hz hown hRl hcl hlt hk
   obtain ⟨C, hCC⟩ : ∃ C, w4.heap.size = C := ⟨_, rfl⟩
   have HCS : Hid (C ≤ w4.heap.size) := Lib.hid (by omega)
   rw [hCC] at HL4 HCB
   clear hCC
   have wn : IntKind.i64.wrap (1 + (n : Int)) = ((n + 1 : Nat) : Int) := by rw [IntWalk.i64_in _ (by omega)]; omega
   go_wp2
   clear wn
   go_loopw [10] (fun i wr => ∃ (m : Nat) (ov : Value) (os : List Int), Hid (os.length + m ≤ 3) ∧ i = .int .i64 m ∧ wr.heap[R]? = some (.cells #[.int .i64 id, .int .i64 tn, .slice ca cs.length ccap, ov] 63 (0, 0)) ∧ wr.heap[w.heap.size]? = some (.cells #[.int .i64 0, .int .i64 0, .slice none 0 0, .slice none 0 0] 63 (0, 0)) ∧ OwnsC wr (R + 1) (.slice ca cs.length ccap) cs ∧ OwnsN wr C ov os ∧ Hid (C ≤ wr.heap.size) ∧ Dr w0 c v xs w wr) (fun i _ => (intOf i).toNat)
   case atStart => exact ⟨n + 1, .slice none 0 0, [], Lib.hid (by simp; omega), by simp, b4, z4, o4, ownsN_nil _ _, HCS, D4⟩
   case round =>
    obtain ⟨m, ov, os, hom, rfl, hb, hz, hoc, hon, hCs, hD⟩ := hrel
    clear D4 b4 z4 o4 HCS
    obtain ⟨oa, ocap, rfl⟩ := ints_len (ownsN_ints hon)
    by_cases hlt : 0 < m
    ·
     have hm4 : m ≤ 3 := by have := hom.out; omega
     go_wp2_with fail
     refine (below_any w0 c v xs _ hD.cur 3 (by omega) (by omega)).mono ?_
     rintro e w5 ⟨f, fl, fh, rfl, hC5, hg5⟩
     have D5 := hD.call hC5 hg5
     have b5 := keep hg5 (hD.ne (by have := HS1.out; omega)) hb
     have z5 := keep hg5 (hD.ne (Nat.le_refl _)) hz
     have oc5 : OwnsC w5 (R + 1) _ cs := kept_low hoc hg5 (by have := hD.lt; have := HS1.out; omega)
     have on5 := ownsN_grown hon hg5 (by have := hD.lt; have := HS1.out; have := HL4.out; omega)
     have s5 := Nat.le_trans hCs.out hg5.size
     clear hD hC5 hg5 hb hz hoc hon hCs
     have al : Below w5.heap.size w5 (w5.alloc (.cells #[.int .i64 f] 3)) := (Below.refl _ _).alloc (Nat.le_refl _) _
     have q7 := (cell_lit w5 #[.int .i64 f] 3 0).trans (show _ = some (Value.int .i64 f) from rfl)
     have b6 := keepA (.cells #[.int .i64 f] 3) b5
     have z6 := keepA (.cells #[.int .i64 f] 3) z5
     have oc6 := ownsC_below oc5 al
     have on6 := ownsN_below on5 al
     have D6 := D5.alloc (.cells #[.int .i64 f] 3)
     have s6 := Nat.le_trans s5 al.size
     have p3 := (cell_of_row w5 _ 3 _ _ _ b5).trans (show _ = some (Value.slice oa os.length ocap) from rfl)
     clear D5 b5 z5 oc5 on5 s5 al
     go_wp2_with (at_builtin; refine wpl_append_one rfl (.tmp 56) (.tmp 58) rfl C (.slice oa os.length ocap) os w5.heap.size f rfl rfl on6 q7 s6 (by have := hom.out; omega) ?_)
     intro u9 w9 o9 g9
     obtain ⟨ub, ubc, rfl⟩ := ints_len (ownsN_ints o9)
     have on9 : OwnsN w9 C (.slice ub (os.length + 1) ubc) (os ++ [f]) := by simpa using o9
     have bl9 := (Below.refl C _).grown g9 s6 (fun q hq => (on6.lt q hq).1)
     have b9 := keepB bl9 HL4.out b6
     have z9 := keepB bl9 (by have := HS1.out; have := HL4.out; omega) z6
     have D9 := D6.below bl9 (by have := HS1.out; have := HL4.out; omega)
     have oc9 : OwnsC w9 (R + 1) _ cs := owns_belowC oc6 bl9 (fun q hq => (HCB.out q hq).2)
     simp only [List.length_append, List.length_cons, List.length_nil, Nat.zero_add]
     have y3 := (cell_of_row w9 _ 3 _ _ _ b9).trans (show _ = some (Value.slice oa os.length ocap) from rfl)
     have f3 := frozen_of_row w9 _ 3 _ _ b9
     have s9 := Nat.le_trans s6 g9.size
     clear o9 g9 b6 z6 oc6 on6 D6 s6 p3 q7 bl9
     go_wp2
     have r9 := heap_setCell_same w9 R 3 _ _ (.slice ub (os.length + 1) ubc) b9
     have zz := (heap_setCell_other w9 ⟨R, 3, none⟩ w.heap.size (.slice ub (os.length + 1) ubc) (by have := HS1.out; simp; omega)).trans z9
     have D10 := D9.set (R := R) (by have := HS1.out; omega) 3 (.slice ub (os.length + 1) ubc)
     have oc10 := ownsC_low oc9 (b := R) (Nat.lt_succ_self _) 3 (.slice ub (os.length + 1) ubc)
     have on10 := ownsN_low on9 (b := R) HL4.out 3 (.slice ub (os.length + 1) ubc)
     go_roundw
     case rel => exact ⟨m - 1, _, _, Lib.hid (by have := hom.out; simp; omega), by go_num, r9, zz, oc10, on10, Lib.hid (by simpa [World.setCell] using s9), D10⟩
     case measure => simp [intOf]; omega
    ·
     obtain rfl : m = 0 := by omega
     have q0 := (cell_of_row wr _ 0 _ _ _ hb).trans (show _ = some (Value.int .i64 id) from rfl)
     have y0 := (cell_of_row wr _ 0 _ _ _ hz).trans (show _ = some (Value.int .i64 0) from rfl)
     have f0 := frozen_of_row wr _ 0 _ _ hz
     have q1 := (cell_of_row wr _ 1 _ _ _ hb).trans (show _ = some (Value.int .i64 tn) from rfl)
     have y1 := (cell_of_row wr _ 1 _ _ _ hz).trans (show _ = some (Value.int .i64 0) from rfl)
     have f1 := frozen_of_row wr _ 1 _ _ hz
     have q2 := (cell_of_row wr _ 2 _ _ _ hb).trans (show _ = some (Value.slice ca cs.length ccap) from rfl)
     have y2 := (cell_of_row wr _ 2 _ _ _ hz).trans (show _ = some (Value.slice none 0 0) from rfl)
     have f2 := frozen_of_row wr _ 2 _ _ hz
     have q3 := (cell_of_row wr _ 3 _ _ _ hb).trans (show _ = some (Value.slice oa os.length ocap) from rfl)
     have y3 := (cell_of_row wr _ 3 _ _ _ hz).trans (show _ = some (Value.slice none 0 0) from rfl)
     have f3 := frozen_of_row wr _ 3 _ _ hz
     go_wp2
     have r1 := heap_setCell_same wr w.heap.size 0 _ _ (.int .i64 id) hz
     have r2 := heap_setCell_same _ w.heap.size 1 _ _ (.int .i64 tn) r1
     have r3 := heap_setCell_same _ w.heap.size 2 _ _ (.slice ca cs.length ccap) r2
     have r4 := heap_setCell_same _ w.heap.size 3 _ _ (.slice oa os.length ocap) r3
     have D9 := ((((hD.set (R := w.heap.size) (Nat.le_refl _) 0 (.int .i64 id)).set (R := w.heap.size) (Nat.le_refl _) 1 (.int .i64 tn)).set (R := w.heap.size) (Nat.le_refl _) 2 (.slice ca cs.length ccap)).set (R := w.heap.size) (Nat.le_refl _) 3 (.slice oa os.length ocap))
     have oc9 := (ownsC_low (ownsC_low (ownsC_low (ownsC_low hoc (b := w.heap.size) (by have := HS1.out; omega) 0 (.int .i64 id)) (b := w.heap.size) (by have := HS1.out; omega) 1 (.int .i64 tn)) (b := w.heap.size) (by have := HS1.out; omega) 2 (.slice ca cs.length ccap)) (b := w.heap.size) (by have := HS1.out; omega) 3 (.slice oa os.length ocap))
     have on9 := (ownsN_low (ownsN_low (ownsN_low (ownsN_low hon (b := w.heap.size) (by have := HS1.out; have := HL4.out; omega) 0 (.int .i64 id)) (b := w.heap.size) (by have := HS1.out; have := HL4.out; omega) 1 (.int .i64 tn)) (b := w.heap.size) (by have := HS1.out; have := HL4.out; omega) 2 (.slice ca cs.length ccap)) (b := w.heap.size) (by have := HS1.out; have := HL4.out; omega) 3 (.slice oa os.length ocap))
     have e0 := cell_of_row _ _ 0 _ _ _ r4
     have e1 := cell_of_row _ _ 1 _ _ _ r4
     have e2 := cell_of_row _ _ 2 _ _ _ r4
     have e3 := cell_of_row _ _ 3 _ _ _ r4
     simp at e0 e1 e2 e3
     have hap : ∀ b, (Value.slice ca cs.length ccap).ownBlock = some b → (Value.slice oa os.length ocap).ownBlock ≠ some b := fun b h1 h2 => by have := (HCB.out b h1).2; have := (hon.lt b h2).1; omega
     refine bodyPost_ret (v := qV id tn (.slice ca cs.length ccap) (.slice oa os.length ocap)) ?_ rfl ?_
     ·
      simp [results, Tryd.f140, go_sem, e0, e1, e2, e3, qV]
     ·
      exact ⟨id, tn, cs, os, _, _, rfl, ownsC_up oc9 (by have := HS1.out; omega), ownsN_up on9 (by have := HS1.out; have := HL4.out; omega), HCL.out, by have := hom.out; omega, hap, D9⟩
end Go.Proofs.YtededfficggkaaaDoor
