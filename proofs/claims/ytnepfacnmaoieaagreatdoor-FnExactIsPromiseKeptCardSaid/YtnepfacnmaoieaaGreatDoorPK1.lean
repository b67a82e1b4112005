/-
 Texts of the proof, merged: Ints, LawInts, RowVal, Ty, TyInt, TVersion, TVersionS, TVersionSS, TStore, TyIntE, TCond, TCondS, TQuery, TRow, TRowS, TActive, TActiveS, TFinished, TFinishedS, TCharge, TChargeS, TEngine.
-/
import Derived.Test.YtnepfacnmaoieaaGreatDoorRows
import Derived.WalkKit
import Derived.Below
import Derived.Lib.Hide
import Derived.OwnWalk
import Derived.BigQuiet
import Derived.Deep.QuietTactic
import Derived.WalkSpells
import Derived.Deep.RegionHeld3
import Derived.IntWalk
import Derived.Laws.OwnMore
import Derived.Laws.MakeOwn
namespace Go.Proofs.YtnepfacnmaoieaaGreatDoor
open Go.RowKit
set_option maxRecDepth 100000
set_option linter.unusedVariables false
set_option linter.unusedSimpArgs false
theorem Tryz.infoI64 : (Tryz.prog.info? 3).map (fun i => (i.zero, i.size, i.bytes)) = some (some (.int .i64 0), 1, 8) := by kernel_rfl
/-- The slice v reads as the numbers xs. -/
def Ints (w : World) (v : Value) (xs : List Int) : Prop :=
 (xs = [] ∧ ∃ a cap, v = .slice a 0 cap) ∨ ∃ b off cap, v = .slice (some ⟨b, off, none⟩) xs.length cap ∧ xs.length ≤ cap ∧ b < w.heap.size ∧ ∀ j, j < xs.length → w.cell? ⟨b, off + j, none⟩ = some (.int .i64 (xs.getD j 0))
/-- The slice v owns the numbers xs, in a block from B on. -/
def OwnsN (w : World) (B : Nat) (v : Value) (xs : List Int) : Prop := w.ownsRow B 3 1 v xs.length (xs.map (Value.int .i64))
theorem below_same {B : Nat} {a w w' : World} (h : Below B a w) (h1 : w'.heap = w.heap) (h2 : w'.os = w.os) (h3 : w'.tape = w.tape) (h4 : w'.output = w.output) : Below B a w' :=
 ⟨h2.trans h.os, h3.trans h.tape, h4.trans h.output, by rw [h1]; exact h.size, fun k hk => by rw [h1]; exact h.block k hk⟩
theorem ints_len {w : World} {v : Value} {xs : List Int} (h : Ints w v xs) : ∃ a cap, v = .slice a xs.length cap := by
 rcases h with ⟨rfl, a, cap, rfl⟩ | ⟨b, off, cap, rfl, _⟩
 ·
  exact ⟨a, cap, rfl⟩
 ·
  exact ⟨_, cap, rfl⟩
theorem ints_below {W w : World} {v : Value} {xs : List Int} (h : Ints W v xs) (hb : Below W.heap.size W w) : Ints w v xs := by
 rcases h with h | ⟨b, off, cap, h1, h2, h3, h4⟩
 ·
  exact Or.inl h
 ·
  exact Or.inr ⟨b, off, cap, h1, h2, Nat.lt_of_lt_of_le h3 hb.size, fun j hj => (hb.cell (p := ⟨b, off + j, none⟩) h3).trans (h4 j hj)⟩
/-- What 'make([]int, n)' owns. -/
theorem ownsN_made {w : World} {B g n : Nat} (h : w.ownsRow B 3 1 (.slice (some ⟨g, 0, none⟩) n n) n (madeCells #[Value.int .i64 0] n).toList) : OwnsN w B (.slice (some ⟨g, 0, none⟩) n n) (List.replicate n 0) := by
 have e : (madeCells #[Value.int .i64 0] n).toList = List.replicate n (.int .i64 0) := toList_madeCells_one (.int .i64 0) n
 rw [e] at h
 unfold OwnsN
 simpa using h
theorem ownsN_len {w : World} {B : Nat} {a : Option Addr} {n cap : Nat} {xs : List Int} (h : OwnsN w B (.slice a n cap) xs) : n = xs.length := by
 rcases h.2 with ⟨h', h0⟩ | ⟨_, _, _, h', _⟩
 ·
  simp only [Value.slice.injEq] at h'; omega
 ·
  simp only [Value.slice.injEq] at h'; exact h'.2.1
theorem ownsN_cell {w : World} {B g n cap j : Nat} {xs : List Int} {x : Int} (h : OwnsN w B (.slice (some ⟨g, 0, none⟩) n cap) xs) (hx : xs[j]? = some x) : w.cell? ⟨g, j, none⟩ = some (.int .i64 x) := by
 have := World.ownsRow.cells h (g := g) rfl j (.int .i64 x) (by simp [hx])
 have e : (⟨g, 0, none⟩ : Addr).add j = ⟨g, j, none⟩ := by unfold Addr.add; split <;> simp_all
 rwa [e] at this
theorem ownsN_frozen {w : World} {B g n cap : Nat} {xs : List Int} (h : OwnsN w B (.slice (some ⟨g, 0, none⟩) n cap) xs) (j : Nat) : w.frozen? ⟨g, j, none⟩ = false := by
 obtain rfl := ownsN_len h
 exact World.ownsRow.frozenAt h j
theorem ownsN_store {w : World} {B g n cap : Nat} {xs : List Int} (h : OwnsN w B (.slice (some ⟨g, 0, none⟩) n cap) xs) (j : Nat) (x : Int) : OwnsN (w.setCell ⟨g, j, none⟩ (.int .i64 x)) B (.slice (some ⟨g, 0, none⟩) n cap) (xs.set j x) := by
 obtain rfl := ownsN_len h
 have := (World.ownsRow.stored h j (.int .i64 x)).1
 unfold OwnsN
 rw [List.length_set, List.map_set]
 exact this
/-- A slice in new memory that holds the numbers xs. -/
def Fresh (w : World) (xs : List Int) (e : Ending) (w' : World) : Prop := ∃ v', e = .returned v' ∧ OwnsN w' w.heap.size v' xs ∧ Below w.heap.size w w'
theorem ints_cell {w : World} {v : Value} {xs : List Int} (h : Ints w v xs) (hp : 0 < xs.length) : ∃ b off cap, v = .slice (some ⟨b, off, none⟩) xs.length cap ∧ b < w.heap.size ∧ ∀ j, j < xs.length → w.cell? ⟨b, off + j, none⟩ = some (.int .i64 (xs.getD j 0)) := by
 rcases h with ⟨rfl, _⟩ | ⟨b, off, cap, h1, h2, h3, h4⟩
 ·
  simp at hp
 ·
  exact ⟨b, off, cap, h1, h3, h4⟩
theorem copy_step (xs : List Int) (k : Nat) (h : k < xs.length) : (xs.take k ++ List.replicate (xs.length - k) 0).set k (xs.getD k 0) = xs.take (k + 1) ++ List.replicate (xs.length - (k + 1)) 0 := by
 have hk : (xs.take k).length = k := by rw [List.length_take]; omega
 rw [List.set_append_right _ _ (by omega), hk, Nat.sub_self, show xs.length - k = (xs.length - (k + 1)) + 1 by omega, List.replicate_succ, List.set_cons_zero, List.take_succ_eq_append_getElem h, List.append_assoc]
 simp [List.getD, h]
theorem copy_at (xs : List Int) (k : Nat) (h : k < xs.length) : (xs.take k ++ List.replicate (xs.length - k) 0)[k]? = some 0 := by
 have hk : (xs.take k).length = k := by rw [List.length_take]; omega
 rw [List.getElem?_append_right (by omega), hk, Nat.sub_self, List.getElem?_replicate, if_pos (by omega)]
theorem toIntS_any (v : Value) (xs : List Int) (w : World) (h : Ints w v xs) (hn : xs.length ≤ 1048576) :
  Calls Tryz.prog 57 #[v] w (Fresh w xs) := by
 obtain ⟨i0, hi, hz0, hz1, hz2⟩ := info_parts Tryz.infoI64
 have HI := Lib.hid hi; have HZ0 := Lib.hid hz0; have HZ1 := Lib.hid hz1; have HZ2 := Lib.hid hz2
 clear hi hz0 hz1 hz2
 have H := Lib.hid h
 obtain ⟨a, cap, rfl⟩ := ints_len h
 clear h
 go_enter Tryz.func57, Tryz.ntmps57
 go_wp2_with (at_make; refine wpList_make_full _ rfl (.tmp 6) (.tmp 6) 25 rfl w.heap.size 3 i0 (.int .i64 0) 1 Tryz.underlying25 HI.out HZ0.out HZ1.out _ _ _ _ xs.length rfl rfl rfl rfl (by rw [HZ2.out]; omega) (by unfold maxLen; omega) (Nat.le_refl _) ?_)
 intro w1 hown0 hg0
 have hown1 := ownsN_made hown0
 have hbel1 := (Below.refl w.heap.size w).grown hg0 (Nat.le_refl _) (fun k hk => by cases hk)
 clear hown0 hg0
 go_wp2
 go_loopw [4] (fun i wr => ∃ k : Nat, k ≤ xs.length ∧ i = .int .i64 k ∧ OwnsN wr w.heap.size (.slice (some ⟨w.heap.size, 0, none⟩) xs.length xs.length) (xs.take k ++ List.replicate (xs.length - k) 0) ∧ Below w.heap.size w wr) (fun i _ => xs.length - (intOf i).toNat)
 case atStart => exact ⟨0, Nat.zero_le _, rfl, by simpa using hown1, hbel1⟩
 case round =>
  obtain ⟨k, hk, rfl, hown, hbel⟩ := hrel
  by_cases hlt : k < xs.length
  ·
   obtain ⟨b, off, cap', hv, hbl, hc⟩ := ints_cell H.out (by omega)
   simp only [Value.slice.injEq] at hv
   obtain ⟨rfl, _, rfl⟩ := hv
   have hcell := (hbel.cell (p := ⟨b, off + k, none⟩) hbl).trans (hc k hlt)
   have hset := copy_step xs k hlt
   have i1 : (0 : Int) ≤ (k : Int) := by omega
   have i2 : (k : Int) < (xs.length : Int) := by omega
   have c1 := ownsN_cell hown (copy_at xs k hlt)
   have f1 := ownsN_frozen hown k
   have hst := ownsN_store hown k (xs.getD k 0)
   rw [hset] at hst
   have hb2 := hbel.setCell (p := ⟨w.heap.size, k, none⟩) (Nat.le_refl _) (.int .i64 (xs.getD k 0))
   have HST := Lib.hid hst
   clear hst hset hc hown hbel hown1 hbel1
   generalize xs.getD k 0 = y at *
   go_wp2
   go_roundw
   case rel => exact ⟨k + 1, by omega, by go_num, HST.out, hb2⟩
   case measure => simp [intOf]; omega
  ·
   obtain rfl : k = xs.length := by omega
   rw [List.take_of_length_le (Nat.le_refl _), Nat.sub_self, List.replicate_zero, List.append_nil] at hown
   go_wp2
   go_ret
   exact ⟨_, rfl, hown, hbel⟩
theorem eqIntS_same (v u : Value) (xs : List Int) (w : World) (h : Ints w v xs) (g : Ints w u xs) (hn : xs.length ≤ 1048576) :
  Calls Tryz.prog 65 #[v, u] w fun e w' => e = .returned (.bool true) ∧ Below w.heap.size w w' := by
 have H := Lib.hid h
 have G := Lib.hid g
 obtain ⟨a, cap, rfl⟩ := ints_len h
 obtain ⟨a2, cap2, rfl⟩ := ints_len g
 clear h g
 go_enter Tryz.func65, Tryz.ntmps65
 go_wp2
 go_loopw [5] (fun i wr => ∃ k : Nat, k ≤ xs.length ∧ i = .int .i64 k ∧ Below w.heap.size w wr) (fun i _ => xs.length - (intOf i).toNat)
 case atStart => exact ⟨0, Nat.zero_le _, rfl, Below.refl _ _⟩
 case round =>
  obtain ⟨k, hk, rfl, hbel⟩ := hrel
  by_cases hlt : k < xs.length
  ·
   obtain ⟨b, off, cap', hv, hbl, hc⟩ := ints_cell H.out (by omega)
   obtain ⟨b2, off2, cap2', hv2, hbl2, hc2⟩ := ints_cell G.out (by omega)
   simp only [Value.slice.injEq] at hv hv2
   obtain ⟨rfl, _, rfl⟩ := hv
   obtain ⟨rfl, _, rfl⟩ := hv2
   have hcell := (hbel.cell (p := ⟨b, off + k, none⟩) hbl).trans (hc k hlt)
   have hcell2 := (hbel.cell (p := ⟨b2, off2 + k, none⟩) hbl2).trans (hc2 k hlt)
   have i1 : (0 : Int) ≤ (k : Int) := by omega
   have i2 : (k : Int) < (xs.length : Int) := by omega
   clear hc hc2
   generalize xs.getD k 0 = y at *
   go_wp2
   go_quiet (fail)
   go_wp2
   go_roundw
   case rel => exact ⟨k + 1, by omega, by go_num, below_same hbel rfl rfl rfl rfl⟩
   case measure => simp [intOf]; omega
  ·
   obtain rfl : k = xs.length := by omega
   go_wp2
   go_ret
   exact ⟨rfl, hbel⟩
/-- The numbers k, k + 1, ... -/
def marks (k : Int) (n : Nat) : List Int := (List.range n).map fun i : Nat => k + (i : Int)
/-- A row: its number and its values. -/
abbrev RowD := Int × List Int
theorem szInt_yes (a : Option Addr) (cap n : Nat) (k : Int) (w : World) (h : (n : Int) ≤ k) (hk : k ≤ 1048576) :
  Calls Tryz.prog 50 #[.slice a n cap, .int .i64 k] w fun e w' => e = .returned (.int .i64 (k - (n : Int))) ∧ w' = w := by
 have h0 : ¬ k - (n : Int) < 0 := by omega
 go_enter Tryz.func50, Tryz.ntmps50
 go_wp2
 go_ret
 exact ⟨rfl, rfl⟩
theorem szInt_no (a : Option Addr) (cap n : Nat) (k : Int) (w : World) (h : k < (n : Int)) (hk : 0 ≤ k) (hn : (n : Int) ≤ 9223372036854775807) :
  Calls Tryz.prog 50 #[.slice a n cap, .int .i64 k] w fun e w' => e = .returned (.int .i64 (-1)) ∧ w' = w := by
 have h0 : k - (n : Int) < 0 := by omega
 go_enter Tryz.func50, Tryz.ntmps50
 go_wp2
 go_ret
 exact ⟨rfl, rfl⟩
/-- Only blocks in G, of those that were there, have turned. -/
structure Turn (G : Nat → Prop) (w w' : World) : Prop where
 os : w'.os = w.os
 tape : w'.tape = w.tape
 output : w'.output = w.output
 size : w.heap.size ≤ w'.heap.size
 block : ∀ k, k < w.heap.size → ¬ G k → w'.heap[k]? = w.heap[k]?
theorem Turn.refl (G : Nat → Prop) (w : World) : Turn G w w := ⟨rfl, rfl, rfl, Nat.le_refl _, fun _ _ _ => rfl⟩
theorem Turn.trans {G : Nat → Prop} {a b c : World} (h : Turn G a b) (k : Turn G b c) : Turn G a c :=
 ⟨k.os.trans h.os, k.tape.trans h.tape, k.output.trans h.output, Nat.le_trans h.size k.size, fun i hi hn => (k.block i (Nat.lt_of_lt_of_le hi h.size) hn).trans (h.block i hi hn)⟩
theorem Turn.mono {G G' : Nat → Prop} {a b : World} (h : Turn G a b) (hg : ∀ k, G k → G' k) : Turn G' a b :=
 ⟨h.os, h.tape, h.output, h.size, fun i hi hn => h.block i hi (fun g => hn (hg i g))⟩
theorem turn_grown {G : Nat → Prop} {w w' : World} {row : Option Nat} (h : w.grownBy w' row) (hr : ∀ b, row = some b → G b) : Turn G w w' :=
 ⟨h.os, h.tape, h.output, h.size, fun k hk hn => h.block k hk (fun e => hn (hr k e.symm))⟩
theorem turn_below {G : Nat → Prop} {w w' : World} (h : Below w.heap.size w w') : Turn G w w' := ⟨h.os, h.tape, h.output, h.size, fun k hk _ => h.block k hk⟩
theorem turn_set {G : Nat → Prop} {w : World} {g j : Nat} {u : Value} (h : G g) : Turn G w (w.setCell ⟨g, j, none⟩ u) :=
 ⟨rfl, rfl, rfl, by simp [World.setCell], fun k hk hn => Below.heap_setCell w _ u k (fun e => hn (by rw [e]; exact h))⟩
theorem below_turn {B : Nat} {G : Nat → Prop} {a w w' : World} (h : Below B a w) (k : Turn G w w') (hG : ∀ b, G b → B ≤ b) (hs : B ≤ w.heap.size) : Below B a w' :=
 h.trans ⟨k.os, k.tape, k.output, k.size, fun i hi => k.block i (by omega) (fun g => by have := hG i g; omega)⟩
theorem row_turn {w w' : World} {G : Nat → Prop} {B : Nat} {e : TypeId} {size : Nat} {u : Value} {n : Nat} {xs : List Value} (h : w.ownsRow B e size u n xs) (k : Turn G w w') (hd : ∀ b, u.ownBlock = some b → ¬ G b) : w'.ownsRow B e size u n xs := by
 refine ⟨h.1, ?_⟩
 rcases h.2 with hn | ⟨g, cap, cur, rfl, hb', hg, rest⟩
 ·
  exact .inl hn
 ·
  refine .inr ⟨g, cap, cur, rfl, hb', ?_, rest⟩
  rw [k.block g (Array.getElem?_eq_some_iff.1 hg).1 (hd g rfl)]
  exact hg
theorem row_low {w : World} {B C : Nat} {e : TypeId} {size : Nat} {v : Value} {n : Nat} {xs : List Value} (h : w.ownsRow C e size v n xs) (hb : B ≤ C) : w.ownsRow B e size v n xs := by
 refine ⟨h.1, ?_⟩
 rcases h.2 with hn | ⟨g, cap, cur, e, hb', rest⟩
 ·
  exact .inl hn
 ·
  exact .inr ⟨g, cap, cur, e, Nat.le_trans hb hb', rest⟩
theorem row_form {w : World} {B : Nat} {e : TypeId} {size : Nat} {v : Value} {n : Nat} {xs : List Value} (h : w.ownsRow B e size v n xs) : (v = .slice none 0 0 ∧ n = 0) ∨ ∃ g cap, v = .slice (some ⟨g, 0, none⟩) n cap ∧ g < w.heap.size := by
 rcases h.2 with h' | ⟨g, cap, cur, rfl, hb, hg, _⟩
 ·
  exact .inl h'
 ·
  exact .inr ⟨g, cap, rfl, (Array.getElem?_eq_some_iff.1 hg).1⟩
/-- A kind of data: how many cells; what is read; what is owned, in blocks of the set; size; marks (nd, md: in memory, numbers too; nv, mv: by value); lengths that a slice can have; how many numbers lie in the cells. -/
structure Ty (α : Type) where
 n : Nat
 d : α
 R : World → List Value → α → Prop
 O : World → (Nat → Prop) → List Value → α → Prop
 sz : α → Nat
 nd : α → Nat
 nv : α → Nat
 md : α → Int → α
 mv : α → Int → α
 ok : α → Prop
 s : Nat
structure Ty.Law {α : Type} (T : Ty α) : Prop where
 pos : 0 < T.n
 len : ∀ {w cs x}, T.R w cs x → cs.length = T.n
 below : ∀ {W w cs x}, T.R W cs x → Below W.heap.size W w → T.R w cs x
 reads : ∀ {w F cs x}, T.O w F cs x → T.R w cs x
 turn : ∀ {w w' F G cs x}, T.O w F cs x → Turn G w w' → (∀ b, F b → ¬ G b) → T.O w' F cs x
 mono : ∀ {w F F' cs x}, T.O w F cs x → (∀ b, F b → F' b) → T.O w F' cs x
 lt : ∀ {w F cs x}, T.O w F cs x → T.O w (fun b => F b ∧ b < w.heap.size) cs x
 nd_le : ∀ x, T.nd x ≤ 16 * T.sz x + T.s
 nv_le : ∀ x, T.nv x ≤ 16 * T.sz x
/- Numbers. -/
def tInt : Ty Int := { n := 1, d := 0, R := fun _ cs x => cs = [.int .i64 x], O := fun _ _ cs x => cs = [.int .i64 x], sz := fun _ => 0, nd := fun _ => 1, nv := fun _ => 0, md := fun _ k => k, mv := fun x _ => x, ok := fun _ => True, s := 1 }
theorem tInt_law : tInt.Law := ⟨by decide, fun h => by cases h; rfl, fun h _ => h, fun h => h, fun h _ _ => h, fun h _ => h, fun h => h, fun x => Nat.le_refl _, fun x => Nat.le_refl _⟩
/- Pairs. -/
def tPair {α β : Type} (a : Ty α) (b : Ty β) : Ty (α × β) where
 n := a.n + b.n
 d := (a.d, b.d)
 R := fun w cs p => ∃ c1 c2, cs = c1 ++ c2 ∧ a.R w c1 p.1 ∧ b.R w c2 p.2
 O := fun w F cs p => ∃ c1 c2 F1 F2, cs = c1 ++ c2 ∧ a.O w F1 c1 p.1 ∧ b.O w F2 c2 p.2 ∧ (∀ k, F1 k → F k) ∧ (∀ k, F2 k → F k) ∧ ∀ k, F1 k → ¬ F2 k
 sz := fun p => a.sz p.1 + b.sz p.2
 nd := fun p => a.nd p.1 + b.nd p.2
 nv := fun p => a.nv p.1 + b.nv p.2
 md := fun p k => (a.md p.1 k, b.md p.2 (k + (a.nd p.1 : Int)))
 mv := fun p k => (a.mv p.1 k, b.mv p.2 (k + (a.nv p.1 : Int)))
 ok := fun p => a.ok p.1 ∧ b.ok p.2
 s := a.s + b.s
theorem tPair_law {α β : Type} {a : Ty α} {b : Ty β} (A : a.Law) (B : b.Law) : (tPair a b).Law where
 pos := by have := A.pos; show 0 < a.n + b.n; omega
 len := fun {w cs x} h => by
  obtain ⟨c1, c2, rfl, h1, h2⟩ := h
  rw [List.length_append, A.len h1, B.len h2]; rfl
 below := fun {W w cs x} h hb => by
  obtain ⟨c1, c2, e, h1, h2⟩ := h
  exact ⟨c1, c2, e, A.below h1 hb, B.below h2 hb⟩
 reads := fun {w F cs x} h => by
  obtain ⟨c1, c2, F1, F2, e, h1, h2, _⟩ := h
  exact ⟨c1, c2, e, A.reads h1, B.reads h2⟩
 turn := fun {w w' F G cs x} h k hd => by
  obtain ⟨c1, c2, F1, F2, e, h1, h2, h3, h4, h5⟩ := h
  exact ⟨c1, c2, F1, F2, e, A.turn h1 k (fun b g => hd b (h3 b g)), B.turn h2 k (fun b g => hd b (h4 b g)), h3, h4, h5⟩
 mono := fun {w F F' cs x} h hf => by
  obtain ⟨c1, c2, F1, F2, e, h1, h2, h3, h4, h5⟩ := h
  exact ⟨c1, c2, F1, F2, e, h1, h2, fun k g => hf k (h3 k g), fun k g => hf k (h4 k g), h5⟩
 lt := fun {w F cs x} h => by
  obtain ⟨c1, c2, F1, F2, e, h1, h2, h3, h4, h5⟩ := h
  exact ⟨c1, c2, _, _, e, A.lt h1, B.lt h2, fun k g => ⟨h3 k g.1, g.2⟩, fun k g => ⟨h4 k g.1, g.2⟩, fun k g g' => h5 k g.1 g'.1⟩
 nd_le := fun x => by
  have h1 := A.nd_le x.1; have h2 := B.nd_le x.2
  show a.nd x.1 + b.nd x.2 ≤ 16 * (a.sz x.1 + b.sz x.2) + (a.s + b.s); omega
 nv_le := fun x => by
  have h1 := A.nv_le x.1; have h2 := B.nv_le x.2
  show a.nv x.1 + b.nv x.2 ≤ 16 * (a.sz x.1 + b.sz x.2); omega
theorem tPair_sz {α β : Type} (a : Ty α) (b : Ty β) (p : α × β) : (tPair a b).sz p = a.sz p.1 + b.sz p.2 := rfl
theorem tPair_nd {α β : Type} (a : Ty α) (b : Ty β) (p : α × β) : (tPair a b).nd p = a.nd p.1 + b.nd p.2 := rfl
theorem tPair_nv {α β : Type} (a : Ty α) (b : Ty β) (p : α × β) : (tPair a b).nv p = a.nv p.1 + b.nv p.2 := rfl
theorem tInt_sz (x : Int) : tInt.sz x = 0 := rfl
theorem tInt_nd (x : Int) : tInt.nd x = 1 := rfl
theorem tInt_nv (x : Int) : tInt.nv x = 0 := rfl
/- Slices. -/
section
variable {α : Type}
def SlR (T : Ty α) (w : World) (v : Value) (xs : List α) : Prop :=
 (xs = [] ∧ ∃ a cap, v = .slice a 0 cap) ∨ ∃ (b off cap : Nat) (us : Nat → List Value), v = .slice (some ⟨b, off, none⟩) xs.length cap ∧ xs.length ≤ cap ∧ b < w.heap.size ∧
  ∀ j, j < xs.length → (∀ i, i < T.n → w.cell? ⟨b, off + j * T.n + i, none⟩ = (us j)[i]?) ∧ T.R w (us j) (xs.getD j T.d)
def SlO (e : TypeId) (T : Ty α) (w : World) (F : Nat → Prop) (v : Value) (xs : List α) : Prop :=
 ∃ (L : List Value) (us : Nat → List Value) (Fs : Nat → Nat → Prop), w.ownsRow 0 e T.n v xs.length L ∧ (∀ b, v.ownBlock = some b → F b) ∧
  (∀ j, j < xs.length → (∀ i, i < T.n → L[j * T.n + i]? = (us j)[i]?) ∧ T.O w (Fs j) (us j) (xs.getD j T.d) ∧ ∀ b, Fs j b → F b ∧ v.ownBlock ≠ some b) ∧
  ∀ i j, i < xs.length → j < xs.length → i ≠ j → ∀ b, Fs i b → ¬ Fs j b
def sumN (f : α → Nat) (xs : List α) (k : Nat) : Nat := ((xs.take k).map f).sum
theorem sumN_zero (f : α → Nat) (xs : List α) : sumN f xs 0 = 0 := by simp [sumN]
theorem sumN_step (f : α → Nat) {xs : List α} {k : Nat} (d : α) (hk : k < xs.length) : sumN f xs (k + 1) = sumN f xs k + f (xs.getD k d) := by
 unfold sumN
 have e : xs.getD k d = xs[k] := by simp [List.getD, hk]
 rw [e, List.take_succ_eq_append_getElem hk, List.map_append, List.sum_append]
 simp
theorem sumN_le (f : α → Nat) {xs : List α} {k : Nat} (hk : k ≤ xs.length) : sumN f xs k ≤ sumN f xs xs.length := by
 unfold sumN
 have e : xs.take xs.length = xs.take k ++ xs.drop k := by rw [List.take_length, List.take_append_drop]
 rw [e, List.map_append, List.sum_append]
 omega
theorem sum_map_le {f g : α → Nat} {c s : Nat} (h : ∀ x, f x ≤ c * g x + s) : ∀ xs : List α, (xs.map f).sum ≤ c * (xs.map g).sum + s * xs.length
 | [] => by simp
 | x :: xs => by
  have h1 := h x
  have h2 := sum_map_le h xs
  simp only [List.map_cons, List.sum_cons, List.length_cons, Nat.mul_add, Nat.mul_one]
  omega
/-- The mark with which element j begins. -/
def kAt (T : Ty α) (xs : List α) (k : Int) (j : Nat) : Int := k + (sumN T.nd xs j : Int)
def mAt (T : Ty α) (xs : List α) (k : Int) (j : Nat) : α := T.md (xs.getD j T.d) (kAt T xs k j)
def mAll (T : Ty α) (xs : List α) (k : Int) : List α := (List.range xs.length).map (mAt T xs k)
def zTo (T : Ty α) (xs : List α) (k : Nat) : Nat := xs.length + sumN T.sz xs k
def zL (T : Ty α) (xs : List α) : Nat := zTo T xs xs.length
def ndL (T : Ty α) (xs : List α) : Nat := sumN T.nd xs xs.length
def tSl (e : TypeId) (T : Ty α) : Ty (List α) where
 n := 1
 d := []
 R := fun w cs xs => ∃ v, cs = [v] ∧ SlR T w v xs
 O := fun w F cs xs => ∃ v, cs = [v] ∧ SlO e T w F v xs
 sz := zL T
 nd := ndL T
 nv := ndL T
 md := mAll T
 mv := mAll T
 ok := fun xs => (xs.length : Int) ≤ 9223372036854775807 ∧ ∀ j, j < xs.length → T.ok (xs.getD j T.d)
 s := 0
theorem tSl_sz (e : TypeId) (T : Ty α) (xs : List α) : (tSl e T).sz xs = zL T xs := rfl
theorem tSl_nd (e : TypeId) (T : Ty α) (xs : List α) : (tSl e T).nd xs = ndL T xs := rfl
theorem tSl_nv (e : TypeId) (T : Ty α) (xs : List α) : (tSl e T).nv xs = ndL T xs := rfl
theorem slR_len {T : Ty α} {w : World} {v : Value} {xs : List α} (h : SlR T w v xs) : ∃ a cap, v = .slice a xs.length cap := by
 rcases h with ⟨rfl, a, cap, rfl⟩ | ⟨b, off, cap, us, rfl, _⟩
 ·
  exact ⟨a, cap, rfl⟩
 ·
  exact ⟨_, cap, rfl⟩
theorem slR_below {T : Ty α} (A : T.Law) {W w : World} {v : Value} {xs : List α} (h : SlR T W v xs) (hb : Below W.heap.size W w) : SlR T w v xs := by
 rcases h with h | ⟨b, off, cap, us, h1, h2, h3, h4⟩
 ·
  exact Or.inl h
 ·
  exact Or.inr ⟨b, off, cap, us, h1, h2, Nat.lt_of_lt_of_le h3 hb.size, fun j hj => ⟨fun i hi => (hb.cell (p := ⟨b, off + j * T.n + i, none⟩) h3).trans ((h4 j hj).1 i hi), A.below (h4 j hj).2 hb⟩⟩
theorem slR_at {T : Ty α} {w : World} {v : Value} {xs : List α} (h : SlR T w v xs) {k : Nat} (hk : k < xs.length) : ∃ (b off cap : Nat) (cs : List Value), v = .slice (some ⟨b, off, none⟩) xs.length cap ∧ b < w.heap.size ∧ (∀ i, i < T.n → w.cell? ⟨b, off + k * T.n + i, none⟩ = cs[i]?) ∧ T.R w cs (xs.getD k T.d) := by
 rcases h with ⟨rfl, _⟩ | ⟨b, off, cap, us, h1, h2, h3, h4⟩
 ·
  simp at hk
 ·
  exact ⟨b, off, cap, us k, h1, h3, (h4 k hk).1, (h4 k hk).2⟩
theorem slO_reads {e : TypeId} {T : Ty α} (A : T.Law) {w : World} {F : Nat → Prop} {v : Value} {xs : List α} (h : SlO e T w F v xs) : SlR T w v xs := by
 obtain ⟨L, us, Fs, h1, _, h2, _⟩ := h
 have h1' := h1
 rcases h1.2 with ⟨rfl, hn⟩ | ⟨g, cap, cur, rfl, hb, hg, hn, hm, hcs, htake⟩
 ·
  exact Or.inl ⟨List.eq_nil_of_length_eq_zero hn, none, 0, rfl⟩
 ·
  refine Or.inr ⟨g, 0, cap, us, rfl, hn, (Array.getElem?_eq_some_iff.1 hg).1, fun j hj => ⟨fun i hi => ?_, A.reads (h2 j hj).2.1⟩⟩
  have hlt : j * T.n + i < xs.length * T.n := by
   have : (j + 1) * T.n ≤ xs.length * T.n := Nat.mul_le_mul_right _ hj
   rw [Nat.add_mul, Nat.one_mul] at this; omega
  rw [Nat.zero_add, World.ownsRow.cellAt h1' _ hlt]
  exact (h2 j hj).1 i hi
theorem slO_turn {e : TypeId} {T : Ty α} (A : T.Law) {w w' : World} {F G : Nat → Prop} {v : Value} {xs : List α} (h : SlO e T w F v xs) (k : Turn G w w') (hd : ∀ b, F b → ¬ G b) : SlO e T w' F v xs := by
 obtain ⟨L, us, Fs, h1, h2, h3, h4⟩ := h
 exact ⟨L, us, Fs, row_turn h1 k (fun b hb => hd b (h2 b hb)), h2, fun j hj => ⟨(h3 j hj).1, A.turn (h3 j hj).2.1 k (fun b hb => hd b ((h3 j hj).2.2 b hb).1), (h3 j hj).2.2⟩, h4⟩
theorem slO_mono {e : TypeId} {T : Ty α} {w : World} {F F' : Nat → Prop} {v : Value} {xs : List α} (h : SlO e T w F v xs) (hf : ∀ b, F b → F' b) : SlO e T w F' v xs := by
 obtain ⟨L, us, Fs, h1, h2, h3, h4⟩ := h
 exact ⟨L, us, Fs, h1, fun b hb => hf b (h2 b hb), fun j hj => ⟨(h3 j hj).1, (h3 j hj).2.1, fun b hb => ⟨hf b ((h3 j hj).2.2 b hb).1, ((h3 j hj).2.2 b hb).2⟩⟩, h4⟩
theorem slO_lt {e : TypeId} {T : Ty α} (A : T.Law) {w : World} {F : Nat → Prop} {v : Value} {xs : List α} (h : SlO e T w F v xs) : SlO e T w (fun b => F b ∧ b < w.heap.size) v xs := by
 obtain ⟨L, us, Fs, h1, h2, h3, h4⟩ := h
 exact ⟨L, us, fun j b => Fs j b ∧ b < w.heap.size, h1, fun b hb => ⟨h2 b hb, (h1.lt b hb).2⟩, fun j hj => ⟨(h3 j hj).1, A.lt (h3 j hj).2.1, fun b hb => ⟨⟨((h3 j hj).2.2 b hb.1).1, hb.2⟩, ((h3 j hj).2.2 b hb.1).2⟩⟩, fun i j hi hj hij b hb hc => h4 i j hi hj hij b hb.1 hc.1⟩
theorem slO_fresh {e : TypeId} {T : Ty α} (A : T.Law) {w w' : World} {F : Nat → Prop} {v : Value} {xs : List α} (h : SlO e T w F v xs) (hb : Below w.heap.size w w') : SlO e T w' F v xs :=
 slO_turn (G := fun _ => False) A h (turn_below hb) (fun _ _ => not_false)
theorem slO_nil (e : TypeId) (T : Ty α) (w : World) (F : Nat → Prop) : SlO e T w F (.slice none 0 0) [] :=
 ⟨[], fun _ => [], fun _ _ => False, World.ownsRow_nil w 0 _ _, fun b hb => by simp [Value.ownBlock] at hb, fun j hj => by simp at hj, fun i j hi => by simp at hi⟩
theorem slO_form {e : TypeId} {T : Ty α} {w : World} {F : Nat → Prop} {v : Value} {xs : List α} (h : SlO e T w F v xs) : (v = .slice none 0 0 ∧ xs = []) ∨ ∃ g cap, v = .slice (some ⟨g, 0, none⟩) xs.length cap ∧ F g ∧ g < w.heap.size := by
 obtain ⟨L, us, Fs, h1, h2, _⟩ := h
 rcases row_form h1 with ⟨e, h0⟩ | ⟨g, cap, e, hg⟩
 ·
  exact Or.inl ⟨e, List.eq_nil_of_length_eq_zero h0⟩
 ·
  exact Or.inr ⟨g, cap, e, h2 g (by rw [e]; rfl), hg⟩
theorem slO_len {e : TypeId} {T : Ty α} {w : World} {F : Nat → Prop} {v : Value} {xs : List α} (h : SlO e T w F v xs) : ∃ a cap, v = .slice a xs.length cap := by
 rcases slO_form h with ⟨e, e'⟩ | ⟨g, cap, e, _⟩
 ·
  exact ⟨none, 0, by rw [e, e']; rfl⟩
 ·
  exact ⟨_, cap, e⟩
/-- What 'make' owns. -/
theorem slO_made {e : TypeId} {T : Ty α} (A : T.Law) {w : World} {F : Nat → Prop} {g n B : Nat} {z : Array Value} (hz : z.size = T.n) (ho : T.O w (fun _ => False) z.toList T.d) (hF : F g)
  (h : w.ownsRow B e T.n (.slice (some ⟨g, 0, none⟩) n n) n (madeCells z (n * T.n)).toList) : SlO e T w F (.slice (some ⟨g, 0, none⟩) n n) (List.replicate n T.d) := by
 refine ⟨_, fun _ => z.toList, fun _ _ => False, by rw [List.length_replicate]; exact row_low h (Nat.zero_le _), fun b hb => ?_, fun j hj => ?_, fun i j _ _ _ b hb => False.elim hb⟩
 ·
  simp [Value.ownBlock] at hb; subst hb; exact hF
 ·
  rw [List.length_replicate] at hj
  have er : (List.replicate n T.d).getD j T.d = T.d := by simp [List.getD, hj]
  rw [er]
  refine ⟨fun i hi => ?_, ho, fun b hb => False.elim hb⟩
  have hlt : j * T.n + i < n * T.n := by
   have : (j + 1) * T.n ≤ n * T.n := Nat.mul_le_mul_right _ hj
   rw [Nat.add_mul, Nat.one_mul] at this; omega
  have hmod : (j * T.n + i) % z.size = i := by rw [hz, Nat.mul_comm, Nat.mul_add_mod, Nat.mod_eq_of_lt hi]
  rw [Array.getElem?_toList]
  unfold madeCells
  rw [Array.getElem?_map, Array.getElem?_range, if_pos hlt]
  have hi' : i < z.size := by omega
  simp [hmod, hi']
/-- An element is opened: its cells, its blocks; and what is owned when the element has turned. -/
theorem slO_open {e : TypeId} {T : Ty α} (A : T.Law) {w : World} {F : Nat → Prop} {g m cap : Nat} {xs : List α} (h : SlO e T w F (.slice (some ⟨g, 0, none⟩) m cap) xs) {j : Nat} (hj : j < xs.length) :
  m = xs.length ∧ F g ∧ g < w.heap.size ∧ ∃ (cs : List Value) (Fj : Nat → Prop) (L : List Value), w.ownsRow 0 e T.n (.slice (some ⟨g, 0, none⟩) xs.length cap) xs.length L ∧ (∀ i, i < T.n → L[j * T.n + i]? = cs[i]?) ∧ T.O w Fj cs (xs.getD j T.d) ∧ (∀ b, Fj b → F b ∧ b ≠ g ∧ b < w.heap.size) ∧
   ∀ (w' : World) (L' cs' : List Value) (Fj' : Nat → Prop) (x' : α), w'.ownsRow 0 e T.n (.slice (some ⟨g, 0, none⟩) xs.length cap) xs.length L' → (∀ o, (o < j * T.n ∨ j * T.n + T.n ≤ o) → L'[o]? = L[o]?) → (∀ i, i < T.n → L'[j * T.n + i]? = cs'[i]?) → T.O w' Fj' cs' x' → (∀ b, Fj' b → F b ∧ (Fj b ∨ w.heap.size ≤ b)) →
    Turn (fun b => b = g ∨ Fj b ∨ w.heap.size ≤ b) w w' → SlO e T w' F (.slice (some ⟨g, 0, none⟩) m cap) (xs.set j x') := by
 obtain ⟨L, us, Fs, h1, h2, h3, h4⟩ := slO_lt A h
 have hm : m = xs.length := by
  rcases h1.2 with ⟨h', _⟩ | ⟨_, _, _, h', _⟩
  ·
   simp at h'
  ·
   simp only [Value.slice.injEq] at h'; exact h'.2.1
 subst hm
 have hg := h2 g rfl
 refine ⟨rfl, hg.1, hg.2, us j, Fs j, L, h1, (h3 j hj).1, (h3 j hj).2.1, fun b hb => ?_, ?_⟩
 ·
  obtain ⟨⟨k1, k2⟩, k3⟩ := (h3 j hj).2.2 b hb
  exact ⟨k1, fun e => k3 (by rw [e]; rfl), k2⟩
 ·
  intro w' L' cs' Fj' x' g1 g2 g3 g4 g5 g6
  refine ⟨L', fun i => if i = j then cs' else us i, fun i => if i = j then Fj' else Fs i, by rw [List.length_set]; exact g1, fun b hb => (h2 b hb).1, fun i hi => ?_, fun a b ha hb hab c => ?_⟩
  ·
   rw [List.length_set] at hi
   by_cases eij : i = j
   ·
    subst eij
    have er : (xs.set i x').getD i T.d = x' := by simp [List.getD, hi]
    rw [er]
    simp only [if_true]
    refine ⟨g3, g4, fun b hb => ⟨(g5 b hb).1, ?_⟩⟩
    rcases (g5 b hb).2 with q | q
    ·
     exact ((h3 i hj).2.2 b q).2
    ·
     intro q2
     simp [Value.ownBlock] at q2
     omega
   ·
    have er : (xs.set j x').getD i T.d = xs.getD i T.d := by simp [List.getD, List.getElem?_set_ne (Ne.symm eij)]
    rw [er]
    simp only [if_neg eij]
    refine ⟨fun p hp => ?_, ?_, fun b hb => ⟨((h3 i hi).2.2 b hb).1.1, ((h3 i hi).2.2 b hb).2⟩⟩
    ·
     rw [g2 _ ?_]
     ·
      exact (h3 i hi).1 p hp
     ·
      rcases Nat.lt_or_gt_of_ne eij with q | q
      ·
       left
       have : (i + 1) * T.n ≤ j * T.n := Nat.mul_le_mul_right _ q
       rw [Nat.add_mul, Nat.one_mul] at this; omega
      ·
       right
       have : (j + 1) * T.n ≤ i * T.n := Nat.mul_le_mul_right _ q
       rw [Nat.add_mul, Nat.one_mul] at this; omega
    ·
     refine A.turn (h3 i hi).2.1 g6 (fun b hb hc => ?_)
     rcases hc with q | q | q
     ·
      exact ((h3 i hi).2.2 b hb).2 (by rw [q]; rfl)
     ·
      exact h4 i j hi hj eij b hb q
     ·
      have := ((h3 i hi).2.2 b hb).1.2; omega
  ·
   rw [List.length_set] at ha hb
   by_cases ea : a = j
   ·
    have eb : ¬ b = j := fun q => hab (ea.trans q.symm)
    simp only [if_pos ea, if_neg eb]
    intro q1 q2
    rcases (g5 c q1).2 with q | q
    ·
     exact h4 j b hj hb (fun q' => eb q'.symm) c q q2
    ·
     have := ((h3 b hb).2.2 c q2).1.2; omega
   ·
    by_cases eb : b = j
    ·
     simp only [if_neg ea, if_pos eb]
     intro q1 q2
     rcases (g5 c q2).2 with q | q
     ·
      exact h4 a j ha hj ea c q1 q
     ·
      have := ((h3 a ha).2.2 c q1).1.2; omega
    ·
     simp only [if_neg ea, if_neg eb]
     exact h4 a b ha hb hab c
/-- An element is appended. -/
theorem slO_app {e : TypeId} {T : Ty α} (A : T.Law) {w w' : World} {F Fn : Nat → Prop} {v v' : Value} {xs : List α} {x : α} {cs : List Value} {L : List Value} {us : Nat → List Value} {Fs : Nat → Nat → Prop}
  (h2 : ∀ b, v.ownBlock = some b → F b) (h3 : ∀ j, j < xs.length → (∀ i, i < T.n → L[j * T.n + i]? = (us j)[i]?) ∧ T.O w (Fs j) (us j) (xs.getD j T.d) ∧ ∀ b, Fs j b → (F b ∧ b < w.heap.size) ∧ v.ownBlock ≠ some b)
  (h4 : ∀ i j, i < xs.length → j < xs.length → i ≠ j → ∀ b, Fs i b → ¬ Fs j b) (hL : L.length = xs.length * T.n)
  (k1 : w'.ownsRow 0 e T.n v' (xs.length + 1) (L ++ cs)) (k2 : w.grownBy w' v.ownBlock) (k3 : ∀ b, v'.ownBlock = some b → v.ownBlock = some b ∨ (w.heap.size ≤ b ∧ F b))
  (hn : T.O w Fn cs x) (hc : cs.length = T.n) (hF : ∀ b, Fn b → F b ∧ b < w.heap.size ∧ v.ownBlock ≠ some b ∧ ∀ j, j < xs.length → ¬ Fs j b) : SlO e T w' F v' (xs ++ [x]) := by
 have hold : ∀ {G : Nat → Prop} {us : List Value} {y : α}, T.O w G us y → (∀ b, G b → v.ownBlock ≠ some b) → T.O w' G us y := fun h hd =>
  A.turn (G := fun b => v.ownBlock = some b) h (turn_grown k2 (fun b hb => hb)) (fun b hb => hd b hb)
 have hnew : ∀ b, b < w.heap.size → v.ownBlock ≠ some b → v'.ownBlock ≠ some b := fun b hb h1 h2 => by
  rcases k3 b h2 with q | q
  ·
   exact h1 q
  ·
   omega
 refine ⟨L ++ cs, fun j => if j < xs.length then us j else cs, fun j => if j < xs.length then Fs j else Fn, by rw [List.length_append]; exact k1, fun b hb => ?_, fun j hj => ?_, fun i j hi hj hij b => ?_⟩
 ·
  rcases k3 b hb with q | q
  ·
   exact h2 b q
  ·
   exact q.2
 ·
  rw [List.length_append, List.length_singleton] at hj
  by_cases hlt : j < xs.length
  ·
   have er : (xs ++ [x]).getD j T.d = xs.getD j T.d := by simp [List.getD, List.getElem?_append_left hlt]
   rw [er]
   simp only [if_pos hlt]
   obtain ⟨g1, g2, g3⟩ := h3 j hlt
   refine ⟨fun i hi => ?_, hold g2 (fun b hb => (g3 b hb).2), fun b hb => ⟨(g3 b hb).1.1, hnew b (g3 b hb).1.2 (g3 b hb).2⟩⟩
   have hl2 : j * T.n + i < L.length := by
    have : (j + 1) * T.n ≤ xs.length * T.n := Nat.mul_le_mul_right _ hlt
    rw [Nat.add_mul, Nat.one_mul] at this; omega
   rw [List.getElem?_append_left hl2]
   exact g1 i hi
  ·
   obtain rfl : j = xs.length := by omega
   have er : (xs ++ [x]).getD xs.length T.d = x := by simp [List.getD]
   rw [er]
   simp only [if_neg hlt]
   refine ⟨fun i hi => ?_, hold hn (fun b hb => (hF b hb).2.2.1), fun b hb => ⟨(hF b hb).1, hnew b (hF b hb).2.1 (hF b hb).2.2.1⟩⟩
   rw [List.getElem?_append_right (by omega), hL]
   simp
 ·
  rw [List.length_append, List.length_singleton] at hi hj
  by_cases h1 : i < xs.length
  ·
   by_cases h2 : j < xs.length
   ·
    simp only [if_pos h1, if_pos h2]; exact h4 i j h1 h2 hij b
   ·
    simp only [if_pos h1, if_neg h2]; exact fun q1 q2 => (hF b q2).2.2.2 i h1 q1
  ·
   by_cases h2 : j < xs.length
   ·
    simp only [if_neg h1, if_pos h2]; exact fun q1 q2 => (hF b q1).2.2.2 j h2 q2
   ·
    omega
theorem zTo_zero (T : Ty α) (xs : List α) : zTo T xs 0 = xs.length := by simp [zTo, sumN_zero]
theorem zTo_step {T : Ty α} {xs : List α} {k : Nat} (hk : k < xs.length) : zTo T xs (k + 1) = zTo T xs k + T.sz (xs.getD k T.d) := by
 unfold zTo; rw [sumN_step T.sz T.d hk]; omega
theorem zTo_le {T : Ty α} {xs : List α} {k : Nat} (hk : k ≤ xs.length) : zTo T xs k ≤ zL T xs := by
 unfold zL zTo; have := sumN_le T.sz hk; omega
theorem zL_at {T : Ty α} {xs : List α} {M : Nat} (hs : zL T xs ≤ M) {k : Nat} (hk : k < xs.length) : T.sz (xs.getD k T.d) ≤ M := by
 have h1 := zTo_step (T := T) hk
 have h2 := zTo_le (T := T) (xs := xs) (k := k + 1) (by omega)
 omega
theorem zL_len {T : Ty α} {xs : List α} {M : Nat} (hs : zL T xs ≤ M) : xs.length ≤ M := by
 have := zTo_le (T := T) (xs := xs) (Nat.zero_le _); rw [zTo_zero] at this; omega
theorem ndL_le {T : Ty α} (A : T.Law) (hs : T.s ≤ 16) (xs : List α) : ndL T xs ≤ 16 * zL T xs := by
 have := sum_map_le A.nd_le xs
 have h2 : T.s * xs.length ≤ 16 * xs.length := Nat.mul_le_mul_right _ hs
 unfold ndL zL zTo sumN
 rw [List.take_length]
 omega
theorem tSl_law {e : TypeId} {T : Ty α} (A : T.Law) (hs : T.s ≤ 16) : (tSl e T).Law where
 pos := Nat.one_pos
 len := fun {w cs x} h => by obtain ⟨v, rfl, _⟩ := h; rfl
 below := fun {W w cs x} h hb => by obtain ⟨v, e, h⟩ := h; exact ⟨v, e, slR_below A h hb⟩
 reads := fun {w F cs x} h => by obtain ⟨v, e, h⟩ := h; exact ⟨v, e, slO_reads A h⟩
 turn := fun {w w' F G cs x} h k hd => by obtain ⟨v, e, h⟩ := h; exact ⟨v, e, slO_turn A h k hd⟩
 mono := fun {w F F' cs x} h hf => by obtain ⟨v, e, h⟩ := h; exact ⟨v, e, slO_mono h hf⟩
 lt := fun {w F cs x} h => by obtain ⟨v, e, h⟩ := h; exact ⟨v, e, slO_lt A h⟩
 nd_le := fun x => ndL_le A hs x
 nv_le := fun x => ndL_le A hs x
theorem cTo_step {xs : List α} {d : α} {k : Nat} (h : k < xs.length) : (xs.take k ++ List.replicate (xs.length - k) d).set k (xs.getD k d) = xs.take (k + 1) ++ List.replicate (xs.length - (k + 1)) d := by
 have hk : (xs.take k).length = k := by rw [List.length_take]; omega
 rw [List.set_append_right _ _ (by omega), hk, Nat.sub_self, show xs.length - k = (xs.length - (k + 1)) + 1 by omega, List.replicate_succ, List.set_cons_zero, List.take_succ_eq_append_getElem h, List.append_assoc]
 simp [List.getD, h]
theorem cTo_len {xs : List α} {d : α} {k : Nat} (h : k ≤ xs.length) : (xs.take k ++ List.replicate (xs.length - k) d).length = xs.length := by simp; omega
end
/-- New blocks: those since w. -/
def since (w : World) : Nat → Prop := fun b => w.heap.size ≤ b
/-- A value in new memory is answered. -/
def FreshT {α : Type} (T : Ty α) (mk : List Value → Value) (w : World) (x : α) (e : Ending) (w' : World) : Prop := ∃ cs, e = .returned (mk cs) ∧ T.O w' (since w) cs x ∧ Below w.heap.size w w'
def FreshS {α : Type} (t : TypeId) (T : Ty α) (w : World) (xs : List α) (e : Ending) (w' : World) : Prop := ∃ v, e = .returned v ∧ SlO t T w' (since w) v xs ∧ Below w.heap.size w w'
theorem cls2 {w : World} {b : Nat} {t : TypeId} {f : Nat × Nat} {v0 v1 : Value} (h : w.heap[b]? = some (.cells #[v0, v1] t f)) : w.cell? ⟨b, 0, none⟩ = some v0 ∧ w.cell? ⟨b, 1, none⟩ = some v1 :=
 ⟨cell_of_row w b 0 _ _ _ h, cell_of_row w b 1 _ _ _ h⟩
theorem cls3 {w : World} {b : Nat} {t : TypeId} {f : Nat × Nat} {v0 v1 v2 : Value} (h : w.heap[b]? = some (.cells #[v0, v1, v2] t f)) : w.cell? ⟨b, 0, none⟩ = some v0 ∧ w.cell? ⟨b, 1, none⟩ = some v1 ∧ w.cell? ⟨b, 2, none⟩ = some v2 :=
 ⟨cell_of_row w b 0 _ _ _ h, cell_of_row w b 1 _ _ _ h, cell_of_row w b 2 _ _ _ h⟩
theorem cls4 {w : World} {b : Nat} {t : TypeId} {f : Nat × Nat} {v0 v1 v2 v3 : Value} (h : w.heap[b]? = some (.cells #[v0, v1, v2, v3] t f)) : w.cell? ⟨b, 0, none⟩ = some v0 ∧ w.cell? ⟨b, 1, none⟩ = some v1 ∧ w.cell? ⟨b, 2, none⟩ = some v2 ∧ w.cell? ⟨b, 3, none⟩ = some v3 :=
 ⟨cell_of_row w b 0 _ _ _ h, cell_of_row w b 1 _ _ _ h, cell_of_row w b 2 _ _ _ h, cell_of_row w b 3 _ _ _ h⟩
theorem cls5 {w : World} {b : Nat} {t : TypeId} {f : Nat × Nat} {v0 v1 v2 v3 v4 : Value} (h : w.heap[b]? = some (.cells #[v0, v1, v2, v3, v4] t f)) : w.cell? ⟨b, 0, none⟩ = some v0 ∧ w.cell? ⟨b, 1, none⟩ = some v1 ∧ w.cell? ⟨b, 2, none⟩ = some v2 ∧ w.cell? ⟨b, 3, none⟩ = some v3 ∧ w.cell? ⟨b, 4, none⟩ = some v4 :=
 ⟨cell_of_row w b 0 _ _ _ h, cell_of_row w b 1 _ _ _ h, cell_of_row w b 2 _ _ _ h, cell_of_row w b 3 _ _ _ h, cell_of_row w b 4 _ _ _ h⟩
theorem cls6 {w : World} {b : Nat} {t : TypeId} {f : Nat × Nat} {v0 v1 v2 v3 v4 v5 : Value} (h : w.heap[b]? = some (.cells #[v0, v1, v2, v3, v4, v5] t f)) : w.cell? ⟨b, 0, none⟩ = some v0 ∧ w.cell? ⟨b, 1, none⟩ = some v1 ∧ w.cell? ⟨b, 2, none⟩ = some v2 ∧ w.cell? ⟨b, 3, none⟩ = some v3 ∧ w.cell? ⟨b, 4, none⟩ = some v4 ∧ w.cell? ⟨b, 5, none⟩ = some v5 :=
 ⟨cell_of_row w b 0 _ _ _ h, cell_of_row w b 1 _ _ _ h, cell_of_row w b 2 _ _ _ h, cell_of_row w b 3 _ _ _ h, cell_of_row w b 4 _ _ _ h, cell_of_row w b 5 _ _ _ h⟩
theorem cls7 {w : World} {b : Nat} {t : TypeId} {f : Nat × Nat} {v0 v1 v2 v3 v4 v5 v6 : Value} (h : w.heap[b]? = some (.cells #[v0, v1, v2, v3, v4, v5, v6] t f)) : w.cell? ⟨b, 0, none⟩ = some v0 ∧ w.cell? ⟨b, 1, none⟩ = some v1 ∧ w.cell? ⟨b, 2, none⟩ = some v2 ∧ w.cell? ⟨b, 3, none⟩ = some v3 ∧ w.cell? ⟨b, 4, none⟩ = some v4 ∧ w.cell? ⟨b, 5, none⟩ = some v5 ∧ w.cell? ⟨b, 6, none⟩ = some v6 :=
 ⟨cell_of_row w b 0 _ _ _ h, cell_of_row w b 1 _ _ _ h, cell_of_row w b 2 _ _ _ h, cell_of_row w b 3 _ _ _ h, cell_of_row w b 4 _ _ _ h, cell_of_row w b 5 _ _ _ h, cell_of_row w b 6 _ _ _ h⟩
theorem cls8 {w : World} {b : Nat} {t : TypeId} {f : Nat × Nat} {v0 v1 v2 v3 v4 v5 v6 v7 : Value} (h : w.heap[b]? = some (.cells #[v0, v1, v2, v3, v4, v5, v6, v7] t f)) : w.cell? ⟨b, 0, none⟩ = some v0 ∧ w.cell? ⟨b, 1, none⟩ = some v1 ∧ w.cell? ⟨b, 2, none⟩ = some v2 ∧ w.cell? ⟨b, 3, none⟩ = some v3 ∧ w.cell? ⟨b, 4, none⟩ = some v4 ∧ w.cell? ⟨b, 5, none⟩ = some v5 ∧ w.cell? ⟨b, 6, none⟩ = some v6 ∧ w.cell? ⟨b, 7, none⟩ = some v7 :=
 ⟨cell_of_row w b 0 _ _ _ h, cell_of_row w b 1 _ _ _ h, cell_of_row w b 2 _ _ _ h, cell_of_row w b 3 _ _ _ h, cell_of_row w b 4 _ _ _ h, cell_of_row w b 5 _ _ _ h, cell_of_row w b 6 _ _ _ h, cell_of_row w b 7 _ _ _ h⟩
theorem cls9 {w : World} {b : Nat} {t : TypeId} {f : Nat × Nat} {v0 v1 v2 v3 v4 v5 v6 v7 v8 : Value} (h : w.heap[b]? = some (.cells #[v0, v1, v2, v3, v4, v5, v6, v7, v8] t f)) : w.cell? ⟨b, 0, none⟩ = some v0 ∧ w.cell? ⟨b, 1, none⟩ = some v1 ∧ w.cell? ⟨b, 2, none⟩ = some v2 ∧ w.cell? ⟨b, 3, none⟩ = some v3 ∧ w.cell? ⟨b, 4, none⟩ = some v4 ∧ w.cell? ⟨b, 5, none⟩ = some v5 ∧ w.cell? ⟨b, 6, none⟩ = some v6 ∧ w.cell? ⟨b, 7, none⟩ = some v7 ∧ w.cell? ⟨b, 8, none⟩ = some v8 :=
 ⟨cell_of_row w b 0 _ _ _ h, cell_of_row w b 1 _ _ _ h, cell_of_row w b 2 _ _ _ h, cell_of_row w b 3 _ _ _ h, cell_of_row w b 4 _ _ _ h, cell_of_row w b 5 _ _ _ h, cell_of_row w b 6 _ _ _ h, cell_of_row w b 7 _ _ _ h, cell_of_row w b 8 _ _ _ h⟩
theorem cls10 {w : World} {b : Nat} {t : TypeId} {f : Nat × Nat} {v0 v1 v2 v3 v4 v5 v6 v7 v8 v9 : Value} (h : w.heap[b]? = some (.cells #[v0, v1, v2, v3, v4, v5, v6, v7, v8, v9] t f)) : w.cell? ⟨b, 0, none⟩ = some v0 ∧ w.cell? ⟨b, 1, none⟩ = some v1 ∧ w.cell? ⟨b, 2, none⟩ = some v2 ∧ w.cell? ⟨b, 3, none⟩ = some v3 ∧ w.cell? ⟨b, 4, none⟩ = some v4 ∧ w.cell? ⟨b, 5, none⟩ = some v5 ∧ w.cell? ⟨b, 6, none⟩ = some v6 ∧ w.cell? ⟨b, 7, none⟩ = some v7 ∧ w.cell? ⟨b, 8, none⟩ = some v8 ∧ w.cell? ⟨b, 9, none⟩ = some v9 :=
 ⟨cell_of_row w b 0 _ _ _ h, cell_of_row w b 1 _ _ _ h, cell_of_row w b 2 _ _ _ h, cell_of_row w b 3 _ _ _ h, cell_of_row w b 4 _ _ _ h, cell_of_row w b 5 _ _ _ h, cell_of_row w b 6 _ _ _ h, cell_of_row w b 7 _ _ _ h, cell_of_row w b 8 _ _ _ h, cell_of_row w b 9 _ _ _ h⟩
theorem zh {p : Prop} (h : p) : Hid p := Lib.hid h
theorem zb {w w' : World} {b : Nat} {o : Obj} (c : Below w.heap.size w w') (h : Hid (w.heap[b]? = some o)) : Hid (w'.heap[b]? = some o) := Lib.hid ((c.block b (Array.getElem?_eq_some_iff.1 h.out).1).trans h.out)
theorem zB {G : Nat → Prop} {w w' : World} {b : Nat} {o : Obj} (c : Turn G w w') (h : Hid (w.heap[b]? = some o)) (g : ¬ G b) : Hid (w'.heap[b]? = some o) := Lib.hid ((c.block b (Array.getElem?_eq_some_iff.1 h.out).1 g).trans h.out)
theorem zd {B : Nat} {w0 w w' : World} (d : Hid (Below B w0 w)) (c : Below w.heap.size w w') (h : B ≤ w.heap.size) : Hid (Below B w0 w') := Lib.hid (d.out.trans (c.mono h))
theorem zD {w0 w w' : World} (d : Hid (Below w0.heap.size w0 w)) (c : Below w.heap.size w w') : Hid (Below w0.heap.size w0 w') := Lib.hid (d.out.trans (c.mono d.out.size))
theorem zf {α : Type} {T : Ty α} (A : T.Law) {e : TypeId} {w w' : World} {F : Nat → Prop} {v : Value} {xs : List α} (h : Hid (SlO e T w F v xs)) (c : Below w.heap.size w w') : Hid (SlO e T w' F v xs) := Lib.hid (slO_fresh A h.out c)
theorem zt {α : Type} {T : Ty α} (A : T.Law) {e : TypeId} {w w' : World} {F G : Nat → Prop} {v : Value} {xs : List α} (h : Hid (SlO e T w F v xs)) (c : Turn G w w') (g : ∀ b, F b → ¬ G b) : Hid (SlO e T w' F v xs) := Lib.hid (slO_turn A h.out c g)
theorem zal (w : World) (o : Obj) : Below w.heap.size w (w.alloc o) := (Below.refl _ _).alloc (Nat.le_refl _) _
theorem zs (w : World) (o : Obj) : w.heap.size < (w.alloc o).heap.size := by simp [World.size_alloc]
theorem cr {w : World} {b : Nat} {C : Array Value} {t : TypeId} {f : Nat × Nat} (i : Nat) (v : Value) (h : w.heap[b]? = some (.cells C t f)) (e : C[i]? = some v := by rfl) : w.cell? ⟨b, i, none⟩ = some v := (cell_of_row w b i C t f h).trans e
theorem cx {B : Nat} {w w' : World} {p : Addr} {v : Value} (d : Hid (Below B w w')) (c : Hid (w.cell? p = some v)) (l : Hid (p.block < B)) : w'.cell? p = some v := (d.out.cell l.out).trans c.out
theorem zq {w : World} {base : Nat} {e : TypeId} {size g n cap : Nat} {xs : List Value} (h : w.ownsRow base e size (.slice (some ⟨g, 0, none⟩) n cap) n xs) (j : Nat) (hj : j < n * size) : ∃ x, w.cell? ⟨g, j, none⟩ = some x := ⟨_, (World.ownsRow.cellAt h j hj).trans (List.getElem?_eq_getElem (by have h1 : xs.length = n * size := h.1; omega))⟩
theorem ts2 (w : World) (g : Nat) (v0 v1 : Value) : Turn (fun b => b = g) w ((w.setCell ⟨g, 0, none⟩ v0).setCell ⟨g, 1, none⟩ v1) := (((Turn.refl (fun b => b = g) w).trans (turn_set (G := fun b => b = g) (g := g) (j := 0) (u := v0) rfl)).trans (turn_set (G := fun b => b = g) (g := g) (j := 1) (u := v1) rfl))
theorem st2 {w : World} {g : Nat} {t : TypeId} {u0 u1 : Value} (h : w.heap[g]? = some (.cells #[u0, u1] t (0, 0))) (v0 v1 : Value) : ((w.setCell ⟨g, 0, none⟩ v0).setCell ⟨g, 1, none⟩ v1).heap[g]? = some (.cells #[v0, v1] t (0, 0)) := by
 have r := (heap_setCell_same _ g 1 _ _ v1 (heap_setCell_same _ g 0 _ _ v0 h))
 simpa using r
theorem ts3 (w : World) (g : Nat) (v0 v1 v2 : Value) : Turn (fun b => b = g) w (((w.setCell ⟨g, 0, none⟩ v0).setCell ⟨g, 1, none⟩ v1).setCell ⟨g, 2, none⟩ v2) := ((((Turn.refl (fun b => b = g) w).trans (turn_set (G := fun b => b = g) (g := g) (j := 0) (u := v0) rfl)).trans (turn_set (G := fun b => b = g) (g := g) (j := 1) (u := v1) rfl)).trans (turn_set (G := fun b => b = g) (g := g) (j := 2) (u := v2) rfl))
theorem st3 {w : World} {g : Nat} {t : TypeId} {u0 u1 u2 : Value} (h : w.heap[g]? = some (.cells #[u0, u1, u2] t (0, 0))) (v0 v1 v2 : Value) : (((w.setCell ⟨g, 0, none⟩ v0).setCell ⟨g, 1, none⟩ v1).setCell ⟨g, 2, none⟩ v2).heap[g]? = some (.cells #[v0, v1, v2] t (0, 0)) := by
 have r := (heap_setCell_same _ g 2 _ _ v2 (heap_setCell_same _ g 1 _ _ v1 (heap_setCell_same _ g 0 _ _ v0 h)))
 simpa using r
theorem ts4 (w : World) (g : Nat) (v0 v1 v2 v3 : Value) : Turn (fun b => b = g) w ((((w.setCell ⟨g, 0, none⟩ v0).setCell ⟨g, 1, none⟩ v1).setCell ⟨g, 2, none⟩ v2).setCell ⟨g, 3, none⟩ v3) := (((((Turn.refl (fun b => b = g) w).trans (turn_set (G := fun b => b = g) (g := g) (j := 0) (u := v0) rfl)).trans (turn_set (G := fun b => b = g) (g := g) (j := 1) (u := v1) rfl)).trans (turn_set (G := fun b => b = g) (g := g) (j := 2) (u := v2) rfl)).trans (turn_set (G := fun b => b = g) (g := g) (j := 3) (u := v3) rfl))
theorem st4 {w : World} {g : Nat} {t : TypeId} {u0 u1 u2 u3 : Value} (h : w.heap[g]? = some (.cells #[u0, u1, u2, u3] t (0, 0))) (v0 v1 v2 v3 : Value) : ((((w.setCell ⟨g, 0, none⟩ v0).setCell ⟨g, 1, none⟩ v1).setCell ⟨g, 2, none⟩ v2).setCell ⟨g, 3, none⟩ v3).heap[g]? = some (.cells #[v0, v1, v2, v3] t (0, 0)) := by
 have r := (heap_setCell_same _ g 3 _ _ v3 (heap_setCell_same _ g 2 _ _ v2 (heap_setCell_same _ g 1 _ _ v1 (heap_setCell_same _ g 0 _ _ v0 h))))
 simpa using r
theorem ts5 (w : World) (g : Nat) (v0 v1 v2 v3 v4 : Value) : Turn (fun b => b = g) w (((((w.setCell ⟨g, 0, none⟩ v0).setCell ⟨g, 1, none⟩ v1).setCell ⟨g, 2, none⟩ v2).setCell ⟨g, 3, none⟩ v3).setCell ⟨g, 4, none⟩ v4) := ((((((Turn.refl (fun b => b = g) w).trans (turn_set (G := fun b => b = g) (g := g) (j := 0) (u := v0) rfl)).trans (turn_set (G := fun b => b = g) (g := g) (j := 1) (u := v1) rfl)).trans (turn_set (G := fun b => b = g) (g := g) (j := 2) (u := v2) rfl)).trans (turn_set (G := fun b => b = g) (g := g) (j := 3) (u := v3) rfl)).trans (turn_set (G := fun b => b = g) (g := g) (j := 4) (u := v4) rfl))
theorem st5 {w : World} {g : Nat} {t : TypeId} {u0 u1 u2 u3 u4 : Value} (h : w.heap[g]? = some (.cells #[u0, u1, u2, u3, u4] t (0, 0))) (v0 v1 v2 v3 v4 : Value) : (((((w.setCell ⟨g, 0, none⟩ v0).setCell ⟨g, 1, none⟩ v1).setCell ⟨g, 2, none⟩ v2).setCell ⟨g, 3, none⟩ v3).setCell ⟨g, 4, none⟩ v4).heap[g]? = some (.cells #[v0, v1, v2, v3, v4] t (0, 0)) := by
 have r := (heap_setCell_same _ g 4 _ _ v4 (heap_setCell_same _ g 3 _ _ v3 (heap_setCell_same _ g 2 _ _ v2 (heap_setCell_same _ g 1 _ _ v1 (heap_setCell_same _ g 0 _ _ v0 h)))))
 simpa using r
theorem ts6 (w : World) (g : Nat) (v0 v1 v2 v3 v4 v5 : Value) : Turn (fun b => b = g) w ((((((w.setCell ⟨g, 0, none⟩ v0).setCell ⟨g, 1, none⟩ v1).setCell ⟨g, 2, none⟩ v2).setCell ⟨g, 3, none⟩ v3).setCell ⟨g, 4, none⟩ v4).setCell ⟨g, 5, none⟩ v5) := (((((((Turn.refl (fun b => b = g) w).trans (turn_set (G := fun b => b = g) (g := g) (j := 0) (u := v0) rfl)).trans (turn_set (G := fun b => b = g) (g := g) (j := 1) (u := v1) rfl)).trans (turn_set (G := fun b => b = g) (g := g) (j := 2) (u := v2) rfl)).trans (turn_set (G := fun b => b = g) (g := g) (j := 3) (u := v3) rfl)).trans (turn_set (G := fun b => b = g) (g := g) (j := 4) (u := v4) rfl)).trans (turn_set (G := fun b => b = g) (g := g) (j := 5) (u := v5) rfl))
theorem st6 {w : World} {g : Nat} {t : TypeId} {u0 u1 u2 u3 u4 u5 : Value} (h : w.heap[g]? = some (.cells #[u0, u1, u2, u3, u4, u5] t (0, 0))) (v0 v1 v2 v3 v4 v5 : Value) : ((((((w.setCell ⟨g, 0, none⟩ v0).setCell ⟨g, 1, none⟩ v1).setCell ⟨g, 2, none⟩ v2).setCell ⟨g, 3, none⟩ v3).setCell ⟨g, 4, none⟩ v4).setCell ⟨g, 5, none⟩ v5).heap[g]? = some (.cells #[v0, v1, v2, v3, v4, v5] t (0, 0)) := by
 have r := (heap_setCell_same _ g 5 _ _ v5 (heap_setCell_same _ g 4 _ _ v4 (heap_setCell_same _ g 3 _ _ v3 (heap_setCell_same _ g 2 _ _ v2 (heap_setCell_same _ g 1 _ _ v1 (heap_setCell_same _ g 0 _ _ v0 h))))))
 simpa using r
theorem ts7 (w : World) (g : Nat) (v0 v1 v2 v3 v4 v5 v6 : Value) : Turn (fun b => b = g) w (((((((w.setCell ⟨g, 0, none⟩ v0).setCell ⟨g, 1, none⟩ v1).setCell ⟨g, 2, none⟩ v2).setCell ⟨g, 3, none⟩ v3).setCell ⟨g, 4, none⟩ v4).setCell ⟨g, 5, none⟩ v5).setCell ⟨g, 6, none⟩ v6) := ((((((((Turn.refl (fun b => b = g) w).trans (turn_set (G := fun b => b = g) (g := g) (j := 0) (u := v0) rfl)).trans (turn_set (G := fun b => b = g) (g := g) (j := 1) (u := v1) rfl)).trans (turn_set (G := fun b => b = g) (g := g) (j := 2) (u := v2) rfl)).trans (turn_set (G := fun b => b = g) (g := g) (j := 3) (u := v3) rfl)).trans (turn_set (G := fun b => b = g) (g := g) (j := 4) (u := v4) rfl)).trans (turn_set (G := fun b => b = g) (g := g) (j := 5) (u := v5) rfl)).trans (turn_set (G := fun b => b = g) (g := g) (j := 6) (u := v6) rfl))
theorem st7 {w : World} {g : Nat} {t : TypeId} {u0 u1 u2 u3 u4 u5 u6 : Value} (h : w.heap[g]? = some (.cells #[u0, u1, u2, u3, u4, u5, u6] t (0, 0))) (v0 v1 v2 v3 v4 v5 v6 : Value) : (((((((w.setCell ⟨g, 0, none⟩ v0).setCell ⟨g, 1, none⟩ v1).setCell ⟨g, 2, none⟩ v2).setCell ⟨g, 3, none⟩ v3).setCell ⟨g, 4, none⟩ v4).setCell ⟨g, 5, none⟩ v5).setCell ⟨g, 6, none⟩ v6).heap[g]? = some (.cells #[v0, v1, v2, v3, v4, v5, v6] t (0, 0)) := by
 have r := (heap_setCell_same _ g 6 _ _ v6 (heap_setCell_same _ g 5 _ _ v5 (heap_setCell_same _ g 4 _ _ v4 (heap_setCell_same _ g 3 _ _ v3 (heap_setCell_same _ g 2 _ _ v2 (heap_setCell_same _ g 1 _ _ v1 (heap_setCell_same _ g 0 _ _ v0 h)))))))
 simpa using r
theorem ts8 (w : World) (g : Nat) (v0 v1 v2 v3 v4 v5 v6 v7 : Value) : Turn (fun b => b = g) w ((((((((w.setCell ⟨g, 0, none⟩ v0).setCell ⟨g, 1, none⟩ v1).setCell ⟨g, 2, none⟩ v2).setCell ⟨g, 3, none⟩ v3).setCell ⟨g, 4, none⟩ v4).setCell ⟨g, 5, none⟩ v5).setCell ⟨g, 6, none⟩ v6).setCell ⟨g, 7, none⟩ v7) := (((((((((Turn.refl (fun b => b = g) w).trans (turn_set (G := fun b => b = g) (g := g) (j := 0) (u := v0) rfl)).trans (turn_set (G := fun b => b = g) (g := g) (j := 1) (u := v1) rfl)).trans (turn_set (G := fun b => b = g) (g := g) (j := 2) (u := v2) rfl)).trans (turn_set (G := fun b => b = g) (g := g) (j := 3) (u := v3) rfl)).trans (turn_set (G := fun b => b = g) (g := g) (j := 4) (u := v4) rfl)).trans (turn_set (G := fun b => b = g) (g := g) (j := 5) (u := v5) rfl)).trans (turn_set (G := fun b => b = g) (g := g) (j := 6) (u := v6) rfl)).trans (turn_set (G := fun b => b = g) (g := g) (j := 7) (u := v7) rfl))
theorem st8 {w : World} {g : Nat} {t : TypeId} {u0 u1 u2 u3 u4 u5 u6 u7 : Value} (h : w.heap[g]? = some (.cells #[u0, u1, u2, u3, u4, u5, u6, u7] t (0, 0))) (v0 v1 v2 v3 v4 v5 v6 v7 : Value) : ((((((((w.setCell ⟨g, 0, none⟩ v0).setCell ⟨g, 1, none⟩ v1).setCell ⟨g, 2, none⟩ v2).setCell ⟨g, 3, none⟩ v3).setCell ⟨g, 4, none⟩ v4).setCell ⟨g, 5, none⟩ v5).setCell ⟨g, 6, none⟩ v6).setCell ⟨g, 7, none⟩ v7).heap[g]? = some (.cells #[v0, v1, v2, v3, v4, v5, v6, v7] t (0, 0)) := by
 have r := (heap_setCell_same _ g 7 _ _ v7 (heap_setCell_same _ g 6 _ _ v6 (heap_setCell_same _ g 5 _ _ v5 (heap_setCell_same _ g 4 _ _ v4 (heap_setCell_same _ g 3 _ _ v3 (heap_setCell_same _ g 2 _ _ v2 (heap_setCell_same _ g 1 _ _ v1 (heap_setCell_same _ g 0 _ _ v0 h))))))))
 simpa using r
theorem ts10 (w : World) (g : Nat) (v0 v1 v2 v3 v4 v5 v6 v7 v8 v9 : Value) : Turn (fun b => b = g) w ((((((((((w.setCell ⟨g, 0, none⟩ v0).setCell ⟨g, 1, none⟩ v1).setCell ⟨g, 2, none⟩ v2).setCell ⟨g, 3, none⟩ v3).setCell ⟨g, 4, none⟩ v4).setCell ⟨g, 5, none⟩ v5).setCell ⟨g, 6, none⟩ v6).setCell ⟨g, 7, none⟩ v7).setCell ⟨g, 8, none⟩ v8).setCell ⟨g, 9, none⟩ v9) := (((((((((((Turn.refl (fun b => b = g) w).trans (turn_set (G := fun b => b = g) (g := g) (j := 0) (u := v0) rfl)).trans (turn_set (G := fun b => b = g) (g := g) (j := 1) (u := v1) rfl)).trans (turn_set (G := fun b => b = g) (g := g) (j := 2) (u := v2) rfl)).trans (turn_set (G := fun b => b = g) (g := g) (j := 3) (u := v3) rfl)).trans (turn_set (G := fun b => b = g) (g := g) (j := 4) (u := v4) rfl)).trans (turn_set (G := fun b => b = g) (g := g) (j := 5) (u := v5) rfl)).trans (turn_set (G := fun b => b = g) (g := g) (j := 6) (u := v6) rfl)).trans (turn_set (G := fun b => b = g) (g := g) (j := 7) (u := v7) rfl)).trans (turn_set (G := fun b => b = g) (g := g) (j := 8) (u := v8) rfl)).trans (turn_set (G := fun b => b = g) (g := g) (j := 9) (u := v9) rfl))
theorem st10 {w : World} {g : Nat} {t : TypeId} {u0 u1 u2 u3 u4 u5 u6 u7 u8 u9 : Value} (h : w.heap[g]? = some (.cells #[u0, u1, u2, u3, u4, u5, u6, u7, u8, u9] t (0, 0))) (v0 v1 v2 v3 v4 v5 v6 v7 v8 v9 : Value) : ((((((((((w.setCell ⟨g, 0, none⟩ v0).setCell ⟨g, 1, none⟩ v1).setCell ⟨g, 2, none⟩ v2).setCell ⟨g, 3, none⟩ v3).setCell ⟨g, 4, none⟩ v4).setCell ⟨g, 5, none⟩ v5).setCell ⟨g, 6, none⟩ v6).setCell ⟨g, 7, none⟩ v7).setCell ⟨g, 8, none⟩ v8).setCell ⟨g, 9, none⟩ v9).heap[g]? = some (.cells #[v0, v1, v2, v3, v4, v5, v6, v7, v8, v9] t (0, 0)) := by
 have r := (heap_setCell_same _ g 9 _ _ v9 (heap_setCell_same _ g 8 _ _ v8 (heap_setCell_same _ g 7 _ _ v7 (heap_setCell_same _ g 6 _ _ v6 (heap_setCell_same _ g 5 _ _ v5 (heap_setCell_same _ g 4 _ _ v4 (heap_setCell_same _ g 3 _ _ v3 (heap_setCell_same _ g 2 _ _ v2 (heap_setCell_same _ g 1 _ _ v1 (heap_setCell_same _ g 0 _ _ v0 h))))))))))
 simpa using r
theorem ty_ret {a b : Int} (h : a = b) : Ending.returned (.int .i64 a) = .returned (.int .i64 b) := by rw [h]
abbrev tIntS : Ty (List Int) := tSl 3 tInt
theorem tIntS_law : tIntS.Law := tSl_law tInt_law (by decide)
theorem ints_slR {w : World} {v : Value} {xs : List Int} (h : Ints w v xs) : SlR tInt w v xs := by
 rcases h with h | ⟨b, off, cap, h1, h2, h3, h4⟩
 ·
  exact Or.inl h
 ·
  refine Or.inr ⟨b, off, cap, fun j => [.int .i64 (xs.getD j 0)], h1, h2, h3, fun j hj => ⟨fun i hi => ?_, rfl⟩⟩
  have hi0 : i < 1 := hi
  obtain rfl : i = 0 := by omega
  have e : off + j * tInt.n + 0 = off + j := by show off + j * 1 + 0 = _; omega
  rw [e, h4 j hj]; rfl
theorem slR_ints {w : World} {v : Value} {xs : List Int} (h : SlR tInt w v xs) : Ints w v xs := by
 rcases h with h | ⟨b, off, cap, us, h1, h2, h3, h4⟩
 ·
  exact Or.inl h
 ·
  refine Or.inr ⟨b, off, cap, h1, h2, h3, fun j hj => ?_⟩
  have h5 := (h4 j hj).1 0 (by decide)
  have h6 : us j = [.int .i64 (xs.getD j 0)] := (h4 j hj).2
  have e : off + j * tInt.n + 0 = off + j := by show off + j * 1 + 0 = _; omega
  rw [e, h6] at h5
  exact h5
theorem zL_flat {α : Type} {T : Ty α} (h : ∀ x, T.sz x = 0) (xs : List α) : zL T xs = xs.length := by
 unfold zL zTo sumN
 have : ∀ l : List α, (l.map T.sz).sum = 0 := fun l => by
  induction l with
  | nil => rfl
  | cons x l ih => rw [List.map_cons, List.sum_cons, h x, ih]
 rw [this]; rfl
theorem zL_ints (xs : List Int) : zL tInt xs = xs.length := zL_flat (fun _ => rfl) xs
theorem own_slO {w : World} {F : Nat → Prop} {v : Value} {xs : List Int} {B : Nat} (h : OwnsN w B v xs) (hF : ∀ b, v.ownBlock = some b → F b) : SlO 3 tInt w F v xs := by
 refine ⟨_, fun j => [.int .i64 (xs.getD j 0)], fun _ _ => False, row_low h (Nat.zero_le _), hF, fun j hj => ⟨fun i hi => ?_, rfl, fun b hb => False.elim hb⟩, fun i j _ _ _ b hb => False.elim hb⟩
 have hi0 : i < 1 := hi
 obtain rfl : i = 0 := by omega
 have e : j * tInt.n + 0 = j := by show j * 1 + 0 = _; omega
 rw [e]
 simp [List.getD, hj]
/-- Numbers in new memory, either way. -/
theorem fresh_ints {w w' : World} {v : Value} {xs : List Int} (h : OwnsN w' w.heap.size v xs) : SlO 3 tInt w' (since w) v xs := own_slO h (fun b hb => (h.lt b hb).1)
theorem szIntS_Y (v : Value) (xs : List Int) (k0 : Int) (w : World) (h : SlR tInt w v xs) (hs : ((zL tInt xs : Nat) : Int) ≤ k0) (hk : k0 ≤ 1048576) :
  Calls Tryz.prog 50 #[v, .int .i64 k0] w fun e w' => e = .returned (.int .i64 (k0 - ((zL tInt xs : Nat) : Int))) ∧ Below w.heap.size w w' := by
 rw [zL_ints] at hs ⊢
 obtain ⟨a, cap, rfl⟩ := slR_len h
 exact (szInt_yes a cap xs.length k0 w hs hk).mono fun e w' g => ⟨g.1, by rw [g.2]; exact Below.refl _ _⟩
theorem szIntS_N (v : Value) (xs : List Int) (k0 : Int) (w : World) (h : SlR tInt w v xs) (hs : k0 < ((zL tInt xs : Nat) : Int)) (hk : k0 ≤ 1048576) (hp : 0 ≤ k0) (ho : tIntS.ok xs) :
  Calls Tryz.prog 50 #[v, .int .i64 k0] w fun e w' => e = .returned (.int .i64 (-1)) ∧ Below w.heap.size w w' := by
 rw [zL_ints] at hs
 obtain ⟨a, cap, rfl⟩ := slR_len h
 exact (szInt_no a cap xs.length k0 w hs hp ho.1).mono fun e w' g => ⟨g.1, by rw [g.2]; exact Below.refl _ _⟩
theorem toIntS_S (v : Value) (xs : List Int) (w : World) (h : SlR tInt w v xs) (hs : zL tInt xs ≤ 1048576) :
  Calls Tryz.prog 57 #[v] w (FreshS 3 tInt w xs) := by
 rw [zL_ints] at hs
 refine (toIntS_any v xs w (slR_ints h) hs).mono ?_
 rintro e w' ⟨u, rfl, o, b⟩
 exact ⟨u, rfl, fresh_ints o, b⟩
theorem eqIntS_S (v u : Value) (xs : List Int) (w : World) (h : SlR tInt w v xs) (g : SlR tInt w u xs) (hs : zL tInt xs ≤ 1048576) :
  Calls Tryz.prog 65 #[v, u] w fun e w' => e = .returned (.bool true) ∧ Below w.heap.size w w' := by
 rw [zL_ints] at hs
 exact eqIntS_same v u xs w (slR_ints h) (slR_ints g) hs
def tVersion : Ty (Int × List Int × Int × Int) := tPair tInt (tPair tIntS (tPair tInt tInt))
theorem tVersion_law : tVersion.Law := tPair_law tInt_law (tPair_law tIntS_law (tPair_law tInt_law tInt_law))
theorem tVersion_R {w : World} {cs : List Value} {a0 : Int} {x1 : List Int} {a2 : Int} {a3 : Int} (h : tVersion.R w cs (a0, x1, a2, a3)) : ∃ v1, cs = [.int .i64 a0, v1, .int .i64 a2, .int .i64 a3] ∧ SlR tInt w v1 x1 := by
 obtain ⟨_, _, rfl, rfl, ⟨_, _, rfl, ⟨v1, rfl, h1⟩, ⟨_, _, rfl, rfl, rfl⟩⟩⟩ := h
 exact ⟨_, rfl, h1⟩
theorem tVersion_mkR {w : World} {a0 : Int} {x1 : List Int} {a2 : Int} {a3 : Int} {v1 : Value} (h1 : SlR tInt w v1 x1) : tVersion.R w [.int .i64 a0, v1, .int .i64 a2, .int .i64 a3] (a0, x1, a2, a3) := ⟨[.int .i64 a0], [v1, .int .i64 a2, .int .i64 a3], rfl, rfl, ⟨[v1], [.int .i64 a2, .int .i64 a3], rfl, ⟨_, rfl, h1⟩, ⟨[.int .i64 a2], [.int .i64 a3], rfl, rfl, rfl⟩⟩⟩
theorem tVersion_sz {a0 : Int} {x1 : List Int} {a2 : Int} {a3 : Int} : tVersion.sz (a0, x1, a2, a3) = zL tInt x1 := by
 simp only [tVersion, tPair_sz, tPair_nd, tPair_nv, tInt_sz, tInt_nd, tInt_nv, tSl_sz, tSl_nd, tSl_nv]
 try omega
theorem tVersion_mkO {w : World} {F : Nat → Prop} {a0 : Int} {x1 : List Int} {a2 : Int} {a3 : Int} {v1 : Value} {F1 : Nat → Prop} (h1 : SlO 3 tInt w F1 v1 x1) (s1 : ∀ b, F1 b → F b)  : tVersion.O w F [.int .i64 a0, v1, .int .i64 a2, .int .i64 a3] (a0, x1, a2, a3) := ⟨[.int .i64 a0], [v1, .int .i64 a2, .int .i64 a3], fun _ => False, F1, rfl, rfl, ⟨[v1], [.int .i64 a2, .int .i64 a3], F1, fun _ => False, rfl, ⟨_, rfl, h1⟩, ⟨[.int .i64 a2], [.int .i64 a3], fun _ => False, fun _ => False, rfl, rfl, rfl, (fun b h => (False.elim h)), (fun b h => (False.elim h)), (fun b h g => (False.elim h))⟩, (fun b h => h), (fun b h => (False.elim h)), (fun b h g => (False.elim g))⟩, (fun b h => (False.elim h)), (fun b h => s1 b h), (fun b h g => (False.elim h))⟩
abbrev tVersionS : Ty (List (Int × List Int × Int × Int)) := tSl 212 tVersion
theorem tVersionS_law : tVersionS.Law := tSl_law tVersion_law (by decide)
theorem tVersion_zero (w : World) : tVersion.O w (fun _ => False) #[.int .i64 0, .slice none 0 0, .int .i64 0, .int .i64 0].toList tVersion.d := tVersion_mkO (slO_nil _ _ _ (fun _ => False)) (fun b h => h) 
abbrev tVersionSS : Ty (List (List (Int × List Int × Int × Int))) := tSl 213 tVersionS
theorem tVersionSS_law : tVersionSS.Law := tSl_law tVersionS_law (by decide)
def tStore : Ty (List (List (Int × List Int × Int × Int)) × Int) := tPair tVersionSS tInt
theorem tStore_law : tStore.Law := tPair_law tVersionSS_law tInt_law
def tIntES : Ty (List Int) where
 n := 1
 d := []
 R := fun w cs xs => ∃ v, cs = [v] ∧ SlR tInt w v xs
 O := fun w F cs xs => ∃ (v : Value) (e : TypeId), cs = [v] ∧ SlO e tInt w F v xs
 sz := zL tInt
 nd := ndL tInt
 nv := ndL tInt
 md := mAll tInt
 mv := mAll tInt
 ok := fun xs => (xs.length : Int) ≤ 9223372036854775807 ∧ ∀ j, j < xs.length → tInt.ok (xs.getD j tInt.d)
 s := 0
theorem tIntES_md (xs : List Int) (k : Int) : tIntES.md xs k = mAll tInt xs k := rfl
theorem tIntES_mv (xs : List Int) (k : Int) : tIntES.mv xs k = mAll tInt xs k := rfl
theorem tIntES_sz (xs : List Int) : tIntES.sz xs = zL tInt xs := rfl
theorem tIntES_nd (xs : List Int) : tIntES.nd xs = ndL tInt xs := rfl
theorem tIntES_nv (xs : List Int) : tIntES.nv xs = ndL tInt xs := rfl
theorem tIntES_law : tIntES.Law where
 pos := Nat.one_pos
 len := fun {w cs x} h => by obtain ⟨v, rfl, _⟩ := h; rfl
 below := fun {W w cs x} h hb => by obtain ⟨v, e, h⟩ := h; exact ⟨v, e, slR_below tInt_law h hb⟩
 reads := fun {w F cs x} h => by obtain ⟨v, _, e, h⟩ := h; exact ⟨v, e, slO_reads tInt_law h⟩
 turn := fun {w w' F G cs x} h k hd => by obtain ⟨v, t, e, h⟩ := h; exact ⟨v, t, e, slO_turn tInt_law h k hd⟩
 mono := fun {w F F' cs x} h hf => by obtain ⟨v, t, e, h⟩ := h; exact ⟨v, t, e, slO_mono h hf⟩
 lt := fun {w F cs x} h => by obtain ⟨v, t, e, h⟩ := h; exact ⟨v, t, e, slO_lt tInt_law h⟩
 nd_le := fun x => ndL_le tInt_law (by decide) x
 nv_le := fun x => ndL_le tInt_law (by decide) x
def tCond : Ty (Int × Int × Int) := tPair tInt (tPair tInt tInt)
theorem tCond_law : tCond.Law := tPair_law tInt_law (tPair_law tInt_law tInt_law)
theorem tCond_R {w : World} {cs : List Value} {a0 : Int} {a1 : Int} {a2 : Int} (h : tCond.R w cs (a0, a1, a2)) : cs = [.int .i64 a0, .int .i64 a1, .int .i64 a2] := by
 obtain ⟨_, _, rfl, rfl, ⟨_, _, rfl, rfl, rfl⟩⟩ := h
 rfl
theorem tCond_mkO {w : World} {F : Nat → Prop} {a0 : Int} {a1 : Int} {a2 : Int}    : tCond.O w F [.int .i64 a0, .int .i64 a1, .int .i64 a2] (a0, a1, a2) := ⟨[.int .i64 a0], [.int .i64 a1, .int .i64 a2], fun _ => False, fun _ => False, rfl, rfl, ⟨[.int .i64 a1], [.int .i64 a2], fun _ => False, fun _ => False, rfl, rfl, rfl, (fun b h => (False.elim h)), (fun b h => (False.elim h)), (fun b h g => (False.elim h))⟩, (fun b h => (False.elim h)), (fun b h => (False.elim h)), (fun b h g => (False.elim h))⟩
set_option maxHeartbeats 8000000 in
theorem toCond_T (a0 a1 a2 : Int) (w : World)   :
  Calls Tryz.prog 141 #[.agg #[.int .i64 a0, .int .i64 a1, .int .i64 a2]] w (FreshT tCond (fun cs => .agg cs.toArray) w (a0, a1, a2)) := by
 go_enter Tryz.func141, Tryz.ntmps141
 go_wp2
 exact bodyPost_ret (v := .agg #[.int .i64 a0, .int .i64 a1, .int .i64 a2]) (by simp [results, Tryz.f141, go_sem]) rfl ⟨[.int .i64 a0, .int .i64 a1, .int .i64 a2], rfl, tCond_mkO, (((Below.refl _ w).alloc (Nat.le_refl _) _).alloc (by simp) _).alloc (by simp; omega) _⟩
set_option maxHeartbeats 8000000 in
theorem eqCond_T (a0 a1 a2 : Int) (w : World) :
  Calls Tryz.prog 147 #[.agg #[.int .i64 a0, .int .i64 a1, .int .i64 a2], .agg #[.int .i64 a0, .int .i64 a1, .int .i64 a2]] w fun e w' => e = .returned (.bool true) ∧ Below w.heap.size w w' := by
 have e0 : (a0 != a0) = false := by simp
 have e1 : (a1 != a1) = false := by simp
 have e2 : (a2 != a2) = false := by simp
 go_enter Tryz.func147, Tryz.ntmps147
 go_wp2
 go_ret
 exact ⟨rfl, ((Below.refl _ w).alloc (Nat.le_refl _) _).alloc (by simp) _⟩
abbrev tCondS : Ty (List (Int × Int × Int)) := tSl 177 tCond
theorem tCondS_law : tCondS.Law := tSl_law tCond_law (by decide)
set_option maxHeartbeats 8000000 in
theorem szCondS_Y (v : Value) (xs : List (Int × Int × Int)) (k0 : Int) (w : World) (h : SlR tCond w v xs) (hs : ((zL tCond xs : Nat) : Int) ≤ k0) (hk : k0 ≤ 1048576) :
  Calls Tryz.prog 73 #[v, .int .i64 k0] w fun e w' => e = .returned (.int .i64 (k0 - ((zL tCond xs : Nat) : Int))) ∧ Below w.heap.size w w' := by
 have hz : zL tCond xs = xs.length := zL_flat (fun _ => rfl) xs
 rw [hz] at hs ⊢
 obtain ⟨a, cap, rfl⟩ := slR_len h
 clear h hz
 have h0 : ¬ k0 - (xs.length : Int) < 0 := by omega
 go_enter Tryz.func73, Tryz.ntmps73
 go_wp2
 go_ret
 exact ⟨rfl, Below.refl _ _⟩
set_option maxHeartbeats 8000000 in
theorem szCondS_N (v : Value) (xs : List (Int × Int × Int)) (k0 : Int) (w : World) (h : SlR tCond w v xs) (hs : k0 < ((zL tCond xs : Nat) : Int)) (hk : k0 ≤ 1048576) (hp : 0 ≤ k0) (ho : tCondS.ok xs) :
  Calls Tryz.prog 73 #[v, .int .i64 k0] w fun e w' => e = .returned (.int .i64 (-1)) ∧ Below w.heap.size w w' := by
 have hz : zL tCond xs = xs.length := zL_flat (fun _ => rfl) xs
 rw [hz] at hs
 obtain ⟨a, cap, rfl⟩ := slR_len h
 have hn := ho.1
 clear h hz ho
 have h0 : k0 - (xs.length : Int) < 0 := by omega
 go_enter Tryz.func73, Tryz.ntmps73
 go_wp2
 go_ret
 exact ⟨rfl, Below.refl _ _⟩
theorem tCond_zero (w : World) : tCond.O w (fun _ => False) #[.int .i64 0, .int .i64 0, .int .i64 0].toList tCond.d := tCond_mkO   
def tQuery : Ty (Int × Int × List (Int × Int × Int) × List Int) := tPair tInt (tPair tInt (tPair tCondS tIntS))
theorem tQuery_law : tQuery.Law := tPair_law tInt_law (tPair_law tInt_law (tPair_law tCondS_law tIntS_law))
def tRow : Ty (Int × List Int) := tPair tInt tIntS
theorem tRow_law : tRow.Law := tPair_law tInt_law tIntS_law
theorem tRow_R {w : World} {cs : List Value} {a0 : Int} {x1 : List Int} (h : tRow.R w cs (a0, x1)) : ∃ v1, cs = [.int .i64 a0, v1] ∧ SlR tInt w v1 x1 := by
 obtain ⟨_, _, rfl, rfl, ⟨v1, rfl, h1⟩⟩ := h
 exact ⟨_, rfl, h1⟩
theorem tRow_sz {a0 : Int} {x1 : List Int} : tRow.sz (a0, x1) = zL tInt x1 := by
 simp only [tRow, tPair_sz, tPair_nd, tPair_nv, tInt_sz, tInt_nd, tInt_nv, tSl_sz, tSl_nd, tSl_nv]
 try omega
theorem tRow_mkO {w : World} {F : Nat → Prop} {a0 : Int} {x1 : List Int} {v1 : Value} {F1 : Nat → Prop} (h1 : SlO 3 tInt w F1 v1 x1) (s1 : ∀ b, F1 b → F b)  : tRow.O w F [.int .i64 a0, v1] (a0, x1) := ⟨[.int .i64 a0], [v1], fun _ => False, F1, rfl, rfl, ⟨_, rfl, h1⟩, (fun b h => (False.elim h)), (fun b h => s1 b h), (fun b h g => (False.elim h))⟩
abbrev tRowS : Ty (List (Int × List Int)) := tSl 75 tRow
theorem tRowS_law : tRowS.Law := tSl_law tRow_law (by decide)
theorem tRow_zero (w : World) : tRow.O w (fun _ => False) #[.int .i64 0, .slice none 0 0].toList tRow.d := tRow_mkO (slO_nil _ _ _ (fun _ => False)) (fun b h => h) 
def tActive : Ty ((Int × Int × List (Int × Int × Int) × List Int) × Int × List Int × Int × Int × Int × List (Int × List Int)) := tPair tQuery (tPair tInt (tPair tIntS (tPair tInt (tPair tInt (tPair tInt tRowS)))))
theorem tActive_law : tActive.Law := tPair_law tQuery_law (tPair_law tInt_law (tPair_law tIntS_law (tPair_law tInt_law (tPair_law tInt_law (tPair_law tInt_law tRowS_law)))))
theorem tActive_R {w : World} {cs : List Value} {a0 : Int} {a1 : Int} {x2 : List (Int × Int × Int)} {x3 : List Int} {a4 : Int} {x5 : List Int} {a6 : Int} {a7 : Int} {a8 : Int} {x9 : List (Int × List Int)} (h : tActive.R w cs ((a0, a1, x2, x3), a4, x5, a6, a7, a8, x9)) : ∃ v2 v3 v5 v9, cs = [.int .i64 a0, .int .i64 a1, v2, v3, .int .i64 a4, v5, .int .i64 a6, .int .i64 a7, .int .i64 a8, v9] ∧ SlR tCond w v2 x2 ∧ SlR tInt w v3 x3 ∧ SlR tInt w v5 x5 ∧ SlR tRow w v9 x9 := by
 obtain ⟨_, _, rfl, ⟨_, _, rfl, rfl, ⟨_, _, rfl, rfl, ⟨_, _, rfl, ⟨v2, rfl, h2⟩, ⟨v3, rfl, h3⟩⟩⟩⟩, ⟨_, _, rfl, rfl, ⟨_, _, rfl, ⟨v5, rfl, h5⟩, ⟨_, _, rfl, rfl, ⟨_, _, rfl, rfl, ⟨_, _, rfl, rfl, ⟨v9, rfl, h9⟩⟩⟩⟩⟩⟩⟩ := h
 exact ⟨_, _, _, _, rfl, h2, h3, h5, h9⟩
theorem tActive_sz {a0 : Int} {a1 : Int} {x2 : List (Int × Int × Int)} {x3 : List Int} {a4 : Int} {x5 : List Int} {a6 : Int} {a7 : Int} {a8 : Int} {x9 : List (Int × List Int)} : tActive.sz ((a0, a1, x2, x3), a4, x5, a6, a7, a8, x9) = zL tCond x2 + zL tInt x3 + zL tInt x5 + zL tRow x9 := by
 simp only [tActive, tPair_sz, tPair_nd, tPair_nv, tInt_sz, tInt_nd, tInt_nv, tSl_sz, tSl_nd, tSl_nv, tQuery]
 try omega
theorem tActive_mkO {w : World} {F : Nat → Prop} {a0 : Int} {a1 : Int} {x2 : List (Int × Int × Int)} {x3 : List Int} {a4 : Int} {x5 : List Int} {a6 : Int} {a7 : Int} {a8 : Int} {x9 : List (Int × List Int)} {v2 v3 v5 v9 : Value} {F2 F3 F5 F9 : Nat → Prop} (h2 : SlO 177 tCond w F2 v2 x2) (h3 : SlO 3 tInt w F3 v3 x3) (h5 : SlO 3 tInt w F5 v5 x5) (h9 : SlO 75 tRow w F9 v9 x9) (s2 : ∀ b, F2 b → F b) (s3 : ∀ b, F3 b → F b) (s5 : ∀ b, F5 b → F b) (s9 : ∀ b, F9 b → F b) (d2_3 : ∀ b, F2 b → ¬ F3 b) (d2_5 : ∀ b, F2 b → ¬ F5 b) (d2_9 : ∀ b, F2 b → ¬ F9 b) (d3_5 : ∀ b, F3 b → ¬ F5 b) (d3_9 : ∀ b, F3 b → ¬ F9 b) (d5_9 : ∀ b, F5 b → ¬ F9 b) : tActive.O w F [.int .i64 a0, .int .i64 a1, v2, v3, .int .i64 a4, v5, .int .i64 a6, .int .i64 a7, .int .i64 a8, v9] ((a0, a1, x2, x3), a4, x5, a6, a7, a8, x9) := ⟨[.int .i64 a0, .int .i64 a1, v2, v3], [.int .i64 a4, v5, .int .i64 a6, .int .i64 a7, .int .i64 a8, v9], fun b => F2 b ∨ (F3 b), fun b => F5 b ∨ (F9 b), rfl, ⟨[.int .i64 a0], [.int .i64 a1, v2, v3], fun _ => False, fun b => F2 b ∨ (F3 b), rfl, rfl, ⟨[.int .i64 a1], [v2, v3], fun _ => False, fun b => F2 b ∨ (F3 b), rfl, rfl, ⟨[v2], [v3], F2, F3, rfl, ⟨_, rfl, h2⟩, ⟨_, rfl, h3⟩, (fun b h => (Or.inl h)), (fun b h => (Or.inr h)), (fun b h g => d2_3 b h g)⟩, (fun b h => (False.elim h)), (fun b h => (h.elim (fun q0 => (Or.inl q0)) (fun q0 => (Or.inr q0)))), (fun b h g => (False.elim h))⟩, (fun b h => (False.elim h)), (fun b h => (h.elim (fun q0 => (Or.inl q0)) (fun q0 => (Or.inr q0)))), (fun b h g => (False.elim h))⟩, ⟨[.int .i64 a4], [v5, .int .i64 a6, .int .i64 a7, .int .i64 a8, v9], fun _ => False, fun b => F5 b ∨ (F9 b), rfl, rfl, ⟨[v5], [.int .i64 a6, .int .i64 a7, .int .i64 a8, v9], F5, F9, rfl, ⟨_, rfl, h5⟩, ⟨[.int .i64 a6], [.int .i64 a7, .int .i64 a8, v9], fun _ => False, F9, rfl, rfl, ⟨[.int .i64 a7], [.int .i64 a8, v9], fun _ => False, F9, rfl, rfl, ⟨[.int .i64 a8], [v9], fun _ => False, F9, rfl, rfl, ⟨_, rfl, h9⟩, (fun b h => (False.elim h)), (fun b h => h), (fun b h g => (False.elim h))⟩, (fun b h => (False.elim h)), (fun b h => h), (fun b h g => (False.elim h))⟩, (fun b h => (False.elim h)), (fun b h => h), (fun b h g => (False.elim h))⟩, (fun b h => (Or.inl h)), (fun b h => (Or.inr h)), (fun b h g => d5_9 b h g)⟩, (fun b h => (False.elim h)), (fun b h => (h.elim (fun q0 => (Or.inl q0)) (fun q0 => (Or.inr q0)))), (fun b h g => (False.elim h))⟩, (fun b h => (h.elim (fun q0 => s2 b q0) (fun q0 => s3 b q0))), (fun b h => (h.elim (fun q0 => s5 b q0) (fun q0 => s9 b q0))), (fun b h g => (h.elim (fun q0 => (g.elim (fun q10 => d2_5 b q0 q10) (fun q10 => d2_9 b q0 q10))) (fun q0 => (g.elim (fun q10 => d3_5 b q0 q10) (fun q10 => d3_9 b q0 q10)))))⟩
abbrev tActiveS : Ty (List ((Int × Int × List (Int × Int × Int) × List Int) × Int × List Int × Int × Int × Int × List (Int × List Int))) := tSl 104 tActive
theorem tActiveS_law : tActiveS.Law := tSl_law tActive_law (by decide)
theorem tActive_zero (w : World) : tActive.O w (fun _ => False) #[.int .i64 0, .int .i64 0, .slice none 0 0, .slice none 0 0, .int .i64 0, .slice none 0 0, .int .i64 0, .int .i64 0, .int .i64 0, .slice none 0 0].toList tActive.d := tActive_mkO (slO_nil _ _ _ (fun _ => False)) (slO_nil _ _ _ (fun _ => False)) (slO_nil _ _ _ (fun _ => False)) (slO_nil _ _ _ (fun _ => False)) (fun b h => h) (fun b h => h) (fun b h => h) (fun b h => h) (fun b h _ => h) (fun b h _ => h) (fun b h _ => h) (fun b h _ => h) (fun b h _ => h) (fun b h _ => h)
def tFinished : Ty ((Int × Int × List (Int × Int × Int) × List Int) × Int × Int × List (Int × List Int)) := tPair tQuery (tPair tInt (tPair tInt tRowS))
theorem tFinished_law : tFinished.Law := tPair_law tQuery_law (tPair_law tInt_law (tPair_law tInt_law tRowS_law))
theorem tFinished_R {w : World} {cs : List Value} {a0 : Int} {a1 : Int} {x2 : List (Int × Int × Int)} {x3 : List Int} {a4 : Int} {a5 : Int} {x6 : List (Int × List Int)} (h : tFinished.R w cs ((a0, a1, x2, x3), a4, a5, x6)) : ∃ v2 v3 v6, cs = [.int .i64 a0, .int .i64 a1, v2, v3, .int .i64 a4, .int .i64 a5, v6] ∧ SlR tCond w v2 x2 ∧ SlR tInt w v3 x3 ∧ SlR tRow w v6 x6 := by
 obtain ⟨_, _, rfl, ⟨_, _, rfl, rfl, ⟨_, _, rfl, rfl, ⟨_, _, rfl, ⟨v2, rfl, h2⟩, ⟨v3, rfl, h3⟩⟩⟩⟩, ⟨_, _, rfl, rfl, ⟨_, _, rfl, rfl, ⟨v6, rfl, h6⟩⟩⟩⟩ := h
 exact ⟨_, _, _, rfl, h2, h3, h6⟩
theorem tFinished_sz {a0 : Int} {a1 : Int} {x2 : List (Int × Int × Int)} {x3 : List Int} {a4 : Int} {a5 : Int} {x6 : List (Int × List Int)} : tFinished.sz ((a0, a1, x2, x3), a4, a5, x6) = zL tCond x2 + zL tInt x3 + zL tRow x6 := by
 simp only [tFinished, tPair_sz, tPair_nd, tPair_nv, tInt_sz, tInt_nd, tInt_nv, tSl_sz, tSl_nd, tSl_nv, tQuery]
 try omega
theorem tFinished_mkO {w : World} {F : Nat → Prop} {a0 : Int} {a1 : Int} {x2 : List (Int × Int × Int)} {x3 : List Int} {a4 : Int} {a5 : Int} {x6 : List (Int × List Int)} {v2 v3 v6 : Value} {F2 F3 F6 : Nat → Prop} (h2 : SlO 177 tCond w F2 v2 x2) (h3 : SlO 3 tInt w F3 v3 x3) (h6 : SlO 75 tRow w F6 v6 x6) (s2 : ∀ b, F2 b → F b) (s3 : ∀ b, F3 b → F b) (s6 : ∀ b, F6 b → F b) (d2_3 : ∀ b, F2 b → ¬ F3 b) (d2_6 : ∀ b, F2 b → ¬ F6 b) (d3_6 : ∀ b, F3 b → ¬ F6 b) : tFinished.O w F [.int .i64 a0, .int .i64 a1, v2, v3, .int .i64 a4, .int .i64 a5, v6] ((a0, a1, x2, x3), a4, a5, x6) := ⟨[.int .i64 a0, .int .i64 a1, v2, v3], [.int .i64 a4, .int .i64 a5, v6], fun b => F2 b ∨ (F3 b), F6, rfl, ⟨[.int .i64 a0], [.int .i64 a1, v2, v3], fun _ => False, fun b => F2 b ∨ (F3 b), rfl, rfl, ⟨[.int .i64 a1], [v2, v3], fun _ => False, fun b => F2 b ∨ (F3 b), rfl, rfl, ⟨[v2], [v3], F2, F3, rfl, ⟨_, rfl, h2⟩, ⟨_, rfl, h3⟩, (fun b h => (Or.inl h)), (fun b h => (Or.inr h)), (fun b h g => d2_3 b h g)⟩, (fun b h => (False.elim h)), (fun b h => (h.elim (fun q0 => (Or.inl q0)) (fun q0 => (Or.inr q0)))), (fun b h g => (False.elim h))⟩, (fun b h => (False.elim h)), (fun b h => (h.elim (fun q0 => (Or.inl q0)) (fun q0 => (Or.inr q0)))), (fun b h g => (False.elim h))⟩, ⟨[.int .i64 a4], [.int .i64 a5, v6], fun _ => False, F6, rfl, rfl, ⟨[.int .i64 a5], [v6], fun _ => False, F6, rfl, rfl, ⟨_, rfl, h6⟩, (fun b h => (False.elim h)), (fun b h => h), (fun b h g => (False.elim h))⟩, (fun b h => (False.elim h)), (fun b h => h), (fun b h g => (False.elim h))⟩, (fun b h => (h.elim (fun q0 => s2 b q0) (fun q0 => s3 b q0))), (fun b h => s6 b h), (fun b h g => (h.elim (fun q0 => d2_6 b q0 g) (fun q0 => d3_6 b q0 g)))⟩
abbrev tFinishedS : Ty (List ((Int × Int × List (Int × Int × Int) × List Int) × Int × Int × List (Int × List Int))) := tSl 59 tFinished
theorem tFinishedS_law : tFinishedS.Law := tSl_law tFinished_law (by decide)
theorem tFinished_zero (w : World) : tFinished.O w (fun _ => False) #[.int .i64 0, .int .i64 0, .slice none 0 0, .slice none 0 0, .int .i64 0, .int .i64 0, .slice none 0 0].toList tFinished.d := tFinished_mkO (slO_nil _ _ _ (fun _ => False)) (slO_nil _ _ _ (fun _ => False)) (slO_nil _ _ _ (fun _ => False)) (fun b h => h) (fun b h => h) (fun b h => h) (fun b h _ => h) (fun b h _ => h) (fun b h _ => h)
def tCharge : Ty (Int × Int × List Int × List Int × List Int) := tPair tInt (tPair tInt (tPair tIntS (tPair tIntS tIntS)))
theorem tCharge_law : tCharge.Law := tPair_law tInt_law (tPair_law tInt_law (tPair_law tIntS_law (tPair_law tIntS_law tIntS_law)))
theorem tCharge_R {w : World} {cs : List Value} {a0 : Int} {a1 : Int} {x2 : List Int} {x3 : List Int} {x4 : List Int} (h : tCharge.R w cs (a0, a1, x2, x3, x4)) : ∃ v2 v3 v4, cs = [.int .i64 a0, .int .i64 a1, v2, v3, v4] ∧ SlR tInt w v2 x2 ∧ SlR tInt w v3 x3 ∧ SlR tInt w v4 x4 := by
 obtain ⟨_, _, rfl, rfl, ⟨_, _, rfl, rfl, ⟨_, _, rfl, ⟨v2, rfl, h2⟩, ⟨_, _, rfl, ⟨v3, rfl, h3⟩, ⟨v4, rfl, h4⟩⟩⟩⟩⟩ := h
 exact ⟨_, _, _, rfl, h2, h3, h4⟩
theorem tCharge_sz {a0 : Int} {a1 : Int} {x2 : List Int} {x3 : List Int} {x4 : List Int} : tCharge.sz (a0, a1, x2, x3, x4) = zL tInt x2 + zL tInt x3 + zL tInt x4 := by
 simp only [tCharge, tPair_sz, tPair_nd, tPair_nv, tInt_sz, tInt_nd, tInt_nv, tSl_sz, tSl_nd, tSl_nv]
 try omega
theorem tCharge_mkO {w : World} {F : Nat → Prop} {a0 : Int} {a1 : Int} {x2 : List Int} {x3 : List Int} {x4 : List Int} {v2 v3 v4 : Value} {F2 F3 F4 : Nat → Prop} (h2 : SlO 3 tInt w F2 v2 x2) (h3 : SlO 3 tInt w F3 v3 x3) (h4 : SlO 3 tInt w F4 v4 x4) (s2 : ∀ b, F2 b → F b) (s3 : ∀ b, F3 b → F b) (s4 : ∀ b, F4 b → F b) (d2_3 : ∀ b, F2 b → ¬ F3 b) (d2_4 : ∀ b, F2 b → ¬ F4 b) (d3_4 : ∀ b, F3 b → ¬ F4 b) : tCharge.O w F [.int .i64 a0, .int .i64 a1, v2, v3, v4] (a0, a1, x2, x3, x4) := ⟨[.int .i64 a0], [.int .i64 a1, v2, v3, v4], fun _ => False, fun b => F2 b ∨ (F3 b ∨ (F4 b)), rfl, rfl, ⟨[.int .i64 a1], [v2, v3, v4], fun _ => False, fun b => F2 b ∨ (F3 b ∨ (F4 b)), rfl, rfl, ⟨[v2], [v3, v4], F2, fun b => F3 b ∨ (F4 b), rfl, ⟨_, rfl, h2⟩, ⟨[v3], [v4], F3, F4, rfl, ⟨_, rfl, h3⟩, ⟨_, rfl, h4⟩, (fun b h => (Or.inl h)), (fun b h => (Or.inr h)), (fun b h g => d3_4 b h g)⟩, (fun b h => (Or.inl h)), (fun b h => (h.elim (fun q0 => (Or.inr (Or.inl q0))) (fun q0 => (Or.inr (Or.inr q0))))), (fun b h g => (g.elim (fun q10 => d2_3 b h q10) (fun q10 => d2_4 b h q10)))⟩, (fun b h => (False.elim h)), (fun b h => (h.elim (fun q0 => (Or.inl q0)) (fun q0 => (q0.elim (fun q1 => (Or.inr (Or.inl q1))) (fun q1 => (Or.inr (Or.inr q1))))))), (fun b h g => (False.elim h))⟩, (fun b h => (False.elim h)), (fun b h => (h.elim (fun q0 => s2 b q0) (fun q0 => (q0.elim (fun q1 => s3 b q1) (fun q1 => s4 b q1))))), (fun b h g => (False.elim h))⟩
abbrev tChargeS : Ty (List (Int × Int × List Int × List Int × List Int)) := tSl 162 tCharge
theorem tChargeS_law : tChargeS.Law := tSl_law tCharge_law (by decide)
theorem tCharge_zero (w : World) : tCharge.O w (fun _ => False) #[.int .i64 0, .int .i64 0, .slice none 0 0, .slice none 0 0, .slice none 0 0].toList tCharge.d := tCharge_mkO (slO_nil _ _ _ (fun _ => False)) (slO_nil _ _ _ (fun _ => False)) (slO_nil _ _ _ (fun _ => False)) (fun b h => h) (fun b h => h) (fun b h => h) (fun b h _ => h) (fun b h _ => h) (fun b h _ => h)
def tEngine : Ty ((List (List (Int × List Int × Int × Int)) × Int) × Int × List Int × List ((Int × Int × List (Int × Int × Int) × List Int) × Int × List Int × Int × Int × Int × List (Int × List Int)) × List ((Int × Int × List (Int × Int × Int) × List Int) × Int × Int × List (Int × List Int)) × List (Int × Int × List Int × List Int × List Int) × Int) := tPair tStore (tPair tInt (tPair tIntES (tPair tActiveS (tPair tFinishedS (tPair tChargeS tInt)))))
theorem tEngine_law : tEngine.Law := tPair_law tStore_law (tPair_law tInt_law (tPair_law tIntES_law (tPair_law tActiveS_law (tPair_law tFinishedS_law (tPair_law tChargeS_law tInt_law)))))
theorem tEngine_R {w : World} {cs : List Value} {x0 : List (List (Int × List Int × Int × Int))} {a1 : Int} {a2 : Int} {x3 : List Int} {x4 : List ((Int × Int × List (Int × Int × Int) × List Int) × Int × List Int × Int × Int × Int × List (Int × List Int))} {x5 : List ((Int × Int × List (Int × Int × Int) × List Int) × Int × Int × List (Int × List Int))} {x6 : List (Int × Int × List Int × List Int × List Int)} {a7 : Int} (h : tEngine.R w cs ((x0, a1), a2, x3, x4, x5, x6, a7)) : ∃ v0 v3 v4 v5 v6, cs = [v0, .int .i64 a1, .int .i64 a2, v3, v4, v5, v6, .int .i64 a7] ∧ SlR tVersionS w v0 x0 ∧ SlR tInt w v3 x3 ∧ SlR tActive w v4 x4 ∧ SlR tFinished w v5 x5 ∧ SlR tCharge w v6 x6 := by
 obtain ⟨_, _, rfl, ⟨_, _, rfl, ⟨v0, rfl, h0⟩, rfl⟩, ⟨_, _, rfl, rfl, ⟨_, _, rfl, ⟨v3, rfl, h3⟩, ⟨_, _, rfl, ⟨v4, rfl, h4⟩, ⟨_, _, rfl, ⟨v5, rfl, h5⟩, ⟨_, _, rfl, ⟨v6, rfl, h6⟩, rfl⟩⟩⟩⟩⟩⟩ := h
 exact ⟨_, _, _, _, _, rfl, h0, h3, h4, h5, h6⟩
theorem tEngine_sz {x0 : List (List (Int × List Int × Int × Int))} {a1 : Int} {a2 : Int} {x3 : List Int} {x4 : List ((Int × Int × List (Int × Int × Int) × List Int) × Int × List Int × Int × Int × Int × List (Int × List Int))} {x5 : List ((Int × Int × List (Int × Int × Int) × List Int) × Int × Int × List (Int × List Int))} {x6 : List (Int × Int × List Int × List Int × List Int)} {a7 : Int} : tEngine.sz ((x0, a1), a2, x3, x4, x5, x6, a7) = zL tVersionS x0 + zL tInt x3 + zL tActive x4 + zL tFinished x5 + zL tCharge x6 := by
 simp only [tEngine, tPair_sz, tPair_nd, tPair_nv, tInt_sz, tInt_nd, tInt_nv, tSl_sz, tSl_nd, tSl_nv, tStore, tIntES_sz, tIntES_nd, tIntES_nv, tIntES_md, tIntES_mv]
 try omega
end Go.Proofs.YtnepfacnmaoieaaGreatDoor
