/-
 Texts of the proof, merged: SetDraw, RowMark, RowMarkW, AppConds.
-/
import Derived.Test.YtededfficggkaaaDoorI1
import Derived.Test.YtededfficggkaaaDoorI2
namespace Go.Proofs.YtededfficggkaaaDoor
open Go.RowKit
set_option linter.unusedVariables false
set_option linter.unusedSimpArgs false
theorem ownsN_grown {w w' : World} {B c : Nat} {v : Value} {xs : List Int} (h : OwnsN w B v xs) (hg : w.grownBy w' (some c)) (hc : c < B) : OwnsN w' B v xs := by
 refine h.kept hg ?_
 cases hv : v.ownBlock with
 | none => exact Or.inl rfl
 | some k => exact Or.inr (by intro e; have := (h.lt k hv).1; simp at e; omega)
/-- A choice is drawn. -/
def DrawnBool (w0 : World) (c : Nat) (v : Value) (xs : List Int) (w : World) (e : Ending) (w' : World) : Prop :=
 (∃ b : Bool, e = .returned (.bool b)) ∧ Cur w0 c v xs w' ∧ w.grownBy w' (some c)
set_option maxRecDepth 100000 in
theorem once_any (w0 : World) (c : Nat) (v : Value) (xs : List Int) (w : World) (hC : Cur w0 c v xs w) (n : Int) (h1 : 1 ≤ n) (h2 : n ≤ 256) :
  Calls Tryd.prog 105 #[.pointer (some ⟨c, 0, none⟩), .int .i64 n] w (DrawnBool w0 c v xs w) := by
 go_enter Tryd.func105, Tryd.ntmps105
 go_wp2_with fail
 refine (below_any w0 c v xs _ hC n h1 (by omega)).mono ?_
 rintro e w1 ⟨x, x0, x1, rfl, hC1, hg1⟩
 go_wp2
 go_ret
 exact ⟨⟨_, rfl⟩, hC1, hg1⟩
/-- Two lists are drawn. -/
def Two (w : World) (e : Ending) (w' : World) : Prop :=
 ∃ (u t : Value) (a b : List Int), a.length ≤ 7 ∧ b.length ≤ 7 ∧ e = .returned (.tuple #[u, t]) ∧ OwnsN w' w.heap.size u a ∧ OwnsN w' w.heap.size t b ∧ Below w.heap.size w w'
/-- Only blocks from B up to hi have turned. -/
structure Only (B hi : Nat) (w w' : World) : Prop where
 os : w'.os = w.os
 tape : w'.tape = w.tape
 output : w'.output = w.output
 size : w.heap.size ≤ w'.heap.size
 block : ∀ k, k < w.heap.size → (k < B ∨ hi ≤ k) → w'.heap[k]? = w.heap[k]?
theorem Only.refl (B hi : Nat) (w : World) : Only B hi w w := ⟨rfl, rfl, rfl, Nat.le_refl _, fun _ _ _ => rfl⟩
theorem Only.trans {B hi : Nat} {a b c : World} (h : Only B hi a b) (k : Only B hi b c) : Only B hi a c :=
 ⟨k.os.trans h.os, k.tape.trans h.tape, k.output.trans h.output, Nat.le_trans h.size k.size, fun i hi' hn => (k.block i (Nat.lt_of_lt_of_le hi' h.size) hn).trans (h.block i hi' hn)⟩
theorem ownsC_cap {w : World} {B : Nat} {v : Value} {cs : List CondD} (h : OwnsC w B v cs) : ∃ a cap, v = .slice a cs.length cap ∧ cs.length ≤ cap := by
 rcases h.2 with ⟨rfl, h0⟩ | ⟨g, cap, cur, rfl, hb, hg, hn, _⟩
 ·
  exact ⟨none, 0, by rw [h0], by rw [h0]; exact Nat.le_refl _⟩
 ·
  exact ⟨_, cap, rfl, hn⟩
theorem run_append_conds {w : World} {B : Nat} {v u : Value} {cs ds : List CondD} (ty : TypeId) (hown : OwnsC w B v cs) (hu : CondsR w u ds) (hB : B ≤ w.heap.size) (h63 : cs.length + ds.length ≤ 17592186044) :
  ∃ v' w', (Builtin.append_ #[61, 61] ty #[v, u]).run Tryd.prog w = .ok v' w' ∧ OwnsC w' B v' (cs ++ ds) ∧ Below B w w' := by
 obtain ⟨i0, hi, hz0, hz1, hz2⟩ := info_parts Tryd.infoCond
 rcases hu with ⟨rfl, a', cap', rfl⟩ | ⟨b, off, cap', rfl, hcap, hbl, hc⟩
 ·
  obtain ⟨a, cap, rfl, hle⟩ := ownsC_cap hown
  have hs : Src Tryd.prog i0.size 61 (.slice a' 0 cap') 0 [] w := by
   cases a' with
   | none => exact Src.ofNil w Tryd.underlying61 cap'
   | some ad => exact Src.ofSlice w Tryd.underlying61 ad 0 cap' [] (by simp) (by simp) (by simp)
  exact ⟨_, _, run_append_nothing w 61 61 ty 124 i0 Tryd.underlying61 hi a cs.length cap hle _ hs, by simpa using hown, Below.refl B w⟩
 ·
  obtain ⟨v', w', hr, h2, h3, h4⟩ := run_append_own (P := Tryd.prog) w B 61 ty 124 i0 (.agg #[.int .i64 0, .int .i64 0, .int .i64 0]) 3 24 Tryd.underlying61 hi hz0 hz1 hz2 rfl (by decide) v cs.length _ hown ⟨b, off, none⟩ ds.length cap' (flatC ds) (by rw [flatC_len]) (by
    intro j q hj
    rw [Go.WideShapes.add_plain]
    by_cases hlt : j < ds.length * 3
    ·
     have hk : j / 3 < ds.length := by omega
     obtain ⟨g1, g2, g3⟩ := hc (j / 3) hk
     obtain ⟨f1, f2, f3⟩ := flatC_at ds (j / 3) hk
     have : j = j / 3 * 3 ∨ j = j / 3 * 3 + 1 ∨ j = j / 3 * 3 + 2 := by omega
     rcases this with e | e | e
     ·
      rw [e] at hj ⊢; rw [f1] at hj; rw [← hj]; exact g1
     ·
      rw [e] at hj ⊢; rw [f2] at hj; rw [← hj, ← Nat.add_assoc]; exact g2
     ·
      rw [e] at hj ⊢; rw [f3] at hj; rw [← hj, ← Nat.add_assoc]; exact g3
    ·
     rw [List.getElem?_eq_none (by rw [flatC_len]; omega)] at hj
     simp at hj) (flatC_one ds) (by unfold maxLen; omega) (by omega) hB
  refine ⟨v', w', hr, ?_, ?_⟩
  ·
   unfold OwnsC
   rw [flatC_app, List.length_append]
   exact h2
  ·
   exact (Below.refl B w).grown h3 hB (fun k hk => (hown.lt k hk).1)
theorem conds_one {w : World} {h : Nat} {f lo hi : Int} (hc : w.cell? ⟨h, 0, none⟩ = some (.int .i64 f) ∧ w.cell? ⟨h, 1, none⟩ = some (.int .i64 lo) ∧ w.cell? ⟨h, 2, none⟩ = some (.int .i64 hi)) (hl : h < w.heap.size) : CondsR w (.slice (some ⟨h, 0, none⟩) 1 1) [(f, lo, hi)] :=
 Or.inr ⟨h, 0, 1, rfl, by simp, hl, fun j hj => by
  have : j = 0 := by simp at hj; omega
  subst this
  simpa using hc⟩
theorem wpl_append_conds {w : World} {ops : Array Oper} {rest : List Oper} {o : Oper} {a : Act} {Q : Exit → Act → World → Prop} (hgd : o.guard = none) (s x : Operand)
  (ho : o.op = .call { callee := .builtin .append, args := #[s, x], argTypes := #[61, 61] })
  (B : Nat) (v u : Value) (cs ds : List CondD) (hs : a.eval s = v) (hx : a.eval x = u) (hown : OwnsC w B v cs) (hu : CondsR w u ds) (hB : B ≤ w.heap.size) (h63 : cs.length + ds.length ≤ 17592186044)
  (h : ∀ v' w', OwnsC w' B v' (cs ++ ds) → Below B w w' → wpList Tryd.prog ops Q rest (a.put o.dst v') w') : wpList Tryd.prog ops Q (o :: rest) a w := by
 refine wpList_plain hgd fun K hK => ?_
 obtain ⟨v', w', hr, h2, h3⟩ := run_append_conds o.type hown hu hB h63
 unfold Oper.wp
 simp [execOp, ho, resolve, invoke, builtin, hs, hx, hr, Result.andThen]
 exact hK _ _ (h v' w' h2 h3)
end Go.Proofs.YtededfficggkaaaDoor
