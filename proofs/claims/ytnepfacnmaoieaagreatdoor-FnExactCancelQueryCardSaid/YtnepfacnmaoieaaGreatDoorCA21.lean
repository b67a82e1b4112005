/-
 Texts of the proof, merged: CanFit, OrdLaid.
-/
import Derived.Test.YtnepfacnmaoieaaGreatDoorCA10
import Derived.Test.YtnepfacnmaoieaaGreatDoorCA14
import Derived.Test.YtnepfacnmaoieaaGreatDoorCA18
import Derived.Test.YtnepfacnmaoieaaGreatDoorCA19
import Derived.Test.YtnepfacnmaoieaaGreatDoorCA20
import Derived.Lib.LaidTab
import Derived.LaidMore
namespace Go.Proofs.YtnepfacnmaoieaaGreatDoor
open Go.RowKit
open List renaming getElem?_eq_getElem → Ih
set_option linter.unusedVariables false
set_option linter.unusedSimpArgs false
theorem le_e0D : Ev e0D := leEngine_of (by decide)
/-- The answer, where the arguments are within the law's bound. -/
def fitC (e : EngD) (id : Int) : EngD := if Kf.sz e ≤ 1048576 then (Ut e id).1 else e0D
theorem fitC_yes {e : EngD} {id : Int} (h : Kf.sz e ≤ 1048576) : fitC e id = (Ut e id).1 := if_pos h
theorem fitC_size (e : EngD) (id : Int) : Ev (fitC e id) := by
 unfold fitC
 split
 ·
  rename_i hz
  have hl := leEngine_of hz
  unfold Ut
  split
  ·
   obtain ⟨⟨ss, now⟩, cu, os, qs, ds, ls, st⟩ := e
   rw [tEngine_sz] at hz
   obtain ⟨l0, l3, l4, l5, l6⟩ := hl
   refine ⟨leStore_of (rec_small (show zL Jd ss ≤ 1048576 by omega)), l3, Nat.le_trans (zL_erase _ _ _) l4, l5, l6⟩
  ·
   exact hl
 ·
  exact le_e0D
theorem fitSpecCan (e : EngD) (n : Int) (c : List Value) (w : World) (h : Kf.R w c e) (hz : Kf.sz e ≤ 1048576) :
  Calls Tryz.prog 35 #[.agg c.toArray, .int .i64 n] w (fun e' w' => ∃ (g0 : List Value) (G0 : Nat → Prop), e' = .returned (.tuple #[.agg g0.toArray, .bool (Ut e n).2]) ∧ Kf.O w' G0 g0 (fitC e n) ∧ (∀ b, G0 b → w.heap.size ≤ b) ∧ Below w w w') := by
 rw [fitC_yes hz]
 obtain ⟨⟨ss, now⟩, cu, os, qs, ds, ls, st⟩ := e
 obtain ⟨v0, v3, v4, v5, v6, rfl, h0, h3, h4, h5, h6⟩ := tEngine_R h
 rw [tEngine_sz] at hz
 exact specCancelQuery now cu st v0 v3 v4 v5 v6 ss os qs ds ls n w h0 h3 h4 h5 h6 hz
theorem fitImplCan (e : EngD) (n : Int) (c : List Value) (w : World) (hT : OrdT w) (h : Kf.R w c e) (hz : Kf.sz e ≤ 1048576) :
  Calls Tryz.prog 36 #[.agg c.toArray, .int .i64 n] w (fun e' w' => ∃ (g0 : List Value) (G0 : Nat → Prop), e' = .returned (.tuple #[.agg g0.toArray, .bool (Ut e n).2]) ∧ Kf.O w' G0 g0 (fitC e n) ∧ (∀ b, G0 b → w.heap.size ≤ b) ∧ Below w w w') := by
 rw [fitC_yes hz]
 obtain ⟨⟨ss, now⟩, cu, os, qs, ds, ls, st⟩ := e
 obtain ⟨v0, v3, v4, v5, v6, rfl, h0, h3, h4, h5, h6⟩ := tEngine_R h
 rw [tEngine_sz] at hz
 exact implCancelQuery now cu st v0 v3 v4 v5 v6 ss os qs ds ls n w hT h0 h3 h4 h5 h6 hz
theorem gOrd : Tryz.prog.globalNamed "loop.example/g01986/impl.probeOrders" = some 2 := by kernel_rfl
theorem tOrd : (Tryz.prog.globals[2]?).map (·.type) = some 233 := by kernel_rfl
theorem cOrd6 : Tryz.prog.cellsOf 233 = 18 := by kernel_rfl
theorem cOrd : Tryz.prog.cellsOf 168 = 3 := by kernel_rfl
theorem cOrdI : Tryz.prog.cellsOf 3 = 1 := by kernel_rfl
def ordD : DataW Unit := .agg (Et.map fun o => Lib.tabData .i64 o)
theorem cells_of_orders {w : World} {enc : TypeId × Value → Unit} {base : Nat} {sp : Nat → Bool} {held : Bool} {fuel : Nat} {cs : List Value} {p : List MemPlace}
  (h : DataW.trod enc Tryz.prog w base sp held fuel 233 cs = some (ordD, p)) : ∀ i, i < 18 → cs[i]? = some (.int .i64 (ordC.getD i 0)) := by
 cases fuel with
 | zero => simp [DataW.trod] at h
 | succ fuel =>
  simp only [DataW.trod, Tryz.underlying233, cOrd, cOrd6] at h
  split at h
  ·
   rename_i hl
   obtain ⟨xs, hm, hx⟩ := Option.map_eq_some_iff.1 h
   have hxs : xs.map (·.1) = Et.map fun o => (Lib.tabData .i64 o : DataW Unit) := by
    have := congrArg Prod.fst hx
    simpa [ordD] using this
   have one : ∀ k, k < 6 → ((cs.drop (k * 3)).take 3) = (Et.getD k []).map fun z => Value.int .i64 z := by
    intro k hk
    obtain ⟨b, hb, hf⟩ := Lib.mapM_at hm k k (by simp [hk])
    have h2 : (xs.map (·.1))[k]? = some b.1 := by simp [hb]
    rw [hxs] at h2
    have hk' : k < Et.length := by show k < 6; exact hk
    rw [List.getElem?_map, Ih hk'] at h2
    simp only [Option.map_some, Option.some.injEq] at h2
    obtain ⟨b1, b2⟩ := b
    simp only at h2
    have e : Et.getD k [] = Et[k] := by simp [List.getD, hk']
    rw [e]
    exact Lib.cells_of_tab Tryz.underlying168 Tryz.underlying3 cOrdI cOrd (by rw [h2]; exact hf)
   intro i hi
   have h3 := one (i / 3) (by omega)
   have h4 := congrArg (·[i % 3]?) h3
   have h5 : i % 3 < 3 := Nat.mod_lt _ (by omega)
   simp only [List.getElem?_take, List.getElem?_drop, if_pos h5] at h4
   rw [show i / 3 * 3 + i % 3 = i by omega] at h4
   rw [h4]
   rcases (show i = 0 ∨ i = 1 ∨ i = 2 ∨ i = 3 ∨ i = 4 ∨ i = 5 ∨ i = 6 ∨ i = 7 ∨ i = 8 ∨ i = 9 ∨ i = 10 ∨ i = 11 ∨ i = 12 ∨ i = 13 ∨ i = 14 ∨ i = 15 ∨ i = 16 ∨ i = 17 by omega) with rfl | rfl | rfl | rfl | rfl | rfl | rfl | rfl | rfl | rfl | rfl | rfl | rfl | rfl | rfl | rfl | rfl | rfl <;> rfl
  ·
   cases h
theorem ordT_of_head {W : World} {rest : List (String × DataW Unit)} (h : laidMet Tryz.prog (("loop.example/g01986/impl.probeOrders", ordD) :: rest) W) : OrdT W := by
 obtain ⟨ps, ⟨g', t', cs, fuel, p, q, hg', ht', hvar, hd, _, _⟩, _⟩ := h
 obtain rfl := Option.some.inj (gOrd.symm.trans hg')
 obtain rfl := Option.some.inj (tOrd.symm.trans ht')
 intro i hi
 have h1 := cells_of_orders hd i hi
 have h2 := World.var?_cell gOrd hvar i
 rw [h2]
 simpa using h1
theorem var_below {P : Program} {W W' : World} {n : String} {g : Nat} {cs : Array Value} (hg : P.globalNamed n = some g) (h : W.var? P n = some cs) (hb : Below W W W') : W'.var? P n = some cs := by
 simp only [World.var?, hg, Option.bind_some] at h ⊢
 cases hc : W.heap[g]? with
 | none => rw [hc] at h; simp at h
 | some o => rw [hb.block g (Array.getElem?_eq_some_iff.1 hc).1]; exact h
end Go.Proofs.YtnepfacnmaoieaaGreatDoor
