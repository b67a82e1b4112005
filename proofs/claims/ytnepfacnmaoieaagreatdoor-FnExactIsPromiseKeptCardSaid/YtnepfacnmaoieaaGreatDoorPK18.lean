/-
 Texts of the proof, merged: AdmFit, OrdLaid.
-/
import Derived.Test.YtnepfacnmaoieaaGreatDoorPK8
import Derived.Test.YtnepfacnmaoieaaGreatDoorPK14
import Derived.Test.YtnepfacnmaoieaaGreatDoorPK15
import Derived.Test.YtnepfacnmaoieaaGreatDoorPK17
import Derived.Lib.LaidTab
import Derived.LaidMore
namespace Go.Proofs.YtnepfacnmaoieaaGreatDoor
open Go.RowKit
set_option linter.unusedVariables false
set_option linter.unusedSimpArgs false
theorem fitSpecPrm (e : EngD) (n : Int) (c : List Value) (w : World) (h : tEngine.R w c e) (hz : tEngine.sz e ≤ 1048576) :
  Calls Tryz.prog 14 #[.agg c.toArray, .int .i64 n] w (fun e' w' => e' = .returned (.int .i64 (promE e n)) ∧ Below w.heap.size w w') := by
 obtain ⟨⟨ss, now⟩, cu, os, qs, ds, ls, st⟩ := e
 obtain ⟨v0, v3, v4, v5, v6, rfl, h0, h3, h4, h5, h6⟩ := tEngine_R h
 rw [tEngine_sz] at hz
 exact specPromisedSteps now cu st v0 v3 v4 v5 v6 ss os qs ds ls n w h0 h3 h4 h5 h6 hz
theorem fitImplPrm (e : EngD) (n : Int) (c : List Value) (w : World) (hT : OrdT w) (h : tEngine.R w c e) (hz : tEngine.sz e ≤ 1048576) :
  Calls Tryz.prog 16 #[.agg c.toArray, .int .i64 n] w (fun e' w' => e' = .returned (.int .i64 (promE e n)) ∧ Below w.heap.size w w') := by
 obtain ⟨⟨ss, now⟩, cu, os, qs, ds, ls, st⟩ := e
 obtain ⟨v0, v3, v4, v5, v6, rfl, h0, h3, h4, h5, h6⟩ := tEngine_R h
 rw [tEngine_sz] at hz
 exact implPromisedSteps now cu st v0 v3 v4 v5 v6 ss os qs ds ls n w hT h0 h3 h4 h5 h6 hz
theorem fitSpecKpt (e : EngD) (c : List Value) (w : World) (h : tEngine.R w c e) (hz : tEngine.sz e ≤ 1048576) :
  Calls Tryz.prog 18 #[.agg c.toArray] w (fun e' w' => e' = .returned (.bool (keptB e)) ∧ Below w.heap.size w w') := by
 obtain ⟨⟨ss, now⟩, cu, os, qs, ds, ls, st⟩ := e
 obtain ⟨v0, v3, v4, v5, v6, rfl, h0, h3, h4, h5, h6⟩ := tEngine_R h
 rw [tEngine_sz] at hz
 exact specIsPromiseKept now cu st v0 v3 v4 v5 v6 ss os qs ds ls w h0 h3 h4 h5 h6 hz
theorem fitImplKpt (e : EngD) (c : List Value) (w : World) (hT : OrdT w) (h : tEngine.R w c e) (hz : tEngine.sz e ≤ 1048576) :
  Calls Tryz.prog 19 #[.agg c.toArray] w (fun e' w' => e' = .returned (.bool (keptB e)) ∧ Below w.heap.size w w') := by
 obtain ⟨⟨ss, now⟩, cu, os, qs, ds, ls, st⟩ := e
 obtain ⟨v0, v3, v4, v5, v6, rfl, h0, h3, h4, h5, h6⟩ := tEngine_R h
 rw [tEngine_sz] at hz
 exact implIsPromiseKept now cu st v0 v3 v4 v5 v6 ss os qs ds ls w hT h0 h3 h4 h5 h6 hz
theorem gOrd : Tryz.prog.globalNamed "loop.example/g01986/impl.probeOrders" = some 2 := by kernel_rfl
theorem tOrd : (Tryz.prog.globals[2]?).map (·.type) = some 233 := by kernel_rfl
theorem cOrd6 : Tryz.prog.cellsOf 233 = 18 := by kernel_rfl
theorem cOrd : Tryz.prog.cellsOf 168 = 3 := by kernel_rfl
theorem cOrdI : Tryz.prog.cellsOf 3 = 1 := by kernel_rfl
def ordD : DataW Unit := .agg (ordersL.map fun o => Lib.tabData .i64 o)
theorem cells_of_orders {w : World} {enc : TypeId × Value → Unit} {base : Nat} {sp : Nat → Bool} {held : Bool} {fuel : Nat} {cs : List Value} {p : List MemPlace}
  (h : DataW.trod enc Tryz.prog w base sp held fuel 233 cs = some (ordD, p)) : ∀ i, i < 18 → cs[i]? = some (.int .i64 (ordC.getD i 0)) := by
 cases fuel with
 | zero => simp [DataW.trod] at h
 | succ fuel =>
  simp only [DataW.trod, Tryz.underlying233, cOrd, cOrd6] at h
  split at h
  ·
   rename_i hl
   obtain ⟨xs, hm, hx⟩ := Option.map_eq_some_iff.1 h
   have hxs : xs.map (·.1) = ordersL.map fun o => (Lib.tabData .i64 o : DataW Unit) := by
    have := congrArg Prod.fst hx
    simpa [ordD] using this
   have one : ∀ k, k < 6 → ((cs.drop (k * 3)).take 3) = (ordersL.getD k []).map fun z => Value.int .i64 z := by
    intro k hk
    obtain ⟨b, hb, hf⟩ := Lib.mapM_at hm k k (by simp [hk])
    have h2 : (xs.map (·.1))[k]? = some b.1 := by simp [hb]
    rw [hxs] at h2
    have hk' : k < ordersL.length := by show k < 6; exact hk
    rw [List.getElem?_map, List.getElem?_eq_getElem hk'] at h2
    simp only [Option.map_some, Option.some.injEq] at h2
    obtain ⟨b1, b2⟩ := b
    simp only at h2
    have e : ordersL.getD k [] = ordersL[k] := by simp [List.getD, hk']
    rw [e]
    exact Lib.cells_of_tab Tryz.underlying168 Tryz.underlying3 cOrdI cOrd (by rw [h2]; exact hf)
   intro i hi
   have h3 := one (i / 3) (by omega)
   have h4 := congrArg (·[i % 3]?) h3
   have h5 : i % 3 < 3 := Nat.mod_lt _ (by omega)
   simp only [List.getElem?_take, List.getElem?_drop, if_pos h5] at h4
   rw [show i / 3 * 3 + i % 3 = i by omega] at h4
   rw [h4]
   rcases (show i = 0 ∨ i = 1 ∨ i = 2 ∨ i = 3 ∨ i = 4 ∨ i = 5 ∨ i = 6 ∨ i = 7 ∨ i = 8 ∨ i = 9 ∨ i = 10 ∨ i = 11 ∨ i = 12 ∨ i = 13 ∨ i = 14 ∨ i = 15 ∨ i = 16 ∨ i = 17 by omega) with rfl | rfl | rfl | rfl | rfl | rfl | rfl | rfl | rfl | rfl | rfl | rfl | rfl | rfl | rfl | rfl | rfl | rfl <;> rfl
  ·
   cases h
theorem ordT_of_head {W : World} {rest : List (String × DataW Unit)} (h : laidMet Tryz.prog (("loop.example/g01986/impl.probeOrders", ordD) :: rest) W) : OrdT W := by
 obtain ⟨ps, ⟨g', t', cs, fuel, p, q, hg', ht', hvar, hd, _, _⟩, _⟩ := h
 obtain rfl := Option.some.inj (gOrd.symm.trans hg')
 obtain rfl := Option.some.inj (tOrd.symm.trans ht')
 intro i hi
 have h1 := cells_of_orders hd i hi
 have h2 := World.var?_cell gOrd hvar i
 rw [h2]
 simpa using h1
theorem var_below {P : Program} {W W' : World} {n : String} {g : Nat} {cs : Array Value} (hg : P.globalNamed n = some g) (h : W.var? P n = some cs) (hb : Below W.heap.size W W') : W'.var? P n = some cs := by
 simp only [World.var?, hg, Option.bind_some] at h ⊢
 cases hc : W.heap[g]? with
 | none => rw [hc] at h; simp at h
 | some o => rw [hb.block g (Array.getElem?_eq_some_iff.1 hc).1]; exact h
end Go.Proofs.YtnepfacnmaoieaaGreatDoor
