/-
 Texts of the proof, merged: EngFit2, OrdLaid.
-/
import Derived.Test.YtcolddalajoheaaGreatDoorSO12
import Derived.Test.YtcolddalajoheaaGreatDoorSO15
import Derived.Test.YtcolddalajoheaaGreatDoorSO16
import Derived.Lib.LaidTab
import Derived.LaidMore
namespace Go.Proofs.YtcolddalajoheaaGreatDoor
open Go.RowKit
open List renaming getElem?_eq_getElem → Ec
set_option linter.unusedVariables false
set_option linter.unusedSimpArgs false
def zE (e : EngD) : Nat := zL Je e.1.1 + zL Jf e.2.2.1 + zL Jm e.2.2.2.1 + zL Jk e.2.2.2.2.1 + zL Jp e.2.2.2.2.2.1
def fitE (e r : EngD) : EngD := if zE e ≤ 1048576 then r else e0D
theorem fitE_yes {e r : EngD} (h : zE e ≤ 1048576) : fitE e r = r := if_pos h
theorem sz_zE (e : EngD) : Yj.sz e = zE e := by
 obtain ⟨⟨ss, now⟩, cu, os, qs, ds, ls, st⟩ := e
 exact tEngine_sz
theorem sz_e0 : Yj.sz e0D ≤ 1048576 := by rw [sz_zE]; decide
theorem orderB_len3 {ks : List Int} (h : Vd ks = true) : ks.length = 3 := by
 unfold Vd at h
 simp only [Bool.and_eq_true, decide_eq_true_eq] at h
 exact h.1
theorem ord_size (e : EngD) (ks : List Int) : Yj.sz (fitE e (Yf e ks).1) ≤ 1048576 := by
 by_cases h : zE e ≤ 1048576
 ·
  rw [fitE_yes h, sz_zE]
  unfold Yf
  by_cases g : Uj e = true ∧ Vd ks = true
  ·
   rw [if_pos g]
   have l1 := orderB_len3 g.2
   have l2 := orderB_len3 (eng_iff g.1).2.2.1
   unfold zE at h ⊢
   rw [zL_ints] at h ⊢
   dsimp only at h ⊢
   omega
  ·
   rw [if_neg g]; exact h
 ·
  unfold fitE; rw [if_neg h]; exact sz_e0
theorem fitSpecOrder (a1 a2 a7 : Int) (x0 : List (List Kw)) (x3 : List Int) (x4 : List Us) (x5 : List FinD) (x6 : List Vz) (ks : List Int) : ∀ (v0 v3 v4 v5 v6 kv : Value) (w : World), Kc Je w v0 x0 → Kc Jf w v3 x3 → Kc Jm w v4 x4 → Kc Jk w v5 x5 → Kc Jp w v6 x6 → Kc Jf w kv ks → zL Je x0 + zL Jf x3 + zL Jm x4 + zL Jk x5 + zL Jp x6 ≤ 1048576 → ks.length ≤ 1048576 →
  Calls Tryz.prog 26 #[.agg #[v0, a1, a2, v3, v4, v5, v6, a7], kv] w (FreshEB w (fitE ((x0, a1), a2, x3, x4, x5, x6, a7) (Yf ((x0, a1), a2, x3, x4, x5, x6, a7) ks).1, (Yf ((x0, a1), a2, x3, x4, x5, x6, a7) ks).2)) := by
 intro v0 v3 v4 v5 v6 kv w h0 h3 h4 h5 h6 hk hz nk
 rw [fitE_yes (show zE ((x0, a1), a2, x3, x4, x5, x6, a7) ≤ 1048576 from hz)]
 exact specSetOrder a1 a2 a7 v0 v3 v4 v5 v6 x0 x3 x4 x5 x6 kv ks w h0 h3 h4 h5 h6 hz hk nk
theorem fitImplOrder (a1 a2 a7 : Int) (x0 : List (List Kw)) (x3 : List Int) (x4 : List Us) (x5 : List FinD) (x6 : List Vz) (ks : List Int) : ∀ (v0 v3 v4 v5 v6 kv : Value) (w : World), OrdT w → Kc Je w v0 x0 → Kc Jf w v3 x3 → Kc Jm w v4 x4 → Kc Jk w v5 x5 → Kc Jp w v6 x6 → Kc Jf w kv ks → zL Je x0 + zL Jf x3 + zL Jm x4 + zL Jk x5 + zL Jp x6 ≤ 1048576 → ks.length ≤ 1048576 →
  Calls Tryz.prog 28 #[.agg #[v0, a1, a2, v3, v4, v5, v6, a7], kv] w (FreshEB w (fitE ((x0, a1), a2, x3, x4, x5, x6, a7) (Yf ((x0, a1), a2, x3, x4, x5, x6, a7) ks).1, (Yf ((x0, a1), a2, x3, x4, x5, x6, a7) ks).2)) := by
 intro v0 v3 v4 v5 v6 kv w hT h0 h3 h4 h5 h6 hk hz nk
 rw [fitE_yes (show zE ((x0, a1), a2, x3, x4, x5, x6, a7) ≤ 1048576 from hz)]
 exact implSetOrder a1 a2 a7 v0 v3 v4 v5 v6 x0 x3 x4 x5 x6 kv ks w hT h0 h3 h4 h5 h6 hz hk nk
theorem gOrd : Tryz.prog.globalNamed "loop.example/g01986/impl.probeOrders" = some 0 := by kernel_rfl
theorem tOrd : (Tryz.prog.globals[0]?).map (·.type) = some 183 := by kernel_rfl
theorem cOrd6 : Tryz.prog.cellsOf 183 = 18 := by kernel_rfl
theorem cOrd : Tryz.prog.cellsOf 119 = 3 := by kernel_rfl
theorem cOrdI : Tryz.prog.cellsOf 3 = 1 := by kernel_rfl
def ordD : DataW Unit := .agg (Uo.map fun o => Lib.tabData .i64 o)
theorem cells_of_orders {w : World} {enc : TypeId × Value → Unit} {base : Nat} {sp : Nat → Bool} {held : Bool} {fuel : Nat} {cs : List Value} {p : List MemPlace}
  (h : DataW.trod enc Tryz.prog w base sp held fuel 183 cs = some (ordD, p)) : ∀ i, i < 18 → cs[i]? = some (.int .i64 (ordC.getD i 0)) := by
 cases fuel with
 | zero => simp [DataW.trod] at h
 | succ fuel =>
  simp only [DataW.trod, Tryz.underlying183, cOrd, cOrd6] at h
  split at h
  ·
   rename_i hl
   obtain ⟨xs, hm, hx⟩ := Option.map_eq_some_iff.1 h
   have hxs : xs.map (·.1) = Uo.map fun o => (Lib.tabData .i64 o : DataW Unit) := by
    have := congrArg Prod.fst hx
    simpa [ordD] using this
   have one : ∀ k, k < 6 → ((cs.drop (k * 3)).take 3) = (Uo.getD k []).map fun z => Value.int .i64 z := by
    intro k hk
    obtain ⟨b, hb, hf⟩ := Lib.mapM_at hm k k (by simp [hk])
    have h2 : (xs.map (·.1))[k]? = some b.1 := by simp [hb]
    rw [hxs] at h2
    have hk' : k < Uo.length := by show k < 6; exact hk
    rw [List.getElem?_map, Ec hk'] at h2
    simp only [Option.map_some, Option.some.injEq] at h2
    obtain ⟨b1, b2⟩ := b
    simp only at h2
    have e : Uo.getD k [] = Uo[k] := by simp [List.getD, hk']
    rw [e]
    exact Lib.cells_of_tab Tryz.underlying119 Tryz.underlying3 cOrdI cOrd (by rw [h2]; exact hf)
   intro i hi
   have h3 := one (i / 3) (by omega)
   have h4 := congrArg (·[i % 3]?) h3
   have h5 : i % 3 < 3 := Nat.mod_lt _ (by omega)
   simp only [List.getElem?_take, List.getElem?_drop, if_pos h5] at h4
   rw [show i / 3 * 3 + i % 3 = i by omega] at h4
   rw [h4]
   rcases (show i = 0 ∨ i = 1 ∨ i = 2 ∨ i = 3 ∨ i = 4 ∨ i = 5 ∨ i = 6 ∨ i = 7 ∨ i = 8 ∨ i = 9 ∨ i = 10 ∨ i = 11 ∨ i = 12 ∨ i = 13 ∨ i = 14 ∨ i = 15 ∨ i = 16 ∨ i = 17 by omega) with rfl | rfl | rfl | rfl | rfl | rfl | rfl | rfl | rfl | rfl | rfl | rfl | rfl | rfl | rfl | rfl | rfl | rfl <;> rfl
  ·
   cases h
theorem ordT_of_head {W : World} {rest : List (String × DataW Unit)} (h : laidMet Tryz.prog (("loop.example/g01986/impl.probeOrders", ordD) :: rest) W) : OrdT W := by
 obtain ⟨ps, ⟨g', t', cs, fuel, p, q, hg', ht', hvar, hd, _, _⟩, _⟩ := h
 obtain rfl := Option.some.inj (gOrd.symm.trans hg')
 obtain rfl := Option.some.inj (tOrd.symm.trans ht')
 intro i hi
 have h1 := cells_of_orders hd i hi
 have h2 := World.var?_cell gOrd hvar i
 rw [h2]
 simpa using h1
theorem var_below {P : Program} {W W' : World} {n : String} {g : Nat} {cs : Array Value} (hg : P.globalNamed n = some g) (h : W.var? P n = some cs) (hb : Below W W W') : W'.var? P n = some cs := by
 simp only [World.var?, hg, Option.bind_some] at h ⊢
 cases hc : W.heap[g]? with
 | none => rw [hc] at h; simp at h
 | some o => rw [hb.block g (Array.getElem?_eq_some_iff.1 hc).1]; exact h
end Go.Proofs.YtcolddalajoheaaGreatDoor
