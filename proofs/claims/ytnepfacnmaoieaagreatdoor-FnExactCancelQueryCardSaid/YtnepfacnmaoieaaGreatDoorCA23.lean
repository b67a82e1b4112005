/-
 Texts of the proof, merged: OpenInts, OpnT, OVersion, OVersionS, OVersionSS, OStore, OCond, OCondS, OQuery, ORow, ORowS, OActive, OActiveS, OFinished, OFinishedS, OCharge, OChargeS, OEngine.
-/
import Derived.Test.YtnepfacnmaoieaaGreatDoorCA1
import Derived.Test.YtnepfacnmaoieaaGreatDoorCA4
import Derived.ProofKit
import Derived.OpenShut
import Derived.Carry
import Derived.Lib.SmallJoins
import Derived.Deep.Slices
namespace Go.Proofs.YtnepfacnmaoieaaGreatDoor
open Go.ChangeShapes Go.WideShapes Go.ChangeAt Go.WideMaps Go.WideElems Go.RowKit
set_option maxRecDepth 100000
set_option maxRecDepth 100000
set_option linter.unusedVariables false
theorem laidOutP : laidOutB Tryz.prog = true := by kernel_rfl
end Go.Proofs.YtnepfacnmaoieaaGreatDoor
namespace Go.Proofs.YtnepfacnmaoieaaGreatDoor
open List renaming getElem?_eq_getElem → Ih
open Go.ChangeShapes Go.WideShapes Go.ChangeAt Go.WideMaps Go.WideElems Go.RowKit
set_option maxRecDepth 100000
set_option linter.unusedVariables false
/-- Cells that the statement reads as a value of the type t are a datum of the kind T. -/
def Opn {α : Type} (T : Ty α) (t : TypeId) : Prop := ∀ {H : Type} {enc : TypeId × Value → H} {W : World} {held : Bool} {fuel : Nat} {cs : List Value} {x : DataW H × List MemPlace}, DataW.trod enc Tryz.prog W 0 (fun _ => true) held fuel t cs = some x → ∃ d, T.R W cs d ∧ T.ok d
theorem Yu : Opn Je 3 := by
 intro H enc W held fuel cs x h
 obtain ⟨a, e, _, _⟩ := DataW.trod_int Tryz.underlying3 h
 exact ⟨a, e, trivial⟩
theorem Kr {α : Type} {T : Ty α} {t : TypeId} (O : Opn T t) {H : Type} {enc : TypeId × Value → H} {W : World} {held : Bool} {fuel : Nat} {cs : List Value} {o k : Nat} {x : Option (DataW H × List MemPlace)} (hx : x.isSome) (h : DataW.trod enc Tryz.prog W 0 (fun _ => true) held fuel t ((cs.drop o).take k) = x) :
  ∃ d, T.R W ((cs.drop o).take k) d ∧ T.ok d := by
 cases x with
 | none => cases hx
 | some y => exact O h
theorem Em {α : Type} {T : Ty α} (A : T.Law) {e t : TypeId} (e' : TypeId) (O : Opn T e) (hu : Tryz.prog.underlying t = some (.slice e)) (hC : Tryz.prog.cellsOf e = T.n) : Opn (tSl e' T) t := by
 intro H enc W held fuel cs x hf
 rcases Go.Deep.open_slice hu hf with ⟨rfl, _⟩ | ⟨a', len', cap', m, n, D, Pl, rfl, _, hl, hm, hmm, _, hx⟩
 ·
  exact ⟨[], ⟨_, rfl, Or.inl ⟨rfl, none, 0, rfl⟩⟩, by simp, fun j hj => by simp at hj⟩
 ·
  rw [if_pos rfl] at hmm
  subst hmm
  unfold maxLen at hm
  rw [hC] at hx
  have hpos := A.pos
  haveI : Inhabited α := ⟨T.d⟩
  obtain ⟨f, hf'⟩ := Go.Deep.choose_lt (α := α × List Value) (n := len') (p := fun i q => (∀ j, j < T.n → W.cell? ((a'.add (i * T.n)).add j) = q.2[j]?) ∧ T.R W q.2 q.1 ∧ T.ok q.1) (fun i hi => by
   obtain ⟨cs', h1, h2⟩ := hx i (by omega)
   obtain ⟨_, hlen, hc⟩ := World.cells?_some h1
   obtain ⟨d, hd, ho⟩ := O h2
   exact ⟨(d, cs'), hc, hd, ho⟩)
  have hat : ∀ j, j < len' → ((List.range len').map fun i => (f i).1).getD j T.d = (f j).1 := fun j hj => by simp [List.getD, hj]
  have hlen : ((List.range len').map fun i => (f i).1).length = len' := by simp
  refine ⟨(List.range len').map fun i => (f i).1, ⟨_, rfl, ?_⟩, by rw [hlen]; omega, fun j hj => by rw [hlen] at hj; rw [hat j hj]; exact (hf' j hj).2.2⟩
  by_cases h0 : len' = 0
  ·
   subst h0
   exact Or.inl ⟨rfl, some a', _, rfl⟩
  ·
   have h1 := (hf' 0 (by omega)).1 0 hpos
   have hcl : 0 < (f 0).2.length := by rw [A.len (hf' 0 (by omega)).2.1]; exact hpos
   rw [Ih hcl] at h1
   obtain ⟨b, off, spot⟩ := a'
   have hspot : spot = none := by simpa [Addr.add] using World.cell?_spot h1
   subst hspot
   refine Or.inr ⟨b, off, _, fun i => (f i).2, by rw [hlen], by rw [hlen]; exact hl, ?_, ?_⟩
   ·
    have := World.block_lt_of_cell? W _ h1
    simpa [Addr.add] using this
   ·
    intro j hj
    rw [hlen] at hj
    obtain ⟨g1, g2, _⟩ := hf' j hj
    rw [hat j hj]
    refine ⟨fun i hi => ?_, g2⟩
    have := g1 i hi
    rw [Go.WideShapes.add_plain, Go.WideShapes.add_plain] at this
    exact this
theorem opn_ints (e' : TypeId) : Opn (tSl e' Je) 25 := Em Jc e' Yu Tryz.underlying25 (by kernel_rfl)
/-- A struct as an argument. -/
theorem stA_open {α : Type} {T : Ty α} {t : TypeId} {fs : Array Field} (O : Opn T t) (hu : Tryz.prog.underlying t = some (.struct fs)) {H : Type} {enc : TypeId × Value → H} {W : World} {r : Reach} {b0 : Nat} {v : Value} {d : DataW H} {p : List MemPlace}
  (hval : Value.okWide Tryz.prog W r b0 t v) (h : DataW.Trod enc Tryz.prog W 0 (fun _ => true) true t v d p) : ∃ cs x, v = .agg cs.toArray ∧ T.R W cs x ∧ T.ok x := by
 obtain ⟨⟨cs⟩, rfl, hsz⟩ := okWide_struct hu hval
 obtain ⟨fuel, hf⟩ := h
 obtain ⟨x, h, ho⟩ := O hf
 exact ⟨cs, x, rfl, h, ho⟩
end Go.Proofs.YtnepfacnmaoieaaGreatDoor
namespace Go.Proofs.YtnepfacnmaoieaaGreatDoor
open List renaming getElem?_eq_getElem → Ih
open Go.ChangeShapes Go.WideShapes Go.ChangeAt Go.WideMaps Go.WideElems Go.RowKit
set_option maxRecDepth 100000
set_option linter.unusedVariables false
theorem opn_Version : Opn Jh 286 := by
 intro H enc W held fuel cs x h
 obtain ⟨xs, n, _, _, hl, hlen, hf⟩ := DataW.trod_struct Tryz.underlying286 h
 have hl2 : cs.length = 4 := hl.trans (by kernel_rfl)
 have hn : xs.length = 4 := hlen
 have f0 : DataW.trod enc Tryz.prog W 0 (fun _ => true) held n 3 ((cs.drop 0).take (Tryz.prog.cellsOf 3)) = xs[0]? := hf 0 _ rfl
 rw [show Tryz.prog.cellsOf 3 = 1 from by kernel_rfl] at f0
 obtain ⟨d0, r0, o0⟩ := Kr (Yu) (by rw [Ih (by omega)]; rfl) f0
 have f1 : DataW.trod enc Tryz.prog W 0 (fun _ => true) held n 25 ((cs.drop 1).take (Tryz.prog.cellsOf 25)) = xs[1]? := hf 1 _ rfl
 rw [show Tryz.prog.cellsOf 25 = 1 from by kernel_rfl] at f1
 obtain ⟨d1, r1, o1⟩ := Kr (opn_ints 3) (by rw [Ih (by omega)]; rfl) f1
 have f2 : DataW.trod enc Tryz.prog W 0 (fun _ => true) held n 3 ((cs.drop 2).take (Tryz.prog.cellsOf 3)) = xs[2]? := hf 2 _ rfl
 rw [show Tryz.prog.cellsOf 3 = 1 from by kernel_rfl] at f2
 obtain ⟨d2, r2, o2⟩ := Kr (Yu) (by rw [Ih (by omega)]; rfl) f2
 have f3 : DataW.trod enc Tryz.prog W 0 (fun _ => true) held n 3 ((cs.drop 3).take (Tryz.prog.cellsOf 3)) = xs[3]? := hf 3 _ rfl
 rw [show Tryz.prog.cellsOf 3 = 1 from by kernel_rfl] at f3
 obtain ⟨d3, r3, o3⟩ := Kr (Yu) (by rw [Ih (by omega)]; rfl) f3
 exact ⟨(d0, d1, d2, d3), ⟨(cs.drop 0).take 1, cs.drop 1, (List.take_append_drop 1 cs).symm, r0, ⟨(cs.drop 1).take 1, cs.drop 2, (List.take_append_drop 1 (cs.drop 1)).symm.trans (by simp), r1, ⟨(cs.drop 2).take 1, cs.drop 3, (List.take_append_drop 1 (cs.drop 2)).symm.trans (by simp), r2, (by have e := List.take_of_length_le (l := cs.drop 3) (i := 1) (by rw [List.length_drop]; omega); rw [e] at r3; exact r3)⟩⟩⟩, ⟨o0, ⟨o1, ⟨o2, o3⟩⟩⟩⟩
end Go.Proofs.YtnepfacnmaoieaaGreatDoor
namespace Go.Proofs.YtnepfacnmaoieaaGreatDoor
open Go.ChangeShapes Go.WideShapes Go.ChangeAt Go.WideMaps Go.WideElems Go.RowKit
set_option maxRecDepth 100000
set_option linter.unusedVariables false
theorem opn_VersionS : Opn Jd 224 := Em Jp _ opn_Version Tryz.underlying224 (by kernel_rfl)
end Go.Proofs.YtnepfacnmaoieaaGreatDoor
namespace Go.Proofs.YtnepfacnmaoieaaGreatDoor
open Go.ChangeShapes Go.WideShapes Go.ChangeAt Go.WideMaps Go.WideElems Go.RowKit
set_option maxRecDepth 100000
set_option linter.unusedVariables false
theorem opn_VersionSS : Opn tVersionSS 22 := Em Jf _ opn_VersionS Tryz.underlying22 (by kernel_rfl)
end Go.Proofs.YtnepfacnmaoieaaGreatDoor
namespace Go.Proofs.YtnepfacnmaoieaaGreatDoor
open List renaming getElem?_eq_getElem → Ih
open Go.ChangeShapes Go.WideShapes Go.ChangeAt Go.WideMaps Go.WideElems Go.RowKit
set_option maxRecDepth 100000
set_option linter.unusedVariables false
theorem opn_Store : Opn Ks 24 := by
 intro H enc W held fuel cs x h
 obtain ⟨xs, n, _, _, hl, hlen, hf⟩ := DataW.trod_struct Tryz.underlying24 h
 have hl2 : cs.length = 2 := hl.trans (by kernel_rfl)
 have hn : xs.length = 2 := hlen
 have f0 : DataW.trod enc Tryz.prog W 0 (fun _ => true) held n 22 ((cs.drop 0).take (Tryz.prog.cellsOf 22)) = xs[0]? := hf 0 _ rfl
 rw [show Tryz.prog.cellsOf 22 = 1 from by kernel_rfl] at f0
 obtain ⟨d0, r0, o0⟩ := Kr (opn_VersionSS) (by rw [Ih (by omega)]; rfl) f0
 have f1 : DataW.trod enc Tryz.prog W 0 (fun _ => true) held n 3 ((cs.drop 1).take (Tryz.prog.cellsOf 3)) = xs[1]? := hf 1 _ rfl
 rw [show Tryz.prog.cellsOf 3 = 1 from by kernel_rfl] at f1
 obtain ⟨d1, r1, o1⟩ := Kr (Yu) (by rw [Ih (by omega)]; rfl) f1
 exact ⟨(d0, d1), ⟨(cs.drop 0).take 1, cs.drop 1, (List.take_append_drop 1 cs).symm, r0, (by have e := List.take_of_length_le (l := cs.drop 1) (i := 1) (by rw [List.length_drop]; omega); rw [e] at r1; exact r1)⟩, ⟨o0, o1⟩⟩
end Go.Proofs.YtnepfacnmaoieaaGreatDoor
namespace Go.Proofs.YtnepfacnmaoieaaGreatDoor
open List renaming getElem?_eq_getElem → Ih
open Go.ChangeShapes Go.WideShapes Go.ChangeAt Go.WideMaps Go.WideElems Go.RowKit
set_option maxRecDepth 100000
set_option linter.unusedVariables false
theorem opn_Cond : Opn Jk 179 := by
 intro H enc W held fuel cs x h
 obtain ⟨xs, n, _, _, hl, hlen, hf⟩ := DataW.trod_struct Tryz.underlying179 h
 have hl2 : cs.length = 3 := hl.trans (by kernel_rfl)
 have hn : xs.length = 3 := hlen
 have f0 : DataW.trod enc Tryz.prog W 0 (fun _ => true) held n 3 ((cs.drop 0).take (Tryz.prog.cellsOf 3)) = xs[0]? := hf 0 _ rfl
 rw [show Tryz.prog.cellsOf 3 = 1 from by kernel_rfl] at f0
 obtain ⟨d0, r0, o0⟩ := Kr (Yu) (by rw [Ih (by omega)]; rfl) f0
 have f1 : DataW.trod enc Tryz.prog W 0 (fun _ => true) held n 3 ((cs.drop 1).take (Tryz.prog.cellsOf 3)) = xs[1]? := hf 1 _ rfl
 rw [show Tryz.prog.cellsOf 3 = 1 from by kernel_rfl] at f1
 obtain ⟨d1, r1, o1⟩ := Kr (Yu) (by rw [Ih (by omega)]; rfl) f1
 have f2 : DataW.trod enc Tryz.prog W 0 (fun _ => true) held n 3 ((cs.drop 2).take (Tryz.prog.cellsOf 3)) = xs[2]? := hf 2 _ rfl
 rw [show Tryz.prog.cellsOf 3 = 1 from by kernel_rfl] at f2
 obtain ⟨d2, r2, o2⟩ := Kr (Yu) (by rw [Ih (by omega)]; rfl) f2
 exact ⟨(d0, d1, d2), ⟨(cs.drop 0).take 1, cs.drop 1, (List.take_append_drop 1 cs).symm, r0, ⟨(cs.drop 1).take 1, cs.drop 2, (List.take_append_drop 1 (cs.drop 1)).symm.trans (by simp), r1, (by have e := List.take_of_length_le (l := cs.drop 2) (i := 1) (by rw [List.length_drop]; omega); rw [e] at r2; exact r2)⟩⟩, ⟨o0, ⟨o1, o2⟩⟩⟩
end Go.Proofs.YtnepfacnmaoieaaGreatDoor
namespace Go.Proofs.YtnepfacnmaoieaaGreatDoor
open Go.ChangeShapes Go.WideShapes Go.ChangeAt Go.WideMaps Go.WideElems Go.RowKit
set_option maxRecDepth 100000
set_option linter.unusedVariables false
theorem opn_CondS : Opn tCondS 46 := Em Jt _ opn_Cond Tryz.underlying46 (by kernel_rfl)
end Go.Proofs.YtnepfacnmaoieaaGreatDoor
namespace Go.Proofs.YtnepfacnmaoieaaGreatDoor
open List renaming getElem?_eq_getElem → Ih
open Go.ChangeShapes Go.WideShapes Go.ChangeAt Go.WideMaps Go.WideElems Go.RowKit
set_option maxRecDepth 100000
set_option linter.unusedVariables false
theorem opn_Query : Opn Kq 48 := by
 intro H enc W held fuel cs x h
 obtain ⟨xs, n, _, _, hl, hlen, hf⟩ := DataW.trod_struct Tryz.underlying48 h
 have hl2 : cs.length = 4 := hl.trans (by kernel_rfl)
 have hn : xs.length = 4 := hlen
 have f0 : DataW.trod enc Tryz.prog W 0 (fun _ => true) held n 3 ((cs.drop 0).take (Tryz.prog.cellsOf 3)) = xs[0]? := hf 0 _ rfl
 rw [show Tryz.prog.cellsOf 3 = 1 from by kernel_rfl] at f0
 obtain ⟨d0, r0, o0⟩ := Kr (Yu) (by rw [Ih (by omega)]; rfl) f0
 have f1 : DataW.trod enc Tryz.prog W 0 (fun _ => true) held n 3 ((cs.drop 1).take (Tryz.prog.cellsOf 3)) = xs[1]? := hf 1 _ rfl
 rw [show Tryz.prog.cellsOf 3 = 1 from by kernel_rfl] at f1
 obtain ⟨d1, r1, o1⟩ := Kr (Yu) (by rw [Ih (by omega)]; rfl) f1
 have f2 : DataW.trod enc Tryz.prog W 0 (fun _ => true) held n 46 ((cs.drop 2).take (Tryz.prog.cellsOf 46)) = xs[2]? := hf 2 _ rfl
 rw [show Tryz.prog.cellsOf 46 = 1 from by kernel_rfl] at f2
 obtain ⟨d2, r2, o2⟩ := Kr (opn_CondS) (by rw [Ih (by omega)]; rfl) f2
 have f3 : DataW.trod enc Tryz.prog W 0 (fun _ => true) held n 25 ((cs.drop 3).take (Tryz.prog.cellsOf 25)) = xs[3]? := hf 3 _ rfl
 rw [show Tryz.prog.cellsOf 25 = 1 from by kernel_rfl] at f3
 obtain ⟨d3, r3, o3⟩ := Kr (opn_ints 3) (by rw [Ih (by omega)]; rfl) f3
 exact ⟨(d0, d1, d2, d3), ⟨(cs.drop 0).take 1, cs.drop 1, (List.take_append_drop 1 cs).symm, r0, ⟨(cs.drop 1).take 1, cs.drop 2, (List.take_append_drop 1 (cs.drop 1)).symm.trans (by simp), r1, ⟨(cs.drop 2).take 1, cs.drop 3, (List.take_append_drop 1 (cs.drop 2)).symm.trans (by simp), r2, (by have e := List.take_of_length_le (l := cs.drop 3) (i := 1) (by rw [List.length_drop]; omega); rw [e] at r3; exact r3)⟩⟩⟩, ⟨o0, ⟨o1, ⟨o2, o3⟩⟩⟩⟩
end Go.Proofs.YtnepfacnmaoieaaGreatDoor
namespace Go.Proofs.YtnepfacnmaoieaaGreatDoor
open List renaming getElem?_eq_getElem → Ih
open Go.ChangeShapes Go.WideShapes Go.ChangeAt Go.WideMaps Go.WideElems Go.RowKit
set_option maxRecDepth 100000
set_option linter.unusedVariables false
theorem opn_Row : Opn Ke 70 := by
 intro H enc W held fuel cs x h
 obtain ⟨xs, n, _, _, hl, hlen, hf⟩ := DataW.trod_struct Tryz.underlying70 h
 have hl2 : cs.length = 2 := hl.trans (by kernel_rfl)
 have hn : xs.length = 2 := hlen
 have f0 : DataW.trod enc Tryz.prog W 0 (fun _ => true) held n 3 ((cs.drop 0).take (Tryz.prog.cellsOf 3)) = xs[0]? := hf 0 _ rfl
 rw [show Tryz.prog.cellsOf 3 = 1 from by kernel_rfl] at f0
 obtain ⟨d0, r0, o0⟩ := Kr (Yu) (by rw [Ih (by omega)]; rfl) f0
 have f1 : DataW.trod enc Tryz.prog W 0 (fun _ => true) held n 25 ((cs.drop 1).take (Tryz.prog.cellsOf 25)) = xs[1]? := hf 1 _ rfl
 rw [show Tryz.prog.cellsOf 25 = 1 from by kernel_rfl] at f1
 obtain ⟨d1, r1, o1⟩ := Kr (opn_ints 3) (by rw [Ih (by omega)]; rfl) f1
 exact ⟨(d0, d1), ⟨(cs.drop 0).take 1, cs.drop 1, (List.take_append_drop 1 cs).symm, r0, (by have e := List.take_of_length_le (l := cs.drop 1) (i := 1) (by rw [List.length_drop]; omega); rw [e] at r1; exact r1)⟩, ⟨o0, o1⟩⟩
end Go.Proofs.YtnepfacnmaoieaaGreatDoor
namespace Go.Proofs.YtnepfacnmaoieaaGreatDoor
open Go.ChangeShapes Go.WideShapes Go.ChangeAt Go.WideMaps Go.WideElems Go.RowKit
set_option maxRecDepth 100000
set_option linter.unusedVariables false
theorem opn_RowS : Opn tRowS 148 := Em Jw _ opn_Row Tryz.underlying148 (by kernel_rfl)
end Go.Proofs.YtnepfacnmaoieaaGreatDoor
namespace Go.Proofs.YtnepfacnmaoieaaGreatDoor
open List renaming getElem?_eq_getElem → Ih
open Go.ChangeShapes Go.WideShapes Go.ChangeAt Go.WideMaps Go.WideElems Go.RowKit
set_option maxRecDepth 100000
set_option linter.unusedVariables false
theorem opn_Active : Opn Ji 150 := by
 intro H enc W held fuel cs x h
 obtain ⟨xs, n, _, _, hl, hlen, hf⟩ := DataW.trod_struct Tryz.underlying150 h
 have hl2 : cs.length = 10 := hl.trans (by kernel_rfl)
 have hn : xs.length = 7 := hlen
 have f0 : DataW.trod enc Tryz.prog W 0 (fun _ => true) held n 48 ((cs.drop 0).take (Tryz.prog.cellsOf 48)) = xs[0]? := hf 0 _ rfl
 rw [show Tryz.prog.cellsOf 48 = 4 from by kernel_rfl] at f0
 obtain ⟨d0, r0, o0⟩ := Kr (opn_Query) (by rw [Ih (by omega)]; rfl) f0
 have f1 : DataW.trod enc Tryz.prog W 0 (fun _ => true) held n 3 ((cs.drop 4).take (Tryz.prog.cellsOf 3)) = xs[1]? := hf 1 _ rfl
 rw [show Tryz.prog.cellsOf 3 = 1 from by kernel_rfl] at f1
 obtain ⟨d1, r1, o1⟩ := Kr (Yu) (by rw [Ih (by omega)]; rfl) f1
 have f2 : DataW.trod enc Tryz.prog W 0 (fun _ => true) held n 25 ((cs.drop 5).take (Tryz.prog.cellsOf 25)) = xs[2]? := hf 2 _ rfl
 rw [show Tryz.prog.cellsOf 25 = 1 from by kernel_rfl] at f2
 obtain ⟨d2, r2, o2⟩ := Kr (opn_ints 3) (by rw [Ih (by omega)]; rfl) f2
 have f3 : DataW.trod enc Tryz.prog W 0 (fun _ => true) held n 3 ((cs.drop 6).take (Tryz.prog.cellsOf 3)) = xs[3]? := hf 3 _ rfl
 rw [show Tryz.prog.cellsOf 3 = 1 from by kernel_rfl] at f3
 obtain ⟨d3, r3, o3⟩ := Kr (Yu) (by rw [Ih (by omega)]; rfl) f3
 have f4 : DataW.trod enc Tryz.prog W 0 (fun _ => true) held n 3 ((cs.drop 7).take (Tryz.prog.cellsOf 3)) = xs[4]? := hf 4 _ rfl
 rw [show Tryz.prog.cellsOf 3 = 1 from by kernel_rfl] at f4
 obtain ⟨d4, r4, o4⟩ := Kr (Yu) (by rw [Ih (by omega)]; rfl) f4
 have f5 : DataW.trod enc Tryz.prog W 0 (fun _ => true) held n 3 ((cs.drop 8).take (Tryz.prog.cellsOf 3)) = xs[5]? := hf 5 _ rfl
 rw [show Tryz.prog.cellsOf 3 = 1 from by kernel_rfl] at f5
 obtain ⟨d5, r5, o5⟩ := Kr (Yu) (by rw [Ih (by omega)]; rfl) f5
 have f6 : DataW.trod enc Tryz.prog W 0 (fun _ => true) held n 148 ((cs.drop 9).take (Tryz.prog.cellsOf 148)) = xs[6]? := hf 6 _ rfl
 rw [show Tryz.prog.cellsOf 148 = 1 from by kernel_rfl] at f6
 obtain ⟨d6, r6, o6⟩ := Kr (opn_RowS) (by rw [Ih (by omega)]; rfl) f6
 exact ⟨(d0, d1, d2, d3, d4, d5, d6), ⟨(cs.drop 0).take 4, cs.drop 4, (List.take_append_drop 4 cs).symm, r0, ⟨(cs.drop 4).take 1, cs.drop 5, (List.take_append_drop 1 (cs.drop 4)).symm.trans (by simp), r1, ⟨(cs.drop 5).take 1, cs.drop 6, (List.take_append_drop 1 (cs.drop 5)).symm.trans (by simp), r2, ⟨(cs.drop 6).take 1, cs.drop 7, (List.take_append_drop 1 (cs.drop 6)).symm.trans (by simp), r3, ⟨(cs.drop 7).take 1, cs.drop 8, (List.take_append_drop 1 (cs.drop 7)).symm.trans (by simp), r4, ⟨(cs.drop 8).take 1, cs.drop 9, (List.take_append_drop 1 (cs.drop 8)).symm.trans (by simp), r5, (by have e := List.take_of_length_le (l := cs.drop 9) (i := 1) (by rw [List.length_drop]; omega); rw [e] at r6; exact r6)⟩⟩⟩⟩⟩⟩, ⟨o0, ⟨o1, ⟨o2, ⟨o3, ⟨o4, ⟨o5, o6⟩⟩⟩⟩⟩⟩⟩
end Go.Proofs.YtnepfacnmaoieaaGreatDoor
namespace Go.Proofs.YtnepfacnmaoieaaGreatDoor
open Go.ChangeShapes Go.WideShapes Go.ChangeAt Go.WideMaps Go.WideElems Go.RowKit
set_option maxRecDepth 100000
set_option linter.unusedVariables false
theorem opn_ActiveS : Opn tActiveS 26 := Em Jj _ opn_Active Tryz.underlying26 (by kernel_rfl)
end Go.Proofs.YtnepfacnmaoieaaGreatDoor
namespace Go.Proofs.YtnepfacnmaoieaaGreatDoor
open List renaming getElem?_eq_getElem → Ih
open Go.ChangeShapes Go.WideShapes Go.ChangeAt Go.WideMaps Go.WideElems Go.RowKit
set_option maxRecDepth 100000
set_option linter.unusedVariables false
theorem opn_Finished : Opn Jg 153 := by
 intro H enc W held fuel cs x h
 obtain ⟨xs, n, _, _, hl, hlen, hf⟩ := DataW.trod_struct Tryz.underlying153 h
 have hl2 : cs.length = 7 := hl.trans (by kernel_rfl)
 have hn : xs.length = 4 := hlen
 have f0 : DataW.trod enc Tryz.prog W 0 (fun _ => true) held n 48 ((cs.drop 0).take (Tryz.prog.cellsOf 48)) = xs[0]? := hf 0 _ rfl
 rw [show Tryz.prog.cellsOf 48 = 4 from by kernel_rfl] at f0
 obtain ⟨d0, r0, o0⟩ := Kr (opn_Query) (by rw [Ih (by omega)]; rfl) f0
 have f1 : DataW.trod enc Tryz.prog W 0 (fun _ => true) held n 3 ((cs.drop 4).take (Tryz.prog.cellsOf 3)) = xs[1]? := hf 1 _ rfl
 rw [show Tryz.prog.cellsOf 3 = 1 from by kernel_rfl] at f1
 obtain ⟨d1, r1, o1⟩ := Kr (Yu) (by rw [Ih (by omega)]; rfl) f1
 have f2 : DataW.trod enc Tryz.prog W 0 (fun _ => true) held n 3 ((cs.drop 5).take (Tryz.prog.cellsOf 3)) = xs[2]? := hf 2 _ rfl
 rw [show Tryz.prog.cellsOf 3 = 1 from by kernel_rfl] at f2
 obtain ⟨d2, r2, o2⟩ := Kr (Yu) (by rw [Ih (by omega)]; rfl) f2
 have f3 : DataW.trod enc Tryz.prog W 0 (fun _ => true) held n 148 ((cs.drop 6).take (Tryz.prog.cellsOf 148)) = xs[3]? := hf 3 _ rfl
 rw [show Tryz.prog.cellsOf 148 = 1 from by kernel_rfl] at f3
 obtain ⟨d3, r3, o3⟩ := Kr (opn_RowS) (by rw [Ih (by omega)]; rfl) f3
 exact ⟨(d0, d1, d2, d3), ⟨(cs.drop 0).take 4, cs.drop 4, (List.take_append_drop 4 cs).symm, r0, ⟨(cs.drop 4).take 1, cs.drop 5, (List.take_append_drop 1 (cs.drop 4)).symm.trans (by simp), r1, ⟨(cs.drop 5).take 1, cs.drop 6, (List.take_append_drop 1 (cs.drop 5)).symm.trans (by simp), r2, (by have e := List.take_of_length_le (l := cs.drop 6) (i := 1) (by rw [List.length_drop]; omega); rw [e] at r3; exact r3)⟩⟩⟩, ⟨o0, ⟨o1, ⟨o2, o3⟩⟩⟩⟩
end Go.Proofs.YtnepfacnmaoieaaGreatDoor
namespace Go.Proofs.YtnepfacnmaoieaaGreatDoor
open Go.ChangeShapes Go.WideShapes Go.ChangeAt Go.WideMaps Go.WideElems Go.RowKit
set_option maxRecDepth 100000
set_option linter.unusedVariables false
theorem opn_FinishedS : Opn tFinishedS 27 := Em Jn _ opn_Finished Tryz.underlying27 (by kernel_rfl)
end Go.Proofs.YtnepfacnmaoieaaGreatDoor
namespace Go.Proofs.YtnepfacnmaoieaaGreatDoor
open List renaming getElem?_eq_getElem → Ih
open Go.ChangeShapes Go.WideShapes Go.ChangeAt Go.WideMaps Go.WideElems Go.RowKit
set_option maxRecDepth 100000
set_option linter.unusedVariables false
theorem opn_Charge : Opn Jo 156 := by
 intro H enc W held fuel cs x h
 obtain ⟨xs, n, _, _, hl, hlen, hf⟩ := DataW.trod_struct Tryz.underlying156 h
 have hl2 : cs.length = 5 := hl.trans (by kernel_rfl)
 have hn : xs.length = 5 := hlen
 have f0 : DataW.trod enc Tryz.prog W 0 (fun _ => true) held n 3 ((cs.drop 0).take (Tryz.prog.cellsOf 3)) = xs[0]? := hf 0 _ rfl
 rw [show Tryz.prog.cellsOf 3 = 1 from by kernel_rfl] at f0
 obtain ⟨d0, r0, o0⟩ := Kr (Yu) (by rw [Ih (by omega)]; rfl) f0
 have f1 : DataW.trod enc Tryz.prog W 0 (fun _ => true) held n 3 ((cs.drop 1).take (Tryz.prog.cellsOf 3)) = xs[1]? := hf 1 _ rfl
 rw [show Tryz.prog.cellsOf 3 = 1 from by kernel_rfl] at f1
 obtain ⟨d1, r1, o1⟩ := Kr (Yu) (by rw [Ih (by omega)]; rfl) f1
 have f2 : DataW.trod enc Tryz.prog W 0 (fun _ => true) held n 25 ((cs.drop 2).take (Tryz.prog.cellsOf 25)) = xs[2]? := hf 2 _ rfl
 rw [show Tryz.prog.cellsOf 25 = 1 from by kernel_rfl] at f2
 obtain ⟨d2, r2, o2⟩ := Kr (opn_ints 3) (by rw [Ih (by omega)]; rfl) f2
 have f3 : DataW.trod enc Tryz.prog W 0 (fun _ => true) held n 25 ((cs.drop 3).take (Tryz.prog.cellsOf 25)) = xs[3]? := hf 3 _ rfl
 rw [show Tryz.prog.cellsOf 25 = 1 from by kernel_rfl] at f3
 obtain ⟨d3, r3, o3⟩ := Kr (opn_ints 3) (by rw [Ih (by omega)]; rfl) f3
 have f4 : DataW.trod enc Tryz.prog W 0 (fun _ => true) held n 25 ((cs.drop 4).take (Tryz.prog.cellsOf 25)) = xs[4]? := hf 4 _ rfl
 rw [show Tryz.prog.cellsOf 25 = 1 from by kernel_rfl] at f4
 obtain ⟨d4, r4, o4⟩ := Kr (opn_ints 3) (by rw [Ih (by omega)]; rfl) f4
 exact ⟨(d0, d1, d2, d3, d4), ⟨(cs.drop 0).take 1, cs.drop 1, (List.take_append_drop 1 cs).symm, r0, ⟨(cs.drop 1).take 1, cs.drop 2, (List.take_append_drop 1 (cs.drop 1)).symm.trans (by simp), r1, ⟨(cs.drop 2).take 1, cs.drop 3, (List.take_append_drop 1 (cs.drop 2)).symm.trans (by simp), r2, ⟨(cs.drop 3).take 1, cs.drop 4, (List.take_append_drop 1 (cs.drop 3)).symm.trans (by simp), r3, (by have e := List.take_of_length_le (l := cs.drop 4) (i := 1) (by rw [List.length_drop]; omega); rw [e] at r4; exact r4)⟩⟩⟩⟩, ⟨o0, ⟨o1, ⟨o2, ⟨o3, o4⟩⟩⟩⟩⟩
end Go.Proofs.YtnepfacnmaoieaaGreatDoor
namespace Go.Proofs.YtnepfacnmaoieaaGreatDoor
open Go.ChangeShapes Go.WideShapes Go.ChangeAt Go.WideMaps Go.WideElems Go.RowKit
set_option maxRecDepth 100000
set_option linter.unusedVariables false
theorem opn_ChargeS : Opn tChargeS 28 := Em Jr _ opn_Charge Tryz.underlying28 (by kernel_rfl)
end Go.Proofs.YtnepfacnmaoieaaGreatDoor
namespace Go.Proofs.YtnepfacnmaoieaaGreatDoor
open List renaming getElem?_eq_getElem → Ih
open Go.ChangeShapes Go.WideShapes Go.ChangeAt Go.WideMaps Go.WideElems Go.RowKit
set_option maxRecDepth 100000
set_option linter.unusedVariables false
theorem recT_Engine : Tryz.prog.readableRec 30 = true := by kernel_rfl
theorem rowT_Engine : 30 < Tryz.prog.types.size := of_decide_eq_true (by kernel_rfl)
theorem opn_Engine : Opn Kf 30 := by
 intro H enc W held fuel cs x h
 obtain ⟨xs, n, _, _, hl, hlen, hf⟩ := DataW.trod_struct Tryz.underlying30 h
 have hl2 : cs.length = 8 := hl.trans (by kernel_rfl)
 have hn : xs.length = 7 := hlen
 have f0 : DataW.trod enc Tryz.prog W 0 (fun _ => true) held n 24 ((cs.drop 0).take (Tryz.prog.cellsOf 24)) = xs[0]? := hf 0 _ rfl
 rw [show Tryz.prog.cellsOf 24 = 2 from by kernel_rfl] at f0
 obtain ⟨d0, r0, o0⟩ := Kr (opn_Store) (by rw [Ih (by omega)]; rfl) f0
 have f1 : DataW.trod enc Tryz.prog W 0 (fun _ => true) held n 3 ((cs.drop 2).take (Tryz.prog.cellsOf 3)) = xs[1]? := hf 1 _ rfl
 rw [show Tryz.prog.cellsOf 3 = 1 from by kernel_rfl] at f1
 obtain ⟨d1, r1, o1⟩ := Kr (Yu) (by rw [Ih (by omega)]; rfl) f1
 have f2 : DataW.trod enc Tryz.prog W 0 (fun _ => true) held n 25 ((cs.drop 3).take (Tryz.prog.cellsOf 25)) = xs[2]? := hf 2 _ rfl
 rw [show Tryz.prog.cellsOf 25 = 1 from by kernel_rfl] at f2
 obtain ⟨d2, r2, o2⟩ := Kr (opn_ints 3) (by rw [Ih (by omega)]; rfl) f2
 have f3 : DataW.trod enc Tryz.prog W 0 (fun _ => true) held n 26 ((cs.drop 4).take (Tryz.prog.cellsOf 26)) = xs[3]? := hf 3 _ rfl
 rw [show Tryz.prog.cellsOf 26 = 1 from by kernel_rfl] at f3
 obtain ⟨d3, r3, o3⟩ := Kr (opn_ActiveS) (by rw [Ih (by omega)]; rfl) f3
 have f4 : DataW.trod enc Tryz.prog W 0 (fun _ => true) held n 27 ((cs.drop 5).take (Tryz.prog.cellsOf 27)) = xs[4]? := hf 4 _ rfl
 rw [show Tryz.prog.cellsOf 27 = 1 from by kernel_rfl] at f4
 obtain ⟨d4, r4, o4⟩ := Kr (opn_FinishedS) (by rw [Ih (by omega)]; rfl) f4
 have f5 : DataW.trod enc Tryz.prog W 0 (fun _ => true) held n 28 ((cs.drop 6).take (Tryz.prog.cellsOf 28)) = xs[5]? := hf 5 _ rfl
 rw [show Tryz.prog.cellsOf 28 = 1 from by kernel_rfl] at f5
 obtain ⟨d5, r5, o5⟩ := Kr (opn_ChargeS) (by rw [Ih (by omega)]; rfl) f5
 have f6 : DataW.trod enc Tryz.prog W 0 (fun _ => true) held n 3 ((cs.drop 7).take (Tryz.prog.cellsOf 3)) = xs[6]? := hf 6 _ rfl
 rw [show Tryz.prog.cellsOf 3 = 1 from by kernel_rfl] at f6
 obtain ⟨d6, r6, o6⟩ := Kr (Yu) (by rw [Ih (by omega)]; rfl) f6
 exact ⟨(d0, d1, d2, d3, d4, d5, d6), ⟨(cs.drop 0).take 2, cs.drop 2, (List.take_append_drop 2 cs).symm, r0, ⟨(cs.drop 2).take 1, cs.drop 3, (List.take_append_drop 1 (cs.drop 2)).symm.trans (by simp), r1, ⟨(cs.drop 3).take 1, cs.drop 4, (List.take_append_drop 1 (cs.drop 3)).symm.trans (by simp), r2, ⟨(cs.drop 4).take 1, cs.drop 5, (List.take_append_drop 1 (cs.drop 4)).symm.trans (by simp), r3, ⟨(cs.drop 5).take 1, cs.drop 6, (List.take_append_drop 1 (cs.drop 5)).symm.trans (by simp), r4, ⟨(cs.drop 6).take 1, cs.drop 7, (List.take_append_drop 1 (cs.drop 6)).symm.trans (by simp), r5, (by have e := List.take_of_length_le (l := cs.drop 7) (i := 1) (by rw [List.length_drop]; omega); rw [e] at r6; exact r6)⟩⟩⟩⟩⟩⟩, ⟨o0, ⟨o1, ⟨o2, ⟨o3, ⟨o4, ⟨o5, o6⟩⟩⟩⟩⟩⟩⟩
theorem shut_Engine {H : Type} {enc : TypeId × Value → H} {W W' : World} {v : Value} {d : DataW H} {ps : List MemPlace} (h : DataW.Trod enc Tryz.prog W 0 (fun _ => true) true 30 v d ps) (hb : Below W W W') (hlt : ∀ x ∈ ps, x.block < W.heap.size) :
  DataW.Trod enc Tryz.prog W' 0 (fun b => decide (b < W.heap.size)) true 30 v d ps := Below.trod laidOutP recT_Engine rowT_Engine h hb hlt
end Go.Proofs.YtnepfacnmaoieaaGreatDoor
