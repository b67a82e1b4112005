/-
 Texts of the proof, merged: TRow, TRowS, BrRow.
-/
import Derived.Test.YtededfficggkaaaDoorI2
import Derived.Test.YtededfficggkaaaDoorI11
import Derived.BigQuiet
import Derived.Deep.QuietTactic
import Derived.Deep.RegionHeld3
namespace Go.Proofs.YtededfficggkaaaDoor
open Go.RowKit
set_option linter.unusedVariables false
set_option linter.unusedSimpArgs false
def tRow : Ty (Int × List Int) := tPair tInt tIntS
theorem tRow_law : tRow.Law := tPair_law tInt_law tIntS_law
theorem tRow_R {w : World} {cs : List Value} {a0 : Int} {x1 : List Int} (h : tRow.R w cs (a0, x1)) : ∃ v1, cs = [.int .i64 a0, v1] ∧ SlR tInt w v1 x1 := by
 obtain ⟨_, _, rfl, rfl, ⟨v1, rfl, h1⟩⟩ := h
 exact ⟨_, rfl, h1⟩
theorem tRow_sz {a0 : Int} {x1 : List Int} : tRow.sz (a0, x1) = zL tInt x1 := by
 simp only [tRow, tPair_sz, tPair_nd, tPair_nv, tInt_sz, tInt_nd, tInt_nv, tSl_sz, tSl_nd, tSl_nv]
 try omega
theorem tRow_mkO {w : World} {F : Nat → Prop} {a0 : Int} {x1 : List Int} {v1 : Value} {F1 : Nat → Prop} (h1 : SlO 3 tInt w F1 v1 x1) (s1 : ∀ b, F1 b → F b)  : tRow.O w F [.int .i64 a0, v1] (a0, x1) := ⟨[.int .i64 a0], [v1], fun _ => False, F1, rfl, rfl, ⟨_, rfl, h1⟩, (fun b h => (False.elim h)), (fun b h => s1 b h), (fun b h g => (False.elim h))⟩
theorem slR_rows {w : World} {v : Value} {rs : List RowD} (h : SlR tRow w v rs) : RowsR w v rs := by
 rcases h with h | ⟨b, off, cap, us, h1, h2, h3, h4⟩
 ·
  exact Or.inl h
 ·
  refine Or.inr ⟨b, off, cap, fun j => (us j).getD 1 (.slice none 0 0), h1, h2, h3, fun j hj => ?_⟩
  obtain ⟨hc, hR⟩ := h4 j hj
  obtain ⟨v1, e, g1⟩ := tRow_R (a0 := (rs.getD j (0, [])).1) (x1 := (rs.getD j (0, [])).2) hR
  have c0 := hc 0 (by decide); have c1 := hc 1 (by decide)
  simp only [e] at c0 c1 ⊢
  exact ⟨c0, c1, slR_ints g1⟩
theorem zL_rows (rs : List RowD) : zL tRow rs = szL rs := by
 have hf : tRow.sz = fun r : RowD => r.2.length := by
  funext r; obtain ⟨a, x⟩ := r; rw [tRow_sz, zL_ints]
 unfold zL zTo szL szTo sumN
 rw [hf]
theorem ownsR_slO {w : World} {B : Nat} {F : Nat → Prop} {v : Value} {rs : List RowD} (h : OwnsR w B v rs) (hF : ∀ b, B ≤ b → F b) : SlO 51 tRow w F v rs := by
 obtain ⟨cs, vs, h1, h2, h3⟩ := h
 refine ⟨cs, fun j => [.int .i64 (rs.getD j (0, [])).1, vs j], fun j b => (vs j).ownBlock = some b, row_low h1 (Nat.zero_le _), fun b hb => hF b (h1.lt b hb).1, fun j hj => ?_, fun i j hi hj hij b hb hc => h3 i j hi hj hij b hb hc⟩
 obtain ⟨g0, g1, g2, g3⟩ := h2 j hj
 refine ⟨fun i hi => ?_, tRow_mkO (own_slO g2 (fun b hb => hb)) (fun b hb => hb), fun b hb => ⟨hF b (g2.lt b hb).1, g3 b hb⟩⟩
 have hi' : i < 2 := hi
 exact (match i, hi' with | 0, _ => g0 | 1, _ => g1)
end Go.Proofs.YtededfficggkaaaDoor
