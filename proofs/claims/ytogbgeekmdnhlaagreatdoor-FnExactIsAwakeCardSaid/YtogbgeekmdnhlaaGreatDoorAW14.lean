/-
 Texts of the proof, merged: PkA, FlatT, SetLaws1.
-/
import Derived.Test.YtogbgeekmdnhlaaGreatDoorAW1
import Derived.Test.YtogbgeekmdnhlaaGreatDoorAW2
import Derived.Test.YtogbgeekmdnhlaaGreatDoorAW5
import Derived.Test.YtogbgeekmdnhlaaGreatDoorAW13
namespace Go.Proofs.YtogbgeekmdnhlaaGreatDoor
open Go.RowKit
set_option linter.unusedVariables false
set_option linter.unusedSimpArgs false
theorem St.empty {α : Type} {T : Ty α} (L : T.Law) {w0 w : World} {l : List Item} (h : St w0 l w) (e : TypeId) : St w0 (iS e L (fun b => b = w.heap.size) (.slice (some ⟨w.heap.size, 0, none⟩) 0 0) [] :: l) (w.alloc (.cells #[] e)) :=
 h.cons ((Below.refl _ _).alloc (Nat.le_refl _) _) (iS e L (fun b => b = w.heap.size) _ []) (slO_empty w e _ rfl) (fun b hb => by have hb : b = w.heap.size := hb; subst hb; exact ⟨Nat.le_refl _, by rw [World.size_alloc]; omega⟩)
theorem St.none {α : Type} {T : Ty α} (L : T.Law) {w0 w : World} {l : List Item} (h : St w0 l w) (e : TypeId) : St w0 (iS e L (fun _ => False) (.slice none 0 0) [] :: l) w :=
 h.cons (Below.refl _ _) (iS e L (fun _ => False) _ []) (slO_nil _ _ _ _) (fun b hb => False.elim hb)
theorem St.alloc {w0 w : World} {l : List Item} (h : St w0 l w) (o : Obj) : St w0 l (w.alloc o) := h.below ((Below.refl _ _).alloc (Nat.le_refl _) _)
/-- What is answered: a slice of the call's own. -/
theorem St.outS {α : Type} {T : Ty α} {L : T.Law} {t : TypeId} {w0 w : World} {l : List Item} (h : St w0 l w) (k : Nat) {F : Nat → Prop} {v : Value} {xs : List α} (e : l[k]? = some (iS t L F v xs)) : SlO t T w (since w0) v xs :=
 slO_mono (h.gS k e) (fun b hb => h.lo _ (List.mem_of_getElem? e) b hb)
theorem info_T_int : ElemInfo tInt 3 (.int .i64 0) := elemInfo_of (by kernel_rfl)
theorem specHasB (va : Value) (a : List Int) (x : Int) (w : World) (h : Ints w va a) (hn : a.length ≤ 1048576) : Calls Tryz.prog 67 #[va, .int .i64 x] w fun e w' => e = .returned (.bool (decide (x ∈ a))) ∧ Below w.heap.size w w' :=
 (specHas va a x w h hn).mono fun e w' g => ⟨g.1, by rw [← g.2]; exact Below.refl _ _⟩
end Go.Proofs.YtogbgeekmdnhlaaGreatDoor
