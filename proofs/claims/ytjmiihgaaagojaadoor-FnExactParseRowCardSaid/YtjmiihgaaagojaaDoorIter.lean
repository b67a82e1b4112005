/-
  A range over a string whose body writes memory: the iterator's block, and what a step of it does.
-/
import Derived.Test.YtjmiihgaaagojaaDoorBytes
import Derived.Laws.RangeAny
namespace Go.Proofs.YtjmiihgaaagojaaDoor
open Go.RowKit
set_option linter.unusedVariables false
/-- The world in which the iterator N stands at p. -/
def setIter (w : World) (N : Nat) (s : ByteArray) (p : Nat) : World := { w with heap := w.heap.setIfInBounds N (.stringIter s p) }
theorem setIter_get {w : World} {N : Nat} {s : ByteArray} {q : Nat} (p : Nat) (h : w.heap[N]? = some (.stringIter s q)) : (setIter w N s p).heap[N]? = some (.stringIter s p) := by
  have := (Array.getElem?_eq_some_iff.1 h).1
  simp [setIter, this]
theorem next_any {P : Program} {w : World} {N : Nat} {s : ByteArray} {pos : Nat} (hN : w.heap[N]? = some (.stringIter s pos)) (h : pos < s.size) (ty : TypeId) :
    (Instr.next (.pointer (some ⟨N, 0, none⟩)) true ty).run P w = .ok (.tuple #[.bool true, .int .i64 pos, .int .i32 (Utf8.decode s pos).1]) (setIter w N s (pos + (Utf8.decode s pos).2)) := by
  simp only [Instr.next, getObj, setObj, Sem.run_bind, Sem.run, hN, Result.andThen, h, if_true]
  simp [goInt, setIter]
theorem next_end {P : Program} {w : World} {N : Nat} {s : ByteArray} {pos : Nat} (hN : w.heap[N]? = some (.stringIter s pos)) (h : ¬ pos < s.size) (ty : TypeId) :
    (Instr.next (.pointer (some ⟨N, 0, none⟩)) true ty).run P w = .ok (.tuple #[.bool false]) w := by
  simp [Instr.next, getObj, Sem.run, hN, h]
theorem setIter_other {w : World} {N : Nat} {s : ByteArray} {p : Nat} {k : Nat} (h : k ≠ N) : (setIter w N s p).heap[k]? = w.heap[k]? := by
  simp only [setIter]
  rw [Array.getElem?_setIfInBounds]
  split
  · omega
  · rfl
theorem below_setIter {B : Nat} {a w : World} {N : Nat} {s : ByteArray} {p : Nat} (h : Below B a w) (hB : B ≤ N) : Below B a (setIter w N s p) :=
  h.trans ⟨rfl, rfl, rfl, by simp [setIter], fun k hk => setIter_other (by omega)⟩
theorem ownsB_setIter {w : World} {B : Nat} {v : Value} {xs : List Int} {N : Nat} {s : ByteArray} {p q : Nat} (h : OwnsB w B v xs) (hN : w.heap[N]? = some (.stringIter s q)) : OwnsB (setIter w N s p) B v xs := by
  refine ⟨h.1, ?_⟩
  rcases h.2 with hn | ⟨g, cap, cur, rfl, hb', hg, rest⟩
  · exact .inl hn
  · refine .inr ⟨g, cap, cur, rfl, hb', ?_, rest⟩
    rw [setIter_other (by intro e; subst e; rw [hN] at hg; cases hg)]
    exact hg
theorem iter_start (w : World) (s : ByteArray) : (w.iter s 0).heap[w.heap.size]? = some (.stringIter s 0) := World.iter_heap w s 0
theorem iterPos_of {w : World} {N : Nat} {s : ByteArray} {p : Nat} (h : w.heap[N]? = some (.stringIter s p)) : w.iterPos N = p := by simp [World.iterPos, h]
theorem iter_setCell {w : World} {N : Nat} {s : ByteArray} {p : Nat} {a : Addr} {u : Value} (h : w.heap[N]? = some (.stringIter s p)) (ha : N ≠ a.block) : (w.setCell a u).heap[N]? = some (.stringIter s p) := by
  rw [Below.heap_setCell _ _ _ _ ha]; exact h
theorem ownsB_ne {w : World} {B g n cap : Nat} {xs : List Int} {N : Nat} {s : ByteArray} {q : Nat} (h : OwnsB w B (.slice (some ⟨g, 0, none⟩) n cap) xs) (hN : w.heap[N]? = some (.stringIter s q)) : N ≠ g := by
  intro e
  subst e
  rcases h.2 with ⟨h', _⟩ | ⟨g', cap', cur, h', _, hg, _⟩
  · simp at h'
  · simp only [Value.slice.injEq, Option.some.injEq, Addr.mk.injEq, and_true] at h'
    obtain ⟨rfl, _⟩ := h'
    rw [hN] at hg; cases hg
end Go.Proofs.YtjmiihgaaagojaaDoor
