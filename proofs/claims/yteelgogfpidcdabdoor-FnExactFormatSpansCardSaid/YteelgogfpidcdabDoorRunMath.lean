/-
  Plain facts on the text of a set: its runs of adjacent numbers.
-/
import Derived.Lib.ItoaMem
import Derived.Lib.ItoaLen
import Derived.Laws.Concat
namespace Go.Proofs.YteelgogfpidcdabDoor
/-- The runs of adjacent numbers. -/
def runs : List Int → List (Int × Int)
  | [] => []
  | x :: r => match runs r with
    | [] => [(x, x)]
    | (a, b) :: t => if a = x + 1 then (x, b) :: t else (x, x) :: (a, b) :: t
theorem runs_cons (x : Int) (r : List Int) : ∃ b t, runs (x :: r) = (x, b) :: t := by
  simp only [runs]
  split
  · exact ⟨x, [], rfl⟩
  · split
    · exact ⟨_, _, rfl⟩
    · exact ⟨_, _, rfl⟩
theorem runs_join {x y : Int} {r : List Int} {b : Int} {t : List (Int × Int)} (h : y = x + 1) (e : runs (y :: r) = (y, b) :: t) : runs (x :: y :: r) = (x, b) :: t := by
  rw [runs, e]; simp only [if_pos h]
theorem runs_part {x y : Int} {r : List Int} (h : y ≠ x + 1) : runs (x :: y :: r) = (x, x) :: runs (y :: r) := by
  obtain ⟨b, t, e⟩ := runs_cons y r
  rw [runs, e]; simp only [if_neg h]
/-- The greatest run that begins at i ends at i + n. -/
theorem run_max (l : List Int) : ∀ (n i : Nat), i + n < l.length → (∀ j, j < n → l.getD (i + j + 1) 0 = l.getD (i + j) 0 + 1) → (i + n + 1 < l.length → l.getD (i + n + 1) 0 ≠ l.getD (i + n) 0 + 1) →
    runs (l.drop i) = (l.getD i 0, l.getD (i + n) 0) :: runs (l.drop (i + n + 1)) := by
  have hd : ∀ i, i < l.length → l.drop i = l.getD i 0 :: l.drop (i + 1) := by
    intro i hi
    rw [List.drop_eq_getElem_cons hi]; simp [List.getD, hi]
  intro n
  induction n with
  | zero =>
    intro i hi _ hm
    rw [hd i (by omega)]
    by_cases h1 : i + 1 < l.length
    · rw [show i + 0 + 1 = i + 1 from rfl, hd (i + 1) h1]
      rw [runs_part (by simpa using hm (by omega))]
      rfl
    · rw [List.drop_eq_nil_of_le (show l.length ≤ i + 1 by omega)]
      rfl
  | succ n ih =>
    intro i hi hc hm
    have h1 := ih (i + 1) (by omega) (fun j hj => by have := hc (j + 1) (by omega); rw [show i + 1 + j + 1 = i + (j + 1) + 1 by omega, show i + 1 + j = i + (j + 1) by omega]; exact this)
      (fun hl => by rw [show i + 1 + n + 1 = i + (n + 1) + 1 by omega, show i + 1 + n = i + (n + 1) by omega]; exact hm (by omega))
    have h0 := hc 0 (by omega)
    rw [hd i (by omega), hd (i + 1) (by omega)]
    rw [hd (i + 1) (by omega)] at h1
    rw [runs_join (by simpa using h0) h1, show i + 1 + n = i + (n + 1) by omega]
/-- The text of a run. -/
def runText (r : Int × Int) : List UInt8 := if r.1 = r.2 then Lib.itoa r.1 else Lib.itoa r.1 ++ 45 :: Lib.itoa r.2
/-- The texts of runs behind the text s. -/
def glue (s : List UInt8) : List (Int × Int) → List UInt8
  | [] => s
  | r :: t => glue ((if s = [] then s else s ++ [32]) ++ runText r) t
/-- FormatSet of a set. -/
def fmtRuns (l : List Int) : List UInt8 := if l = [] then [110, 111, 110, 101] else glue [] (runs l)
theorem itoa_ne (n : Int) : Lib.itoa n ≠ [] := by
  unfold Lib.itoa
  split
  · simp
  · unfold Lib.decDigits; split <;> simp
theorem runText_ne (r : Int × Int) : runText r ≠ [] := by
  unfold runText; split
  · exact itoa_ne _
  · simp
theorem runText_len (r : Int × Int) (h1 : -9223372036854775808 ≤ r.1 ∧ r.1 ≤ 9223372036854775807) (h2 : -9223372036854775808 ≤ r.2 ∧ r.2 ≤ 9223372036854775807) : (runText r).length ≤ 43 := by
  have a := Lib.itoa_length_le r.1 h1.1 h1.2
  have b := Lib.itoa_length_le r.2 h2.1 h2.2
  unfold runText; split
  · omega
  · simp; omega
/-- n numbers from f on. -/
def upN (f : Int) (n : Nat) : List Int := (List.range n).map (fun (i : Nat) => f + (i : Int))
theorem upN_len (f : Int) (n : Nat) : (upN f n).length = n := by simp [upN]
theorem upN_succ (f : Int) (n : Nat) : upN f (n + 1) = upN f n ++ [f + (n : Int)] := by simp [upN, List.range_succ]
end Go.Proofs.YteelgogfpidcdabDoor
