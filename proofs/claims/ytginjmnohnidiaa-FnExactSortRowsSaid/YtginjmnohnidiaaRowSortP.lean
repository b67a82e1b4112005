/-
  The program's SortRows: slices.SortFunc over a copy of the rows gives the specification's sorted rows.
-/
import Derived.Test.YtginjmnohnidiaaRowCopyP
import Derived.Test.YtginjmnohnidiaaSortShelf
namespace Go.Proofs.Ytginjmnohnidiaa
open Go.RowKit
set_option linter.unusedVariables false
set_option linter.unusedSimpArgs false
/-- A row with the slice in which its values lie, which the call made, in a block other than g. -/
def Elem (W : World) (B g : Nat) : Type := { p : RowD × Value // OwnsN W B p.2 p.1.2 ∧ p.1.2.length ≤ 1048576 ∧ p.2.ownBlock ≠ some g }
instance elemInh (W : World) (B g : Nat) : Inhabited (Elem W B g) := ⟨⟨((0, []), .slice none 0 0), ownsN_nil W B, by simp, by simp [Value.ownBlock]⟩⟩
def mkE {W : World} {B g : Nat} (p : RowD × Value) (h : OwnsN W B p.2 p.1.2 ∧ p.1.2.length ≤ 1048576 ∧ p.2.ownBlock ≠ some g) : Elem W B g := ⟨p, h⟩
def encE {W : World} {B g : Nat} (x : Elem W B g) : List Value := [.int .i64 x.1.1.1, x.1.2]
def cfE {W : World} {B g : Nat} (x y : Elem W B g) : Int := cmpR x.1.1 y.1.1
theorem ltE {W : World} {B g : Nat} (x y : Elem W B g) : ltOf cfE x y = rowLess x.1.1 y.1.1 := cmpR_less _ _
theorem swoE (W : World) (B g : Nat) : Sort.SWO (ltOf (cfE (W := W) (B := B) (g := g))) where
  irrefl x := by rw [ltE]; exact rowLess_irr _
  trans x y z h1 h2 := by rw [ltE] at *; exact rowLess_trans _ _ _ h1 h2
  ntrans x y z h1 h2 := by rw [ltE] at *; exact rowLess_ntrans _ _ _ h1 h2
theorem oneE {W : World} {B g : Nat} (x : Elem W B g) : ∀ v ∈ encE x, v.oneCell' = true := by
  intro v hv
  simp only [encE, List.mem_cons, List.not_mem_nil, or_false] at hv
  rcases hv with rfl | rfl
  · rfl
  · obtain ⟨a, cap, e⟩ := ints_len (ownsN_ints x.2.1)
    rw [e]; rfl
theorem heap_sortW {W : World} {B g : Nat} (m : Nat) (dk : Array (Elem W B g)) (os : Array Obj) {b : Nat} (hb : b < W.heap.size) (hne : b ≠ g) : (sortWorldK encE 2 W g 0 m dk os).heap[b]? = W.heap[b]? := by
  unfold sortWorldK Sort.putRowK Sort.putRow Sort.mapBlock Sort.grow Sort.ahead
  simp only
  rw [Array.getElem?_append_left (by simpa using hb), Array.getElem?_modify, if_neg (fun e => hne e.symm)]
theorem heap_sortG {W : World} {B g : Nat} (m : Nat) (dk : Array (Elem W B g)) (os : Array Obj) {cur : Array Value} {t : TypeId} {fr : Nat × Nat} (hg : W.heap[g]? = some (.cells cur t fr)) : (sortWorldK encE 2 W g 0 m dk os).heap[g]? = some (.cells (Sort.putCells id 0 (Sort.flatK encE 2 dk) cur) t fr) := by
  have hb : g < W.heap.size := (Array.getElem?_eq_some_iff.1 hg).1
  unfold sortWorldK Sort.putRowK Sort.putRow Sort.mapBlock Sort.grow Sort.ahead
  simp only
  rw [Array.getElem?_append_left (by simpa using hb), Array.getElem?_modify, if_pos rfl, hg]
  rfl
theorem size_sortW {W : World} {B g : Nat} (m : Nat) (dk : Array (Elem W B g)) (os : Array Obj) : W.heap.size ≤ (sortWorldK encE 2 W g 0 m dk os).heap.size := by
  unfold sortWorldK Sort.putRowK Sort.putRow Sort.mapBlock Sort.grow Sort.ahead
  simp
theorem ownsN_sortW {W : World} {B g : Nat} (m : Nat) (dk : Array (Elem W B g)) (os : Array Obj) {v : Value} {xs : List Int} (h : OwnsN W B v xs) (hne : v.ownBlock ≠ some g) : OwnsN (sortWorldK encE 2 W g 0 m dk os) B v xs := by
  refine ⟨h.1, ?_⟩
  rcases h.2 with hn | ⟨b, cap, cur, rfl, hb', hg, rest⟩
  · exact .inl hn
  · refine .inr ⟨b, cap, cur, rfl, hb', ?_, rest⟩
    rw [heap_sortW m dk os (Array.getElem?_eq_some_iff.1 hg).1 (fun e => hne (by simp [Value.ownBlock, e]))]
    exact hg
theorem below_sortW {W : World} {B g C : Nat} (m : Nat) (dk : Array (Elem W B g)) (os : Array Obj) (hC : C ≤ g) (hCW : C ≤ W.heap.size) : Below C W (sortWorldK encE 2 W g 0 m dk os) :=
  ⟨rfl, rfl, rfl, size_sortW m dk os, fun k hk => heap_sortW m dk os (by omega) (by omega)⟩
theorem cmpLaysE (W : World) (B g : Nat) (size : Nat) : CmpLays Try.prog 53 #[] (encE (W := W) (B := B) (g := g)) 2 cfE g 0 size W :=
  fun m os dk _ x y => compareRows_any x.1.1.1 y.1.1.1 x.1.2 y.1.2 x.1.1.2 y.1.1.2 _ (ownsN_ints (ownsN_sortW m dk os x.2.1 x.2.2.2)) (ownsN_ints (ownsN_sortW m dk os y.2.1 y.2.2.2)) x.2.2.1 y.2.2.1
theorem flat_even {W : World} {B g : Nat} (d : Array (Elem W B g)) {j : Nat} (hj : j < d.size) : (Sort.flatK encE 2 d).toList[j * 2]? = some (.int .i64 (d[j]!).1.1.1) ∧ (Sort.flatK encE 2 d).toList[j * 2 + 1]? = some (d[j]!).1.2 := by
  have h0 : j * 2 < d.size * 2 := by omega
  have h1 : j * 2 + 1 < d.size * 2 := by omega
  have e0 := Sort.get_flatK encE 2 d (j * 2) h0
  have e1 := Sort.get_flatK encE 2 d (j * 2 + 1) h1
  rw [show j * 2 / 2 = j by omega, show j * 2 % 2 = 0 by omega] at e0
  rw [show (j * 2 + 1) / 2 = j by omega, show (j * 2 + 1) % 2 = 1 by omega] at e1
  have s0 : j * 2 < (Sort.flatK encE 2 d).size := by rw [Sort.size_flatK]; exact h0
  have s1 : j * 2 + 1 < (Sort.flatK encE 2 d).size := by rw [Sort.size_flatK]; exact h1
  rw [getElem!_pos (Sort.flatK encE 2 d) (j * 2) s0] at e0
  rw [getElem!_pos (Sort.flatK encE 2 d) (j * 2 + 1) s1] at e1
  refine ⟨?_, ?_⟩
  · rw [Array.getElem?_toList, Array.getElem?_eq_getElem s0, e0]; rfl
  · rw [Array.getElem?_toList, Array.getElem?_eq_getElem s1, e1]; rfl
/-- The sort of a slice of rows that the call made. -/
theorem sortRows_own {W : World} {B : Nat} {v : Value} {rs : List RowD} (h : OwnsR W B v rs) (hs : szL rs ≤ 1048576) (hB : B ≤ W.heap.size) :
    Calls Try.prog 52 #[v, .func (.func 53) #[] #[]] W fun e w' => e = .returned (.tuple #[]) ∧ OwnsR w' B v (sortL rs) ∧ Below B W w' := by
  have hlen := szL_len hs
  by_cases h0 : rs = []
  · subst h0
    obtain ⟨a, cap, rfl⟩ := ownsR_len h
    refine (AnyF.slices_SortFunc_none Try.sortRow a cap _ W).mono ?_
    rintro e w' ⟨rfl, rfl⟩
    exact ⟨rfl, h, Below.refl _ _⟩
  · obtain ⟨cs, vs, h1, h2, h3⟩ := h
    have hpos : 0 < rs.length := List.length_pos_iff.2 h0
    rcases h1.2 with ⟨_, hz⟩ | ⟨g, cap, cur, rfl, hb, hg, hn, hm, hcs, htake⟩
    · omega
    · have hel : ∀ j, (hj : j < rs.length) → OwnsN W B (vs j) (rs.getD j (0, [])).2 ∧ (rs.getD j (0, [])).2.length ≤ 1048576 ∧ (vs j).ownBlock ≠ some g := fun j hj => by
        obtain ⟨_, _, k3, k4⟩ := h2 j hj
        exact ⟨k3, szL_row hs hj, fun e => k4 g e rfl⟩
      obtain ⟨d, hd⟩ : ∃ d : Array (Elem W B g), d = Array.ofFn (fun j : Fin rs.length => mkE (rs.getD j (0, []), vs j) (hel j j.2)) := ⟨_, rfl⟩
      have hsz : d.size = rs.length := by rw [hd, Array.size_ofFn]
      have hat : ∀ j, j < rs.length → (d[j]!).1 = (rs.getD j (0, []), vs j) := fun j hj => by
        rw [getElem!_pos d j (by omega)]
        subst hd
        rw [Array.getElem_ofFn]
        rfl
      have hH : Sort.HoldsK encE 2 W g 0 d := by
        intro t ht
        rw [Sort.size_flatK, hsz] at ht
        refine ⟨?_, World.ownsRow.frozenAt h1 _⟩
        rw [Sort.get_flatK encE 2 d t (by omega), Nat.zero_add, World.ownsRow.cellAt h1 t (by omega)]
        obtain ⟨k1, k2, _⟩ := h2 (t / 2) (by omega)
        have hdt := hat (t / 2) (by omega)
        rcases Nat.mod_two_eq_zero_or_one t with e | e
        · rw [e]
          rw [show t / 2 * 2 = t by omega] at k1
          rw [k1]
          simp [encE, hdt]
        · rw [e]
          rw [show t / 2 * 2 + 1 = t by omega] at k2
          rw [k2]
          simp [encE, hdt]
      have hgl : g < W.heap.size := (Array.getElem?_eq_some_iff.1 hg).1
      have hcon := AnyQ.slices_SortFunc Try.sortRow 2 Try.isAgg76 Try.sizeOf76 (encE (W := W) (B := B) (g := g)) (fun _ => rfl) oneE cfE (swoE W B g) 53 #[] g 0 cap d W (enters_of Try.func53 (by kernel_rfl) rfl) (cmpLaysE W B g d.size) hH hgl (by omega)
      rw [hsz] at hcon
      refine hcon.mono ?_
      rintro e w' ⟨rfl, d', n, os, ⟨hps, _, hperm⟩, hsort, rfl⟩
      rw [hsz] at hps
      have he : d'.extract 0 rs.length = d' := by rw [← hps]; exact Array.extract_size
      have he2 : d.extract 0 rs.length = d := by rw [← hsz]; exact Array.extract_size
      rw [he, he2] at hperm
      have hmap : d.toList.map (fun x => x.1.1) = rs := by
        apply List.ext_getElem
        · simp [hsz]
        · intro i i1 i2
          have := hat i (by simpa using i2)
          rw [getElem!_pos d i (by omega)] at this
          rw [List.getElem_map, Array.getElem_toList, this, getD_at (by simpa using i2)]
      have hrows : d'.toList.map (fun x => x.1.1) = sortL rs := by
        refine sortL_unique ?_ ?_
        · have := hperm.map (fun x : Elem W B g => x.1.1)
          rwa [hmap] at this
        · refine List.pairwise_map.2 (List.pairwise_iff_getElem.2 fun i j hi hj hij => ?_)
          have := hsort i j (Nat.zero_le _) hij (by simpa [hps] using hj)
          rw [ltE, getElem!_pos d' j (by simpa using hj), getElem!_pos d' i (by simpa using hi)] at this
          simpa using this
      have hlen' : (sortL rs).length = rs.length := (sortL_perm rs).length_eq
      have hat' : ∀ j, j < rs.length → (d'[j]!).1.1 = (sortL rs).getD j (0, []) := fun j hj => by
        rw [getElem!_pos d' j (by omega), getD_at (by omega)]
        have : (sortL rs)[j]'(by omega) = (d'.toList.map (fun x => x.1.1))[j]'(by simp; omega) := by simp only [hrows]
        rw [this]
        simp
      have hdis : d'.toList.Pairwise (fun x y => ∀ b, x.1.2.ownBlock = some b → y.1.2.ownBlock ≠ some b) := by
        refine List.Pairwise.perm ?_ hperm.symm (fun {x y} hxy b hy hx => hxy b hx hy)
        refine List.pairwise_iff_getElem.2 fun i j hi hj hij => ?_
        have hi' : i < rs.length := by simpa [hsz] using hi
        have hj' : j < rs.length := by simpa [hsz] using hj
        have a1 := hat i hi'
        have a2 := hat j hj'
        rw [getElem!_pos d i (by omega)] at a1
        rw [getElem!_pos d j (by omega)] at a2
        rw [Array.getElem_toList, Array.getElem_toList, a1, a2]
        exact h3 i j hi' hj' (by omega)
      refine ⟨rfl, ⟨(Sort.flatK encE 2 d').toList, fun j => (d'[j]!).1.2, ?_, ?_, ?_⟩, below_sortW n d' os hb hB⟩
      · rw [hlen']
        refine ⟨by simp [Sort.size_flatK, hps], .inr ⟨g, cap, _, rfl, hb, heap_sortG n d' os hg, hn, hm, ?_, ?_⟩⟩
        · simp [Sort.putCells, hcs]
        · apply List.ext_getElem
          · simp [Sort.putCells, Sort.size_flatK, hps, hcs]; omega
          · intro i i1 i2
            have hi2 : i < rs.length * 2 := by simpa [Sort.size_flatK, hps] using i2
            rw [List.getElem_take, Array.getElem_toList, Array.getElem_toList]
            have hif : i < (Sort.flatK encE 2 d').size := by rw [Sort.size_flatK, hps]; exact hi2
            simp only [Sort.putCells, Array.getElem_mapIdx, Nat.zero_le, true_and, Nat.zero_add, hif, if_true, Nat.sub_zero, id]
            rw [getElem!_pos (Sort.flatK encE 2 d') i hif]
      · intro j hj
        rw [hlen'] at hj
        obtain ⟨f0, f1⟩ := flat_even d' (j := j) (by omega)
        have ha := hat' j hj
        refine ⟨by rw [f0, ha], f1, ?_, ?_⟩
        · have := ownsN_sortW n d' os (d'[j]!).2.1 (d'[j]!).2.2.2
          rwa [ha] at this
        · intro b hb1 hb2
          have : b = g := by simpa [Value.ownBlock] using hb2.symm
          subst this
          exact (d'[j]!).2.2.2 hb1
      · intro i j hi hj hij b hb1
        rw [hlen'] at hi hj
        have key : ∀ p q, p < q → q < rs.length → ∀ b, (d'[p]!).1.2.ownBlock = some b → (d'[q]!).1.2.ownBlock ≠ some b := fun p q hpq hq b => by
          have := List.pairwise_iff_getElem.1 hdis p q (by simp; omega) (by simp; omega) hpq b
          rw [getElem!_pos d' p (by omega), getElem!_pos d' q (by omega)]
          simpa using this
        rcases Nat.lt_or_gt_of_ne hij with hlt | hgt
        · exact key i j hlt hj b hb1
        · intro hb2
          exact key j i hgt hi b hb2 hb1
set_option maxHeartbeats 2000000 in
set_option maxRecDepth 100000 in
theorem implSortRows (v : Value) (rs : List RowD) (w : World) (h : RowsR w v rs) (hs : szL rs ≤ 1048576) :
    Calls Try.prog 15 #[v] w (FreshRows w (sortL rs)) := by
  have HC := Lib.hid (fun w h => copyRows_any v rs w h hs)
  have HS := Lib.hid (fun (W : World) (B : Nat) (v : Value) h hB => sortRows_own (W := W) (B := B) (v := v) (rs := rs) h hs hB)
  have H := Lib.hid h
  clear h hs
  go_enter Try.func15, Try.ntmps15
  go_wp2_with fail
  refine (HC.out _ H.out).mono ?_
  rintro e w1 ⟨u, rfl, ou, b1⟩
  go_wp2_with fail
  refine (HS.out _ _ _ ou b1.size).mono ?_
  rintro e w2 ⟨rfl, o2, b2⟩
  have b3 := b1.trans b2
  clear ou b1 b2
  go_wp2
  go_ret
  exact ⟨_, rfl, o2, b3⟩
end Go.Proofs.Ytginjmnohnidiaa
