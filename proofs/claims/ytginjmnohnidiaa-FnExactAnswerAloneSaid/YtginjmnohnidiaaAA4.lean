/-
  Texts of the proof, merged: RowSort, AnswerSpec, RowLawSort, AnswerLaw, RowOrd, RowEqP, RowCmp, SpanVal, SpanSl, FindSpec, CopyP, RowCopyP, RowSortP.
-/
import Derived.Test.YtginjmnohnidiaaAA3
import Derived.Test.YtginjmnohnidiaaShelf
import Derived.Test.YtginjmnohnidiaaSortShelf
import Derived.Lib.Small
import Derived.Sort.Grow
namespace Go.Proofs.Ytginjmnohnidiaa
open Go.RowKit
set_option linter.unusedVariables false
set_option linter.unusedSimpArgs false
theorem insAt_down {rs : List RowD} {r : RowD} {m : Nat} (h : rowLess r (rs.getD m (0, [])) = true) : insAt rs r (m + 1) = insAt rs r m := by
  simp only [insAt, h, if_true]
theorem insAt_stop {rs : List RowD} {r : RowD} {m : Nat} (h : rowLess r (rs.getD m (0, [])) = false) : insAt rs r (m + 1) = m + 1 := by
  simp only [insAt, h]
  rfl
theorem ownsR_empty (w : World) : OwnsR (w.alloc (.cells #[] 76)) w.heap.size (.slice (some ⟨w.heap.size, 0, none⟩) 0 0) [] := by
  refine ⟨[], fun _ => .slice none 0 0, ?_, fun j hj => by simp at hj, fun i j hi => by simp at hi⟩
  exact World.ownsRow_lit (e := 76) (size := 2) w #[] 0 (Nat.le_refl _) (by unfold maxLen; omega) rfl
theorem rowsC_form {w : World} {B : Nat} {v : Value} {n : Nat} {cs : List Value} (h : RowsC w B v n cs) (hn : 0 < n) : ∃ g cap, v = .slice (some ⟨g, 0, none⟩) n cap := by
  rcases h.2 with ⟨_, h0⟩ | ⟨g, cap, cur, hv, _⟩
  · omega
  · exact ⟨g, cap, hv⟩
theorem insert_end {W0 W1 W2 W3 W4 : World} {B p k : Nat} {v x1 x2 x3 vv : Value} {ss : List RowD} {vs : Nat → Value} {cs : List Value} {id : Int} {xs : List Int} {t : TypeId} {C : Array Value} (hp : p ≤ k) (hsl : ss.length = k)
    (h1 : W0.ownsRow B 76 2 v ss.length cs)
    (h2 : ∀ j, j < ss.length → cs[j * 2]? = some (.int .i64 (ss.getD j (0, [])).1) ∧ cs[j * 2 + 1]? = some (vs j) ∧ OwnsN W0 B (vs j) (ss.getD j (0, [])).2 ∧ ∀ b, (vs j).ownBlock = some b → v.ownBlock ≠ some b)
    (h3 : ∀ i j, i < ss.length → j < ss.length → i ≠ j → ∀ b, (vs i).ownBlock = some b → (vs j).ownBlock ≠ some b)
    (hB : B ≤ W0.heap.size) (b1 : W0.heap.size ≤ W1.heap.size) (hx1 : ∀ b, x1.ownBlock = some b → b < W1.heap.size) (oV : OwnsN W2 W1.heap.size vv xs)
    (g2 : (W2.alloc (.cells C t)).grownBy W3 x1.ownBlock) (hat2 : x2.ownBlock = x1.ownBlock ∨ x2.ownBlock = some (W2.heap.size + 1)) {ds : List Value}
    (hb3 : Below W0.heap.size W0 W3) (o2 : RowsC W3 W0.heap.size x2 (p + 1) (cs.take (p * 2) ++ [.int .i64 id, vv])) (g3 : W3.grownBy W4 x2.ownBlock) (hat3 : x3.ownBlock = x2.ownBlock ∨ x3.ownBlock = some W3.heap.size)
    (o3 : RowsC W4 W0.heap.size x3 (p + 1 + (k - p)) ds) (hds : ds = cs.take (p * 2) ++ [.int .i64 id, vv] ++ cs.drop (p * 2)) (hin : insAt ss (id, xs) k = p) :
    OwnsR W4 B x3 (insL ss (id, xs)) ∧ Below W0.heap.size W0 W4 := by
  subst hds
  have b4 : Below W0.heap.size W0 W4 := hb3.trans ((Below.refl W0.heap.size W3).grown g3 hb3.size (fun j hj => (o2.lt j hj).1))
  refine ⟨?_, b4⟩
  have hs2 : (W2.alloc (.cells C t)).heap.size = W2.heap.size + 1 := by simp [World.size_alloc]
  have hs3 := g2.size
  have vlt : ∀ b, vv.ownBlock = some b → W1.heap.size ≤ b ∧ b < W2.heap.size := fun b e => oV.lt b e
  have n1 : vv.ownBlock = none ∨ vv.ownBlock ≠ x1.ownBlock := by
    cases e : vv.ownBlock with
    | none => exact Or.inl rfl
    | some b => exact Or.inr (fun q => by have := hx1 b q.symm; have := (vlt b e).1; omega)
  have n2 : vv.ownBlock = none ∨ vv.ownBlock ≠ x2.ownBlock := by
    rcases hat2 with e | e
    · rw [e]; exact n1
    · cases e' : vv.ownBlock with
      | none => exact Or.inl rfl
      | some b => exact Or.inr (fun q => by rw [e] at q; have := Option.some.inj q; have := (vlt b e').2; omega)
  have v4 : OwnsN W4 W1.heap.size vv xs := World.ownsRow.kept (World.ownsRow.kept (World.ownsRow.alloc oV _) g2 n1) g3 n2
  have hne : ∀ b, vv.ownBlock = some b → x3.ownBlock ≠ some b := by
    intro b e q
    rcases hat3 with e3 | e3
    · rw [e3] at q
      rcases n2 with h | h
      · rw [h] at e; cases e
      · exact h (e.trans q.symm)
    · rw [e3] at q
      have := Option.some.inj q
      have := (vlt b e).2
      omega
  have hpl : p ≤ ss.length := by omega
  have e : p + 1 + (k - p) = ss.length + 1 := by omega
  rw [e] at o3
  have := insert_owns (r := (id, xs)) hpl h1 h2 h3 b4 hB o3 (ownsN_up v4 b1) hne
  unfold insL
  rw [hsl, hin]
  exact this
set_option maxHeartbeats 8000000 in
set_option maxRecDepth 100000 in
theorem specSortRows (v : Value) (rs : List RowD) (w : World) (h : RowsR w v rs) (hs : szL rs ≤ 1048576) :
    Calls Try.prog 13 #[v] w (FreshRows w (sortL rs)) := by
  have H := Lib.hid h
  have HS := Lib.hid hs
  have hlen := szL_len hs
  obtain ⟨a, cap, rfl⟩ := rowsR_len h
  clear h hs
  go_enter Try.func13, Try.ntmps13
  go_wp2
  have o1 := ownsR_empty w
  have b1 : Below w.heap.size w (w.alloc (.cells #[] 76)) := (Below.refl _ w).alloc (Nat.le_refl _) _
  go_loopw [3, 4] (fun o i wr => ∃ (k g cp : Nat), k ≤ rs.length ∧ i = .int .i64 k ∧ o = .slice (some ⟨g, 0, none⟩) k cp ∧ OwnsR wr w.heap.size (.slice (some ⟨g, 0, none⟩) k cp) (sortTo rs k) ∧ Below w.heap.size w wr) (fun _ i _ => rs.length - (intOf i).toNat)
  case atStart => exact ⟨0, _, _, Nat.zero_le _, rfl, rfl, o1, b1⟩
  case round =>
    obtain ⟨k, g, cp, hk, rfl, rfl, hown, hbel⟩ := hrel
    obtain ⟨W0, hW0⟩ : ∃ W0, W0 = wr := ⟨_, rfl⟩
    subst hW0
    clear o1 b1
    by_cases hlt : k < rs.length
    · obtain ⟨b, off, cap', vv, hv, hbl, hc1, hc2, hI⟩ := rowsR_at (rowsR_below H.out hbel) hlt
      simp only [Value.slice.injEq] at hv
      obtain ⟨rfl, _, rfl⟩ := hv
      have hxl := szL_row HS.out hlt
      have hsl := sortTo_len (a := rs) (k := k) hk
      have hsz := sortTo_sz (k := k) HS.out hk
      have HSTEP := Lib.hid (sortTo_step hlt)
      have i1 : (0 : Int) ≤ (k : Int) := by omega
      have i2 : (k : Int) < (rs.length : Int) := by omega
      generalize hss : sortTo rs k = ss at *
      generalize hr : rs.getD k (0, []) = r at *
      obtain ⟨cs, vs, h1, h2, h3⟩ := hown
      have H1 := Lib.hid h1
      have h1k := h1
      rw [hsl] at h1k
      have H1k := Lib.hid h1k
      have H2 := Lib.hid h2
      have H3 := Lib.hid h3
      have hgl := (h1.lt g rfl)
      have HL := Lib.hid (fun (j : Nat) (hj : j < ss.length) => szL_row hsz hj)
      have HLESS := Lib.hid (fun (q : RowD) (u : Value) (w : World) (hI : Ints w vv r.2) (g : Ints w u q.2) (hq : q.2.length ≤ 1048576) => l3Less_any r.1 q.1 vv u r.2 q.2 w hI g hxl hq)
      clear hss hr h1 h2 h3 hsz h1k
      obtain ⟨id, xs⟩ := r
      simp only at hc1 hc2 hI hxl HLESS
      have HI := Lib.hid hI
      go_wp2
      go_loopw [5] (fun q wr2 => ∃ p : Nat, p ≤ k ∧ q = .int .i64 p ∧ Hid (insAt ss (id, xs) p = insAt ss (id, xs) k) ∧ Below W0.heap.size W0 wr2) (fun q _ => (intOf q).toNat)
      case atStart => exact ⟨k, Nat.le_refl _, rfl, Lib.hid rfl, Below.refl _ _⟩
      case round =>
        obtain ⟨p, hp, rfl, hin, hb2⟩ := hrel
        have hc1' := (hb2.cell (p := ⟨b, off + k * 2, none⟩) hbl).trans hc1
        have hc2' := (hb2.cell (p := ⟨b, off + k * 2 + 1, none⟩) hbl).trans hc2
        by_cases hz : p = 0
        · have HP : Hid (insAt ss (id, xs) k = p) := Lib.hid (hin.out.symm.trans (by rw [hz]; rfl))
          have hg : decide ((0 : Int) < (p : Int)) = false := decide_eq_false (by omega)
          have hgn : decide (0 < p) = false := decide_eq_false (by omega)
          clear hz hc1' hc2'
          go_wp2
          refine wp_region_held_drew (S := fun _ => True) (by kernel_rfl) trivial (fun hHeld => ?_)
          refine take_runs (i := 0) (v := ?_) (by simp only [List.getElem?_toArray, List.getElem?_cons_succ, List.getElem?_cons_zero]; rfl) (by kernel_rfl) (by kernel_rfl) (by kernel_rfl) rfl (by exact fun _ _ _ h => h) (by rfl) ?_ (by assumption) ?_
          rotate_left
          · intro w hSw; (try dsimp only at hSw); go_simp; try (with_reducible rfl)
          try simp only [Act.put, List.setIfInBounds_toArray, List.set_cons_zero, List.set_cons_succ]
          refine take_runs (i := 1) (v := ?_) (by simp only [List.getElem?_toArray, List.getElem?_cons_succ, List.getElem?_cons_zero]; rfl) (by kernel_rfl) (by kernel_rfl) (by kernel_rfl) rfl (by exact fun _ _ _ h => h) (by rfl) ?_ (by assumption) ?_
          rotate_left
          · intro w hSw; (try dsimp only at hSw); go_simp; try (with_reducible rfl)
          try simp only [Act.put, List.setIfInBounds_toArray, List.set_cons_zero, List.set_cons_succ]
          refine take_runs (i := 2) (v := ?_) (by simp only [List.getElem?_toArray, List.getElem?_cons_succ, List.getElem?_cons_zero]; rfl) (by kernel_rfl) (by kernel_rfl) (by kernel_rfl) rfl (by exact fun _ _ _ h => h) (by rfl) ?_ (by assumption) ?_
          rotate_left
          · intro w hSw; (try dsimp only at hSw); go_simp; try (with_reducible rfl)
          try simp only [Act.put, List.setIfInBounds_toArray, List.set_cons_zero, List.set_cons_succ]
          refine take_over (i := 3) (by simp only [List.getElem?_toArray, List.getElem?_cons_succ, List.getElem?_cons_zero]; rfl) (by kernel_rfl) (by kernel_rfl) (by kernel_rfl) rfl (by exact fun _ _ _ h => h) (by rfl) (by assumption) ?_
          try simp only [Act.put, List.setIfInBounds_toArray, List.set_cons_zero, List.set_cons_succ]
          refine take_over (i := 4) (by simp only [List.getElem?_toArray, List.getElem?_cons_succ, List.getElem?_cons_zero]; rfl) (by kernel_rfl) (by kernel_rfl) (by kernel_rfl) rfl (by exact fun _ _ _ h => h) (by rfl) (by assumption) ?_
          try simp only [Act.put, List.setIfInBounds_toArray, List.set_cons_zero, List.set_cons_succ]
          refine take_over (i := 5) (by simp only [List.getElem?_toArray, List.getElem?_cons_succ, List.getElem?_cons_zero]; rfl) (by kernel_rfl) (by kernel_rfl) (by kernel_rfl) rfl (by exact fun _ _ _ h => h) (by rfl) (by assumption) ?_
          try simp only [Act.put, List.setIfInBounds_toArray, List.set_cons_zero, List.set_cons_succ]
          refine take_over (i := 6) (by simp only [List.getElem?_toArray, List.getElem?_cons_succ, List.getElem?_cons_zero]; rfl) (by kernel_rfl) (by kernel_rfl) (by kernel_rfl) rfl (by exact fun _ _ _ h => h) (by rfl) (by assumption) ?_
          try simp only [Act.put, List.setIfInBounds_toArray, List.set_cons_zero, List.set_cons_succ]
          refine take_over (i := 7) (by simp only [List.getElem?_toArray, List.getElem?_cons_succ, List.getElem?_cons_zero]; rfl) (by kernel_rfl) (by kernel_rfl) (by kernel_rfl) rfl (by exact fun _ _ _ h => h) (by rfl) (by assumption) ?_
          try simp only [Act.put, List.setIfInBounds_toArray, List.set_cons_zero, List.set_cons_succ]
          refine take_over (i := 8) (by simp only [List.getElem?_toArray, List.getElem?_cons_succ, List.getElem?_cons_zero]; rfl) (by kernel_rfl) (by kernel_rfl) (by kernel_rfl) rfl (by exact fun _ _ _ h => h) (by rfl) (by assumption) ?_
          try simp only [Act.put, List.setIfInBounds_toArray, List.set_cons_zero, List.set_cons_succ]
          refine take_over (i := 9) (by simp only [List.getElem?_toArray, List.getElem?_cons_succ, List.getElem?_cons_zero]; rfl) (by kernel_rfl) (by kernel_rfl) (by kernel_rfl) rfl (by exact fun _ _ _ h => h) (by rfl) (by assumption) ?_
          try simp only [Act.put, List.setIfInBounds_toArray, List.set_cons_zero, List.set_cons_succ]
          refine take_over (i := 10) (by simp only [List.getElem?_toArray, List.getElem?_cons_succ, List.getElem?_cons_zero]; rfl) (by kernel_rfl) (by kernel_rfl) (by kernel_rfl) rfl (by exact fun _ _ _ h => h) (by rfl) (by assumption) ?_
          try simp only [Act.put, List.setIfInBounds_toArray, List.set_cons_zero, List.set_cons_succ]
          refine take_over (i := 11) (by simp only [List.getElem?_toArray, List.getElem?_cons_succ, List.getElem?_cons_zero]; rfl) (by kernel_rfl) (by kernel_rfl) (by kernel_rfl) rfl (by exact fun _ _ _ h => h) (by rfl) (by assumption) ?_
          try simp only [Act.put, List.setIfInBounds_toArray, List.set_cons_zero, List.set_cons_succ]
          refine take_over (i := 12) (by simp only [List.getElem?_toArray, List.getElem?_cons_succ, List.getElem?_cons_zero]; rfl) (by kernel_rfl) (by kernel_rfl) (by kernel_rfl) rfl (by exact fun _ _ _ h => h) (by rfl) (by assumption) ?_
          try simp only [Act.put, List.setIfInBounds_toArray, List.set_cons_zero, List.set_cons_succ]
          refine take_runs (i := 13) (v := ?_) (by simp only [List.getElem?_toArray, List.getElem?_cons_succ, List.getElem?_cons_zero]; rfl) (by kernel_rfl) (by kernel_rfl) (by kernel_rfl) rfl (by exact fun _ _ _ h => h) (by rfl) ?_ (by assumption) ?_
          rotate_left
          · intro w hSw; (try dsimp only at hSw); go_simp; try (with_reducible rfl)
          try simp only [Act.put, List.setIfInBounds_toArray, List.set_cons_zero, List.set_cons_succ]
          refine wpAnyH_done (by kernel_rfl) ?_ _
          have b11 : Below W0.heap.size W0 wr.drew := below_drew hb2
          clear hHeld hg hgn hb2
          generalize wr.drew = w8 at *
          have hkc : k ≤ cp := by
            rcases H1k.out.2 with ⟨hn, _⟩ | ⟨g', cap', cur, e, _, _, hn, _⟩
            · simp at hn
            · simp only [Value.slice.injEq] at e; omega
          have j3 : (0 : Int) ≤ (p : Int) := by omega
          have j4 : (p : Int) ≤ (cp : Int) := by omega
          have j5 : (p : Int) ≤ (k : Int) := by omega
          have hcl : cs.length = k * 2 := H1k.out.1
          have hone := rows_one (by rw [hsl]; exact hcl) (fun j hj => ⟨(H2.out j hj).1, (H2.out j hj).2.1, (H2.out j hj).2.2.1⟩)
          have HONE := Lib.hid hone
          have HCS := Lib.hid (fun w hb => rows_cells H1k.out (w := w) hb)
          have oX0 : RowsC (w8.alloc (.cells #[] 76)) W0.heap.size (.slice (some ⟨w8.heap.size, 0, none⟩) 0 0) 0 [] := World.ownsRow_lit (e := 76) (size := 2) w8 #[] 0 b11.size (by unfold maxLen; omega) rfl
          have bX0 : Below W0.heap.size W0 (w8.alloc (.cells #[] 76)) := b11.alloc b11.size _
          clear hone
          go_wp2_with (at_builtin; refine append_rows rfl (.tmp 32) (.tmp 35) rfl W0.heap.size _ 0 [] rfl oX0 bX0.size ⟨g, 0, none⟩ p cp (cs.take (p * 2)) rfl (by rw [List.length_take]; omega) (fun j u hj => HCS.out _ bX0 j u (by rw [List.getElem?_take] at hj; split at hj; exact hj; cases hj)) (fun u hu => HONE.out u (List.mem_of_mem_take hu)) (by omega) ?_)
          intro x1 W1 oX1 gX1 _ hat1
          have bel1 : Below w8.heap.size w8 W1 := ((Below.refl _ w8).alloc (Nat.le_refl _) _).grown gX1 (by simp) (fun k hk => by simp [Value.ownBlock] at hk; omega)
          have B1 := b11.trans (bel1.mono b11.size)
          have oX1' : RowsC W1 W0.heap.size x1 p (cs.take (p * 2)) := by simpa using oX1
          have hc1w := (B1.cell (p := ⟨b, off + k * 2, none⟩) hbl).trans hc1
          have hc2w := (B1.cell (p := ⟨b, off + k * 2 + 1, none⟩) hbl).trans hc2
          have HI1 := Lib.hid (ints_below HI.out B1)
          have hx1 : Hid (∀ b, x1.ownBlock = some b → b < W1.heap.size) := Lib.hid (fun b e => (oX1'.lt b e).2)
          clear oX1 gX1 oX0 bX0 hat1
          go_wp2_with fail
          refine (l3Copy_any id vv xs W1 HI1.out hxl).mono ?_
          rintro e W2 ⟨uu2, rfl, oV, bel2⟩
          obtain ⟨va, vc, rfl⟩ := ints_len (ownsN_ints oV)
          have B2 := B1.trans (bel2.mono B1.size)
          have oX1b : RowsC (W2.alloc (.cells #[.int .i64 id, .slice va xs.length vc] 76)) W0.heap.size x1 p (cs.take (p * 2)) := World.ownsRow.alloc (rowsC_kept oX1' bel2) _
          have B2a := B2.alloc B2.size (.cells #[.int .i64 id, .slice va xs.length vc] 76)
          clear hc1w hc2w
          go_wp2_with (at_builtin; refine append_rows rfl (.tmp 37) (.tmp 43) rfl W0.heap.size x1 p _ rfl oX1b B2a.size ⟨W2.heap.size, 0, none⟩ 1 1 [.int .i64 id, .slice va xs.length vc] rfl rfl (fun j u hj => by rw [Go.WideShapes.add_plain, Nat.zero_add, cell_lit]; simpa using hj) (by intro u hu; simp at hu; rcases hu with rfl | rfl <;> rfl) (by omega) ?_)
          intro x2 W3 oX2 gX2 _ hat2
          have bel3 := (Below.refl W0.heap.size (W2.alloc (.cells #[.int .i64 id, .slice va xs.length vc] 76))).grown gX2 B2a.size (fun k hk => (oX1b.lt k hk).1)
          have B3 := B2a.trans bel3
          have hdl : (cs.drop (p * 2)).length = (k - p) * 2 := by rw [List.length_drop]; omega
          have HNW := Lib.hid (fun (j : Nat) (u : Value) (hj : (cs.drop (p * 2))[j]? = some u) => show W3.cell? ((⟨g, p * 2, none⟩ : Addr).add j) = some u by
            rw [List.getElem?_drop] at hj
            have := HCS.out W3 B3 (p * 2 + j) u hj
            rw [Go.WideShapes.add_plain, Nat.zero_add] at this
            rw [Go.WideShapes.add_plain]; exact this)
          have oX2' : RowsC W3 W0.heap.size x2 (p + 1) (cs.take (p * 2) ++ [.int .i64 id, .slice va xs.length vc]) := oX2
          by_cases hpc : cp = p
          · have hdn : cs.drop (p * 2) = [] := List.eq_nil_of_length_eq_zero (by omega)
            have hq3 : cp - p = 0 := by omega
            go_wp2_with (at_builtin; refine append_rows rfl (.tmp 45) (.tmp 48) rfl W0.heap.size x2 (p + 1) _ rfl oX2' B3.size ⟨g, 0, none⟩ (k - p) 0 (cs.drop (p * 2)) (by first | rfl | (simp; done)) hdl (fun j u hj => by rw [hdn] at hj; cases hj) (fun u hu => HONE.out u (List.mem_of_mem_drop hu)) (by omega) ?_)
            intro x3 W4 oX3 gX3 _ hat3
            obtain ⟨FO, FB⟩ := insert_end hp hsl H1.out H2.out H3.out hbel.size B1.size hx1.out oV gX2 hat2 B3 oX2' gX3 hat3 oX3 (by simp [hdn]) HP.out
            obtain ⟨g3, cp3, rfl⟩ := rowsC_form oX3 (by omega)
            rw [show p + 1 + (k - p) = k + 1 by omega] at FO
            have FB2 := hbel.trans (FB.mono hbel.size)
            have e9 : p + 1 + (k - p) = k + 1 := by omega
            rw [e9]
            clear oX3 gX3 hat3
            go_wp2
            go_roundw
            case rel => exact ⟨k + 1, g3, cp3, by omega, by go_num, rfl, by rw [HSTEP.out]; exact FO, FB2⟩
            case measure => simp [intOf]; omega
          · have hq2 : ¬ p = cp := fun e => hpc e.symm
            have hq3 : ¬ cp - p = 0 := by omega
            have hq4 : p < cp := by omega
            have hq5 : ¬ cp ≤ p := by omega
            go_wp2_with (at_builtin; refine append_rows rfl (.tmp 45) (.tmp 48) rfl W0.heap.size x2 (p + 1) _ rfl oX2' B3.size ⟨g, p * 2, none⟩ (k - p) (cp - p) (cs.drop (p * 2)) (by first | rfl | (simp; done)) hdl HNW.out (fun u hu => HONE.out u (List.mem_of_mem_drop hu)) (by omega) ?_)
            intro x3 W4 oX3 gX3 _ hat3
            obtain ⟨FO, FB⟩ := insert_end hp hsl H1.out H2.out H3.out hbel.size B1.size hx1.out oV gX2 hat2 B3 oX2' gX3 hat3 oX3 (by simp) HP.out
            obtain ⟨g3, cp3, rfl⟩ := rowsC_form oX3 (by omega)
            rw [show p + 1 + (k - p) = k + 1 by omega] at FO
            have FB2 := hbel.trans (FB.mono hbel.size)
            have e9 : p + 1 + (k - p) = k + 1 := by omega
            rw [e9]
            clear oX3 gX3 hat3
            go_wp2
            go_roundw
            case rel => exact ⟨k + 1, g3, cp3, by omega, by go_num, rfl, by rw [HSTEP.out]; exact FO, FB2⟩
            case measure => simp [intOf]; omega
        · obtain ⟨m, hpm⟩ : ∃ m, p = m + 1 := ⟨p - 1, by omega⟩
          have hms : m < ss.length := by omega
          obtain ⟨q1, q2, q3, _⟩ := H2.out m hms
          have d1 := (hb2.cell (p := ⟨g, m * 2, none⟩) hgl.2).trans ((World.ownsRow.cellAt H1k.out (m * 2) (by omega)).trans q1)
          have d2 := (hb2.cell (p := ⟨g, m * 2 + 1, none⟩) hgl.2).trans ((World.ownsRow.cellAt H1k.out (m * 2 + 1) (by omega)).trans q2)
          have hJ := Lib.hid (ints_below (ownsN_ints q3) hb2)
          have hI2 := Lib.hid (ints_below HI.out hb2)
          have hyl := HL.out m hms
          have HX := Lib.hid (fun w hI g => HLESS.out (ss.getD m (0, [])) (vs m) w hI g hyl)
          have hg : decide ((0 : Int) < (p : Int)) = true := decide_eq_true (by omega)
          have hgn : decide (0 < p) = true := decide_eq_true (by omega)
          have j1 : (0 : Int) ≤ (m : Int) := by omega
          have j2 : (m : Int) < (k : Int) := by omega
          have hsub : IntKind.i64.wrap ((p : Int) - 1) = (m : Int) := by rw [IntWalk.i64_in _ (by omega)]; omega
          have HDN := Lib.hid (insAt_down (rs := ss) (r := (id, xs)) (m := m))
          have HST := Lib.hid (insAt_stop (rs := ss) (r := (id, xs)) (m := m))
          have HPM := Lib.hid hpm
          clear q1 q2 q3 hz hpm
          have er : (((ss.getD m (0, [])).1, (ss.getD m (0, [])).2) : RowD) = ss.getD m (0, []) := rfl
          rw [er] at HX
          cases hless : rowLess (id, xs) (ss.getD m (0, [])) with
          | true =>
            have HA : Hid (insAt ss (id, xs) m = insAt ss (id, xs) k) := Lib.hid ((HDN.out hless).symm.trans ((congrArg _ HPM.out.symm).trans hin.out))
            rw [hless] at HX
            clear hless er HDN HST
            generalize (ss.getD m (0, [])).1 = id2 at *
            generalize (ss.getD m (0, [])).2 = ys at *
            generalize vs m = uu at *
            go_wp2
            refine wp_region_held_drew (S := fun w' => w'.cell? ⟨b, off + k * 2, none⟩ = some (.int .i64 id) ∧ w'.cell? ⟨b, off + k * 2 + 1, none⟩ = some vv ∧ w'.cell? ⟨g, m * 2, none⟩ = some (.int .i64 id2) ∧ w'.cell? ⟨g, m * 2 + 1, none⟩ = some uu) (by kernel_rfl) ⟨hc1', hc2', d1, d2⟩ (fun hHeld => ?_)
            refine take_runs (i := 0) (v := ?_) (by simp only [List.getElem?_toArray, List.getElem?_cons_succ, List.getElem?_cons_zero]; rfl) (by kernel_rfl) (by kernel_rfl) (by kernel_rfl) rfl (by exact fun _ _ _ h => h) (by rfl) ?_ (by assumption) ?_
            rotate_left
            · intro w hSw; (try dsimp only at hSw); go_simp; try (with_reducible rfl)
            try simp only [Act.put, List.setIfInBounds_toArray, List.set_cons_zero, List.set_cons_succ]
            refine take_runs (i := 1) (v := ?_) (by simp only [List.getElem?_toArray, List.getElem?_cons_succ, List.getElem?_cons_zero]; rfl) (by kernel_rfl) (by kernel_rfl) (by kernel_rfl) rfl (by exact fun _ _ _ h => h) (by rfl) ?_ (by assumption) ?_
            rotate_left
            · intro w hSw; (try dsimp only at hSw); go_simp; try (with_reducible rfl)
            try simp only [Act.put, List.setIfInBounds_toArray, List.set_cons_zero, List.set_cons_succ]
            refine take_runs (i := 2) (v := ?_) (by simp only [List.getElem?_toArray, List.getElem?_cons_succ, List.getElem?_cons_zero]; rfl) (by kernel_rfl) (by kernel_rfl) (by kernel_rfl) rfl (by exact fun _ _ _ h => h) (by rfl) ?_ (by assumption) ?_
            rotate_left
            · intro w hSw; (try dsimp only at hSw); go_simp; try (with_reducible rfl)
            try simp only [Act.put, List.setIfInBounds_toArray, List.set_cons_zero, List.set_cons_succ]
            refine take_runs (i := 3) (v := ?_) (by simp only [List.getElem?_toArray, List.getElem?_cons_succ, List.getElem?_cons_zero]; rfl) (by kernel_rfl) (by kernel_rfl) (by kernel_rfl) rfl (by exact fun _ _ _ h => h) (by rfl) ?_ (by assumption) ?_
            rotate_left
            · intro w hSw; (try dsimp only at hSw); go_simp; try (with_reducible rfl)
            try simp only [Act.put, List.setIfInBounds_toArray, List.set_cons_zero, List.set_cons_succ]
            refine take_runs (i := 4) (v := ?_) (by simp only [List.getElem?_toArray, List.getElem?_cons_succ, List.getElem?_cons_zero]; rfl) (by kernel_rfl) (by kernel_rfl) (by kernel_rfl) rfl (by exact fun _ _ _ h => h) (by rfl) ?_ (by assumption) ?_
            rotate_left
            · intro w hSw; (try dsimp only at hSw); go_simp; try (with_reducible rfl)
            try simp only [Act.put, List.setIfInBounds_toArray, List.set_cons_zero, List.set_cons_succ]
            refine take_runs (i := 5) (v := ?_) (by simp only [List.getElem?_toArray, List.getElem?_cons_succ, List.getElem?_cons_zero]; rfl) (by kernel_rfl) (by kernel_rfl) (by kernel_rfl) rfl (by exact fun _ _ _ h => h) (by rfl) ?_ (by assumption) ?_
            rotate_left
            · intro w hSw; (try dsimp only at hSw); go_simp; try (with_reducible rfl)
            try simp only [Act.put, List.setIfInBounds_toArray, List.set_cons_zero, List.set_cons_succ]
            refine take_runs (i := 6) (v := ?_) (by simp only [List.getElem?_toArray, List.getElem?_cons_succ, List.getElem?_cons_zero]; rfl) (by kernel_rfl) (by kernel_rfl) (by kernel_rfl) rfl (by exact fun _ _ _ h => h) (by rfl) ?_ (by assumption) ?_
            rotate_left
            · intro w hSw; (try dsimp only at hSw); go_simp; try (with_reducible rfl)
            try simp only [Act.put, List.setIfInBounds_toArray, List.set_cons_zero, List.set_cons_succ]
            refine take_runs (i := 7) (v := ?_) (by simp only [List.getElem?_toArray, List.getElem?_cons_succ, List.getElem?_cons_zero]; rfl) (by kernel_rfl) (by kernel_rfl) (by kernel_rfl) rfl (by exact fun _ _ _ h => h) (by rfl) ?_ (by assumption) ?_
            rotate_left
            · intro w hSw; (try dsimp only at hSw); go_simp; try (with_reducible rfl)
            try simp only [Act.put, List.setIfInBounds_toArray, List.set_cons_zero, List.set_cons_succ]
            refine take_runs (i := 8) (v := ?_) (by simp only [List.getElem?_toArray, List.getElem?_cons_succ, List.getElem?_cons_zero]; rfl) (by kernel_rfl) (by kernel_rfl) (by kernel_rfl) rfl (by exact fun _ _ _ h => h) (by rfl) ?_ (by assumption) ?_
            rotate_left
            · intro w hSw; (try dsimp only at hSw); go_simp; try (with_reducible rfl)
            try simp only [Act.put, List.setIfInBounds_toArray, List.set_cons_zero, List.set_cons_succ]
            refine take_runs (i := 9) (v := ?_) (by simp only [List.getElem?_toArray, List.getElem?_cons_succ, List.getElem?_cons_zero]; rfl) (by kernel_rfl) (by kernel_rfl) (by kernel_rfl) rfl (by exact fun _ _ _ h => h) (by rfl) ?_ (by assumption) ?_
            rotate_left
            · intro w hSw; (try dsimp only at hSw); go_simp; try (with_reducible rfl)
            try simp only [Act.put, List.setIfInBounds_toArray, List.set_cons_zero, List.set_cons_succ]
            refine take_runs (i := 10) (v := ?_) (by simp only [List.getElem?_toArray, List.getElem?_cons_succ, List.getElem?_cons_zero]; rfl) (by kernel_rfl) (by kernel_rfl) (by kernel_rfl) rfl (by exact fun _ _ _ h => h) (by rfl) ?_ (by assumption) ?_
            rotate_left
            · intro w hSw; (try dsimp only at hSw); go_simp; try (with_reducible rfl)
            try simp only [Act.put, List.setIfInBounds_toArray, List.set_cons_zero, List.set_cons_succ]
            refine take_runs (i := 11) (v := ?_) (by simp only [List.getElem?_toArray, List.getElem?_cons_succ, List.getElem?_cons_zero]; rfl) (by kernel_rfl) (by kernel_rfl) (by kernel_rfl) rfl (by exact fun _ _ _ h => h) (by rfl) ?_ (by assumption) ?_
            rotate_left
            · intro w hSw; (try dsimp only at hSw); go_simp; try (with_reducible rfl)
            try simp only [Act.put, List.setIfInBounds_toArray, List.set_cons_zero, List.set_cons_succ]
            refine wpAnyH_ready (rs := [12]) (by kernel_rfl) (by simp) ?_
            refine AllReadyH.cons (o := _) (by simp only [List.getElem?_toArray, List.getElem?_cons_succ, List.getElem?_cons_zero]; rfl) (fun K hK => ?_) AllReadyH.nil
            go_simp
            refine (HX.out _ (by exact ints_heap hI2.out rfl) (by exact ints_heap hJ.out rfl)).mono ?_
            rintro e w8 ⟨rfl, b9⟩
            have b10 : Below wr.heap.size wr w8 := ⟨b9.os, b9.tape, b9.output, b9.size, b9.block⟩
            have s1 := (b10.cell (p := ⟨b, off + k * 2, none⟩) (Nat.lt_of_lt_of_le hbl hb2.size)).trans hc1'
            have s2 := (b10.cell (p := ⟨b, off + k * 2 + 1, none⟩) (Nat.lt_of_lt_of_le hbl hb2.size)).trans hc2'
            have s3 := (b10.cell (p := ⟨g, m * 2, none⟩) (Nat.lt_of_lt_of_le hgl.2 hb2.size)).trans d1
            have s4 := (b10.cell (p := ⟨g, m * 2 + 1, none⟩) (Nat.lt_of_lt_of_le hgl.2 hb2.size)).trans d2
            refine hK.out _ _ ⟨s1, s2, s3, s4⟩ (fun hHeld => ?_)
            clear hK K
            try simp only [Act.put, List.setIfInBounds_toArray, List.set_cons_zero, List.set_cons_succ]
            refine take_runs (i := 13) (v := ?_) (by simp only [List.getElem?_toArray, List.getElem?_cons_succ, List.getElem?_cons_zero]; rfl) (by kernel_rfl) (by kernel_rfl) (by kernel_rfl) rfl (by exact fun _ _ _ h => h) (by rfl) ?_ (by assumption) ?_
            rotate_left
            · intro w hSw; (try dsimp only at hSw); go_simp; try (with_reducible rfl)
            try simp only [Act.put, List.setIfInBounds_toArray, List.set_cons_zero, List.set_cons_succ]
            refine wpAnyH_done (by kernel_rfl) ?_ _
            have b11 := hb2.trans (b10.mono hb2.size)
            clear s1 s2 s3 s4 hHeld b9 b10
            go_wp2
            go_roundw
            case rel => exact ⟨m, by omega, rfl, HA, b11⟩
            case measure => have := HPM.out; simp [intOf]; omega
          | false =>
            have HP : Hid (insAt ss (id, xs) k = p) := Lib.hid (hin.out.symm.trans ((congrArg _ HPM.out).trans ((HST.out hless).trans HPM.out.symm)))
            rw [hless] at HX
            clear hless er HDN HST
            generalize (ss.getD m (0, [])).1 = id2 at *
            generalize (ss.getD m (0, [])).2 = ys at *
            generalize vs m = uu at *
            go_wp2
            refine wp_region_held_drew (S := fun w' => w'.cell? ⟨b, off + k * 2, none⟩ = some (.int .i64 id) ∧ w'.cell? ⟨b, off + k * 2 + 1, none⟩ = some vv ∧ w'.cell? ⟨g, m * 2, none⟩ = some (.int .i64 id2) ∧ w'.cell? ⟨g, m * 2 + 1, none⟩ = some uu) (by kernel_rfl) ⟨hc1', hc2', d1, d2⟩ (fun hHeld => ?_)
            refine take_runs (i := 0) (v := ?_) (by simp only [List.getElem?_toArray, List.getElem?_cons_succ, List.getElem?_cons_zero]; rfl) (by kernel_rfl) (by kernel_rfl) (by kernel_rfl) rfl (by exact fun _ _ _ h => h) (by rfl) ?_ (by assumption) ?_
            rotate_left
            · intro w hSw; (try dsimp only at hSw); go_simp; try (with_reducible rfl)
            try simp only [Act.put, List.setIfInBounds_toArray, List.set_cons_zero, List.set_cons_succ]
            refine take_runs (i := 1) (v := ?_) (by simp only [List.getElem?_toArray, List.getElem?_cons_succ, List.getElem?_cons_zero]; rfl) (by kernel_rfl) (by kernel_rfl) (by kernel_rfl) rfl (by exact fun _ _ _ h => h) (by rfl) ?_ (by assumption) ?_
            rotate_left
            · intro w hSw; (try dsimp only at hSw); go_simp; try (with_reducible rfl)
            try simp only [Act.put, List.setIfInBounds_toArray, List.set_cons_zero, List.set_cons_succ]
            refine take_runs (i := 2) (v := ?_) (by simp only [List.getElem?_toArray, List.getElem?_cons_succ, List.getElem?_cons_zero]; rfl) (by kernel_rfl) (by kernel_rfl) (by kernel_rfl) rfl (by exact fun _ _ _ h => h) (by rfl) ?_ (by assumption) ?_
            rotate_left
            · intro w hSw; (try dsimp only at hSw); go_simp; try (with_reducible rfl)
            try simp only [Act.put, List.setIfInBounds_toArray, List.set_cons_zero, List.set_cons_succ]
            refine take_runs (i := 3) (v := ?_) (by simp only [List.getElem?_toArray, List.getElem?_cons_succ, List.getElem?_cons_zero]; rfl) (by kernel_rfl) (by kernel_rfl) (by kernel_rfl) rfl (by exact fun _ _ _ h => h) (by rfl) ?_ (by assumption) ?_
            rotate_left
            · intro w hSw; (try dsimp only at hSw); go_simp; try (with_reducible rfl)
            try simp only [Act.put, List.setIfInBounds_toArray, List.set_cons_zero, List.set_cons_succ]
            refine take_runs (i := 4) (v := ?_) (by simp only [List.getElem?_toArray, List.getElem?_cons_succ, List.getElem?_cons_zero]; rfl) (by kernel_rfl) (by kernel_rfl) (by kernel_rfl) rfl (by exact fun _ _ _ h => h) (by rfl) ?_ (by assumption) ?_
            rotate_left
            · intro w hSw; (try dsimp only at hSw); go_simp; try (with_reducible rfl)
            try simp only [Act.put, List.setIfInBounds_toArray, List.set_cons_zero, List.set_cons_succ]
            refine take_runs (i := 5) (v := ?_) (by simp only [List.getElem?_toArray, List.getElem?_cons_succ, List.getElem?_cons_zero]; rfl) (by kernel_rfl) (by kernel_rfl) (by kernel_rfl) rfl (by exact fun _ _ _ h => h) (by rfl) ?_ (by assumption) ?_
            rotate_left
            · intro w hSw; (try dsimp only at hSw); go_simp; try (with_reducible rfl)
            try simp only [Act.put, List.setIfInBounds_toArray, List.set_cons_zero, List.set_cons_succ]
            refine take_runs (i := 6) (v := ?_) (by simp only [List.getElem?_toArray, List.getElem?_cons_succ, List.getElem?_cons_zero]; rfl) (by kernel_rfl) (by kernel_rfl) (by kernel_rfl) rfl (by exact fun _ _ _ h => h) (by rfl) ?_ (by assumption) ?_
            rotate_left
            · intro w hSw; (try dsimp only at hSw); go_simp; try (with_reducible rfl)
            try simp only [Act.put, List.setIfInBounds_toArray, List.set_cons_zero, List.set_cons_succ]
            refine take_runs (i := 7) (v := ?_) (by simp only [List.getElem?_toArray, List.getElem?_cons_succ, List.getElem?_cons_zero]; rfl) (by kernel_rfl) (by kernel_rfl) (by kernel_rfl) rfl (by exact fun _ _ _ h => h) (by rfl) ?_ (by assumption) ?_
            rotate_left
            · intro w hSw; (try dsimp only at hSw); go_simp; try (with_reducible rfl)
            try simp only [Act.put, List.setIfInBounds_toArray, List.set_cons_zero, List.set_cons_succ]
            refine take_runs (i := 8) (v := ?_) (by simp only [List.getElem?_toArray, List.getElem?_cons_succ, List.getElem?_cons_zero]; rfl) (by kernel_rfl) (by kernel_rfl) (by kernel_rfl) rfl (by exact fun _ _ _ h => h) (by rfl) ?_ (by assumption) ?_
            rotate_left
            · intro w hSw; (try dsimp only at hSw); go_simp; try (with_reducible rfl)
            try simp only [Act.put, List.setIfInBounds_toArray, List.set_cons_zero, List.set_cons_succ]
            refine take_runs (i := 9) (v := ?_) (by simp only [List.getElem?_toArray, List.getElem?_cons_succ, List.getElem?_cons_zero]; rfl) (by kernel_rfl) (by kernel_rfl) (by kernel_rfl) rfl (by exact fun _ _ _ h => h) (by rfl) ?_ (by assumption) ?_
            rotate_left
            · intro w hSw; (try dsimp only at hSw); go_simp; try (with_reducible rfl)
            try simp only [Act.put, List.setIfInBounds_toArray, List.set_cons_zero, List.set_cons_succ]
            refine take_runs (i := 10) (v := ?_) (by simp only [List.getElem?_toArray, List.getElem?_cons_succ, List.getElem?_cons_zero]; rfl) (by kernel_rfl) (by kernel_rfl) (by kernel_rfl) rfl (by exact fun _ _ _ h => h) (by rfl) ?_ (by assumption) ?_
            rotate_left
            · intro w hSw; (try dsimp only at hSw); go_simp; try (with_reducible rfl)
            try simp only [Act.put, List.setIfInBounds_toArray, List.set_cons_zero, List.set_cons_succ]
            refine take_runs (i := 11) (v := ?_) (by simp only [List.getElem?_toArray, List.getElem?_cons_succ, List.getElem?_cons_zero]; rfl) (by kernel_rfl) (by kernel_rfl) (by kernel_rfl) rfl (by exact fun _ _ _ h => h) (by rfl) ?_ (by assumption) ?_
            rotate_left
            · intro w hSw; (try dsimp only at hSw); go_simp; try (with_reducible rfl)
            try simp only [Act.put, List.setIfInBounds_toArray, List.set_cons_zero, List.set_cons_succ]
            refine wpAnyH_ready (rs := [12]) (by kernel_rfl) (by simp) ?_
            refine AllReadyH.cons (o := _) (by simp only [List.getElem?_toArray, List.getElem?_cons_succ, List.getElem?_cons_zero]; rfl) (fun K hK => ?_) AllReadyH.nil
            go_simp
            refine (HX.out _ (by exact ints_heap hI2.out rfl) (by exact ints_heap hJ.out rfl)).mono ?_
            rintro e w8 ⟨rfl, b9⟩
            have b10 : Below wr.heap.size wr w8 := ⟨b9.os, b9.tape, b9.output, b9.size, b9.block⟩
            have s1 := (b10.cell (p := ⟨b, off + k * 2, none⟩) (Nat.lt_of_lt_of_le hbl hb2.size)).trans hc1'
            have s2 := (b10.cell (p := ⟨b, off + k * 2 + 1, none⟩) (Nat.lt_of_lt_of_le hbl hb2.size)).trans hc2'
            have s3 := (b10.cell (p := ⟨g, m * 2, none⟩) (Nat.lt_of_lt_of_le hgl.2 hb2.size)).trans d1
            have s4 := (b10.cell (p := ⟨g, m * 2 + 1, none⟩) (Nat.lt_of_lt_of_le hgl.2 hb2.size)).trans d2
            refine hK.out _ _ ⟨s1, s2, s3, s4⟩ (fun hHeld => ?_)
            clear hK K
            try simp only [Act.put, List.setIfInBounds_toArray, List.set_cons_zero, List.set_cons_succ]
            refine take_runs (i := 13) (v := ?_) (by simp only [List.getElem?_toArray, List.getElem?_cons_succ, List.getElem?_cons_zero]; rfl) (by kernel_rfl) (by kernel_rfl) (by kernel_rfl) rfl (by exact fun _ _ _ h => h) (by rfl) ?_ (by assumption) ?_
            rotate_left
            · intro w hSw; (try dsimp only at hSw); go_simp; try (with_reducible rfl)
            try simp only [Act.put, List.setIfInBounds_toArray, List.set_cons_zero, List.set_cons_succ]
            refine wpAnyH_done (by kernel_rfl) ?_ _
            have b11 := hb2.trans (b10.mono hb2.size)
            clear s1 s2 s3 s4 hHeld b9 b10
            clear d1 d2 hJ hI2 HX hyl hg hgn j1 j2 hsub hc1' hc2'
            have hkc : k ≤ cp := by
              rcases H1k.out.2 with ⟨hn, _⟩ | ⟨g', cap', cur, e, _, _, hn, _⟩
              · simp at hn
              · simp only [Value.slice.injEq] at e; omega
            have j3 : (0 : Int) ≤ (p : Int) := by omega
            have j4 : (p : Int) ≤ (cp : Int) := by omega
            have j5 : (p : Int) ≤ (k : Int) := by omega
            have hcl : cs.length = k * 2 := H1k.out.1
            have hone := rows_one (by rw [hsl]; exact hcl) (fun j hj => ⟨(H2.out j hj).1, (H2.out j hj).2.1, (H2.out j hj).2.2.1⟩)
            have HONE := Lib.hid hone
            have HCS := Lib.hid (fun w hb => rows_cells H1k.out (w := w) hb)
            have oX0 : RowsC (w8.alloc (.cells #[] 76)) W0.heap.size (.slice (some ⟨w8.heap.size, 0, none⟩) 0 0) 0 [] := World.ownsRow_lit (e := 76) (size := 2) w8 #[] 0 b11.size (by unfold maxLen; omega) rfl
            have bX0 : Below W0.heap.size W0 (w8.alloc (.cells #[] 76)) := b11.alloc b11.size _
            clear hone
            go_wp2_with (at_builtin; refine append_rows rfl (.tmp 32) (.tmp 35) rfl W0.heap.size _ 0 [] rfl oX0 bX0.size ⟨g, 0, none⟩ p cp (cs.take (p * 2)) rfl (by rw [List.length_take]; omega) (fun j u hj => HCS.out _ bX0 j u (by rw [List.getElem?_take] at hj; split at hj; exact hj; cases hj)) (fun u hu => HONE.out u (List.mem_of_mem_take hu)) (by omega) ?_)
            intro x1 W1 oX1 gX1 _ hat1
            have bel1 : Below w8.heap.size w8 W1 := ((Below.refl _ w8).alloc (Nat.le_refl _) _).grown gX1 (by simp) (fun k hk => by simp [Value.ownBlock] at hk; omega)
            have B1 := b11.trans (bel1.mono b11.size)
            have oX1' : RowsC W1 W0.heap.size x1 p (cs.take (p * 2)) := by simpa using oX1
            have hc1w := (B1.cell (p := ⟨b, off + k * 2, none⟩) hbl).trans hc1
            have hc2w := (B1.cell (p := ⟨b, off + k * 2 + 1, none⟩) hbl).trans hc2
            have HI1 := Lib.hid (ints_below HI.out B1)
            have hx1 : Hid (∀ b, x1.ownBlock = some b → b < W1.heap.size) := Lib.hid (fun b e => (oX1'.lt b e).2)
            clear oX1 gX1 oX0 bX0 hat1
            go_wp2_with fail
            refine (l3Copy_any id vv xs W1 HI1.out hxl).mono ?_
            rintro e W2 ⟨uu2, rfl, oV, bel2⟩
            obtain ⟨va, vc, rfl⟩ := ints_len (ownsN_ints oV)
            have B2 := B1.trans (bel2.mono B1.size)
            have oX1b : RowsC (W2.alloc (.cells #[.int .i64 id, .slice va xs.length vc] 76)) W0.heap.size x1 p (cs.take (p * 2)) := World.ownsRow.alloc (rowsC_kept oX1' bel2) _
            have B2a := B2.alloc B2.size (.cells #[.int .i64 id, .slice va xs.length vc] 76)
            clear hc1w hc2w
            go_wp2_with (at_builtin; refine append_rows rfl (.tmp 37) (.tmp 43) rfl W0.heap.size x1 p _ rfl oX1b B2a.size ⟨W2.heap.size, 0, none⟩ 1 1 [.int .i64 id, .slice va xs.length vc] rfl rfl (fun j u hj => by rw [Go.WideShapes.add_plain, Nat.zero_add, cell_lit]; simpa using hj) (by intro u hu; simp at hu; rcases hu with rfl | rfl <;> rfl) (by omega) ?_)
            intro x2 W3 oX2 gX2 _ hat2
            have bel3 := (Below.refl W0.heap.size (W2.alloc (.cells #[.int .i64 id, .slice va xs.length vc] 76))).grown gX2 B2a.size (fun k hk => (oX1b.lt k hk).1)
            have B3 := B2a.trans bel3
            have hdl : (cs.drop (p * 2)).length = (k - p) * 2 := by rw [List.length_drop]; omega
            have HNW := Lib.hid (fun (j : Nat) (u : Value) (hj : (cs.drop (p * 2))[j]? = some u) => show W3.cell? ((⟨g, p * 2, none⟩ : Addr).add j) = some u by
              rw [List.getElem?_drop] at hj
              have := HCS.out W3 B3 (p * 2 + j) u hj
              rw [Go.WideShapes.add_plain, Nat.zero_add] at this
              rw [Go.WideShapes.add_plain]; exact this)
            have oX2' : RowsC W3 W0.heap.size x2 (p + 1) (cs.take (p * 2) ++ [.int .i64 id, .slice va xs.length vc]) := oX2
            by_cases hpc : cp = p
            · have hdn : cs.drop (p * 2) = [] := List.eq_nil_of_length_eq_zero (by omega)
              have hq3 : cp - p = 0 := by omega
              go_wp2_with (at_builtin; refine append_rows rfl (.tmp 45) (.tmp 48) rfl W0.heap.size x2 (p + 1) _ rfl oX2' B3.size ⟨g, 0, none⟩ (k - p) 0 (cs.drop (p * 2)) (by first | rfl | (simp; done)) hdl (fun j u hj => by rw [hdn] at hj; cases hj) (fun u hu => HONE.out u (List.mem_of_mem_drop hu)) (by omega) ?_)
              intro x3 W4 oX3 gX3 _ hat3
              obtain ⟨FO, FB⟩ := insert_end hp hsl H1.out H2.out H3.out hbel.size B1.size hx1.out oV gX2 hat2 B3 oX2' gX3 hat3 oX3 (by simp [hdn]) HP.out
              obtain ⟨g3, cp3, rfl⟩ := rowsC_form oX3 (by omega)
              rw [show p + 1 + (k - p) = k + 1 by omega] at FO
              have FB2 := hbel.trans (FB.mono hbel.size)
              have e9 : p + 1 + (k - p) = k + 1 := by omega
              rw [e9]
              clear oX3 gX3 hat3
              go_wp2
              go_roundw
              case rel => exact ⟨k + 1, g3, cp3, by omega, by go_num, rfl, by rw [HSTEP.out]; exact FO, FB2⟩
              case measure => simp [intOf]; omega
            · have hq2 : ¬ p = cp := fun e => hpc e.symm
              have hq3 : ¬ cp - p = 0 := by omega
              have hq4 : p < cp := by omega
              have hq5 : ¬ cp ≤ p := by omega
              go_wp2_with (at_builtin; refine append_rows rfl (.tmp 45) (.tmp 48) rfl W0.heap.size x2 (p + 1) _ rfl oX2' B3.size ⟨g, p * 2, none⟩ (k - p) (cp - p) (cs.drop (p * 2)) (by first | rfl | (simp; done)) hdl HNW.out (fun u hu => HONE.out u (List.mem_of_mem_drop hu)) (by omega) ?_)
              intro x3 W4 oX3 gX3 _ hat3
              obtain ⟨FO, FB⟩ := insert_end hp hsl H1.out H2.out H3.out hbel.size B1.size hx1.out oV gX2 hat2 B3 oX2' gX3 hat3 oX3 (by simp) HP.out
              obtain ⟨g3, cp3, rfl⟩ := rowsC_form oX3 (by omega)
              rw [show p + 1 + (k - p) = k + 1 by omega] at FO
              have FB2 := hbel.trans (FB.mono hbel.size)
              have e9 : p + 1 + (k - p) = k + 1 := by omega
              rw [e9]
              clear oX3 gX3 hat3
              go_wp2
              go_roundw
              case rel => exact ⟨k + 1, g3, cp3, by omega, by go_num, rfl, by rw [HSTEP.out]; exact FO, FB2⟩
              case measure => simp [intOf]; omega
    · obtain rfl : k = rs.length := by omega
      rw [sortTo_all] at hown
      go_wp2
      go_ret
      exact ⟨_, rfl, hown, hbel⟩
end Go.Proofs.Ytginjmnohnidiaa
namespace Go.Proofs.Ytginjmnohnidiaa
open Go.RowKit
set_option linter.unusedVariables false
set_option linter.unusedSimpArgs false
def answerL (m : RowD → Bool) (rs : List RowD) : List RowD := sortL (rs.filter m)
/-- A row in new memory is appended to a slice of rows that the call made. -/
theorem append_owns {w1 w2 w3 : World} {B D : Nat} {v v' vv : Value} {rs : List RowD} {vs : Nat → Value} {cs : List Value} {r : RowD}
    (h1 : w1.ownsRow B 76 2 v rs.length cs)
    (h2 : ∀ j, j < rs.length → cs[j * 2]? = some (.int .i64 (rs.getD j (0, [])).1) ∧ cs[j * 2 + 1]? = some (vs j) ∧ OwnsN w1 B (vs j) (rs.getD j (0, [])).2 ∧ ∀ b, (vs j).ownBlock = some b → v.ownBlock ≠ some b)
    (h3 : ∀ i j, i < rs.length → j < rs.length → i ≠ j → ∀ b, (vs i).ownBlock = some b → (vs j).ownBlock ≠ some b)
    (hlow : ∀ j, j < rs.length → ∀ b, (vs j).ownBlock = some b → b < D) (hvlow : ∀ b, v.ownBlock = some b → b < D) (hBD : B ≤ D) (hv : OwnsN w1 D vv r.2)
    (h12 : Below w1.heap.size w1 w2) (hg : w2.grownBy w3 v.ownBlock) (hx : RowsC w3 B v' (rs.length + 1) (cs ++ [.int .i64 r.1, vv])) (hat : v'.ownBlock = v.ownBlock ∨ v'.ownBlock = some w2.heap.size) : OwnsR w3 B v' (rs ++ [r]) := by
  have hcl : cs.length = rs.length * 2 := h1.1
  have hlen : (rs ++ [r]).length = rs.length + 1 := by simp
  have old : ∀ j, j < rs.length → OwnsN w3 B (vs j) (rs.getD j (0, [])).2 := fun j hj => by
    refine World.ownsRow.kept (ownsN_below (h2 j hj).2.2.1 h12) hg ?_
    cases e : (vs j).ownBlock with
    | none => exact Or.inl rfl
    | some b => exact Or.inr (fun q => (h2 j hj).2.2.2 b e q.symm)
  have new : OwnsN w3 D vv r.2 := by
    refine World.ownsRow.kept (ownsN_below hv h12) hg ?_
    cases e : vv.ownBlock with
    | none => exact Or.inl rfl
    | some b => exact Or.inr (fun q => by have := hvlow b q.symm; have := (hv.lt b e).1; omega)
  have lt1 : ∀ j, j < rs.length → ∀ b, (vs j).ownBlock = some b → b < w2.heap.size := fun j hj b e => Nat.lt_of_lt_of_le ((h2 j hj).2.2.1.lt b e).2 h12.size
  have lt2 : ∀ b, vv.ownBlock = some b → b < w2.heap.size := fun b e => Nat.lt_of_lt_of_le (hv.lt b e).2 h12.size
  have get_old : ∀ j, j < rs.length → (rs ++ [r]).getD j (0, []) = rs.getD j (0, []) := fun j hj => by simp [List.getD, List.getElem?_append_left hj]
  have get_new : (rs ++ [r]).getD rs.length (0, []) = r := by simp [List.getD]
  refine ⟨cs ++ [.int .i64 r.1, vv], fun j => if j < rs.length then vs j else vv, by rw [hlen]; exact hx, fun j hj => ?_, fun i j hi hj hij b hb => ?_⟩
  · rw [hlen] at hj
    by_cases c : j < rs.length
    · simp only [if_pos c]
      obtain ⟨g1, g2, _, g4⟩ := h2 j c
      rw [get_old j c, List.getElem?_append_left (by omega), List.getElem?_append_left (by omega)]
      refine ⟨g1, g2, old j c, fun b e q => ?_⟩
      rcases hat with h | h
      · rw [h] at q; exact g4 b e q
      · rw [h] at q; have := lt1 j c b e; have := Option.some.inj q; omega
    · obtain rfl : j = rs.length := by omega
      simp only [if_neg c]
      rw [get_new, List.getElem?_append_right (by omega), List.getElem?_append_right (by omega), show rs.length * 2 - cs.length = 0 by omega, show rs.length * 2 + 1 - cs.length = 1 by omega]
      refine ⟨rfl, rfl, ownsN_up new hBD, fun b e q => ?_⟩
      rcases hat with h | h
      · rw [h] at q; have := hvlow b q; have := (hv.lt b e).1; omega
      · rw [h] at q; have := lt2 b e; have := Option.some.inj q; omega
  · rw [hlen] at hi hj
    by_cases ci : i < rs.length
    · by_cases cj : j < rs.length
      · simp only [if_pos ci, if_pos cj] at hb ⊢
        exact h3 i j ci cj hij b hb
      · simp only [if_pos ci, if_neg cj] at hb ⊢
        intro q
        have := hlow i ci b hb
        have := (hv.lt b q).1
        omega
    · have cj : j < rs.length := by omega
      simp only [if_neg ci, if_pos cj] at hb ⊢
      intro q
      have := hlow j cj b q
      have := (hv.lt b hb).1
      omega
theorem szL_filter (m : RowD → Bool) : ∀ rs : List RowD, szL (rs.filter m) ≤ szL rs
  | [] => Nat.le_refl _
  | r :: rs => by
    have ih := szL_filter m rs
    have e : ∀ (a : RowD) (l : List RowD), szL (a :: l) = szL l + 1 + a.2.length := fun a l => by
      unfold szL szTo
      rw [List.take_length, List.take_length]
      simp only [List.map_cons, List.sum_cons, List.length_cons]
      omega
    rw [List.filter_cons]
    split
    · rw [e, e]; omega
    · rw [e]; omega
theorem filter_yes {m : RowD → Bool} {rs : List RowD} {k : Nat} (hk : k < rs.length) (h : m (rs.getD k (0, [])) = true) : (rs.take k).filter m ++ [rs.getD k (0, [])] = (rs.take (k + 1)).filter m := by
  rw [List.take_succ_eq_append_getElem hk, List.filter_append]
  have e : rs.getD k (0, []) = rs[k] := by simp [List.getD, hk]
  rw [e] at h ⊢
  simp [List.filter_cons, h]
theorem filter_no {m : RowD → Bool} {rs : List RowD} {k : Nat} (hk : k < rs.length) (h : m (rs.getD k (0, [])) = false) : (rs.take k).filter m = (rs.take (k + 1)).filter m := by
  rw [List.take_succ_eq_append_getElem hk, List.filter_append]
  have e : rs.getD k (0, []) = rs[k] := by simp [List.getD, hk]
  rw [e] at h
  simp [List.filter_cons, h]
set_option maxHeartbeats 16000000 in
set_option maxRecDepth 100000 in
theorem specAnswer (id tn : Int) (cv ov v : Value) (cs : List CondD) (os : List Int) (rs : List RowD) (w : World) (h : CondsR w cv cs) (hn : cs.length ≤ 1048576) (g : Ints w ov os) (hm : os.length ≤ 1048576) (gr : RowsR w v rs) (hs : szL rs ≤ 1048576) :
    Calls Try.prog 20 #[qV id tn cv ov, v] w (FreshRows w (answerL (matchB id tn cs os) rs)) := by
  obtain ⟨ca, ccap, rfl⟩ := condsR_len h
  obtain ⟨oa, ocap, rfl⟩ := ints_len g
  have HLEN := Lib.hid (szL_len hs)
  obtain ⟨ra, rcap, rfl⟩ := rowsR_len gr
  have hb0 : Below w.heap.size w (w.alloc (.cells #[.int .i64 id, .int .i64 tn, .slice ca cs.length ccap, .slice oa os.length ocap] 38)) := (Below.refl _ w).alloc (Nat.le_refl _) _
  have HG0 := Lib.hid (heap_alloc_new w (.cells #[.int .i64 id, .int .i64 tn, .slice ca cs.length ccap, .slice oa os.length ocap] 38))
  have HZ : Hid (w.heap.size < (w.alloc (.cells #[.int .i64 id, .int .i64 tn, .slice ca cs.length ccap, .slice oa os.length ocap] 38)).heap.size) := Lib.hid (by simp)
  have HS1 : Hid ((w.alloc (.cells #[.int .i64 id, .int .i64 tn, .slice ca cs.length ccap, .slice oa os.length ocap] 38)).heap.size = w.heap.size + 1) := Lib.hid (by simp)
  have HB0 := Lib.hid hb0
  have HC := Lib.hid (condsR_below h hb0)
  have HO := Lib.hid (ints_below g hb0)
  have HRW := Lib.hid (rowsR_below gr hb0)
  have HSZ := Lib.hid hs
  have HMT := Lib.hid (fun rid vv xs w h g gr hx => specMatchesRow id tn rid (.slice ca cs.length ccap) (.slice oa os.length ocap) vv cs os xs w h hn g hm gr hx)
  clear h g hm gr hb0 hs
  obtain ⟨m, hmm⟩ : ∃ m, matchB id tn cs os = m := ⟨_, rfl⟩
  rw [hmm] at HMT ⊢
  clear hmm
  go_enter Try.func20, Try.ntmps20
  go_wp2
  generalize w.alloc (.cells #[.int .i64 id, .int .i64 tn, .slice ca cs.length ccap, .slice oa os.length ocap] 38) = W at *
  have hl0 : Below W.heap.size W (W.alloc (.cells #[] 76)) := (Below.refl _ _).alloc (Nat.le_refl _) _
  have ol0 : OwnsR (W.alloc (.cells #[] 76)) W.heap.size (.slice (some ⟨w.heap.size + 1, 0, none⟩) 0 0) [] := by
    have e2 : (Value.slice (some ⟨w.heap.size + 1, 0, none⟩) 0 0) = (Value.slice (some ⟨W.heap.size, 0, none⟩) 0 0) := by rw [HS1.out]
    rw [e2]; exact ownsR_empty W
  go_loopw [5, 6] (fun v i wr => ∃ k : Nat, k ≤ rs.length ∧ i = .int .i64 k ∧ OwnsR wr W.heap.size v ((rs.take k).filter m) ∧ Below W.heap.size W wr) (fun _ i _ => rs.length - (intOf i).toNat)
  case atStart => exact ⟨0, Nat.zero_le _, rfl, by rw [List.take_zero]; exact ol0, hl0⟩
  case round =>
    obtain ⟨k, hk, rfl, hown, hbel⟩ := hrel
    clear hl0 ol0
    have kq := (hbel.block w.heap.size HZ.out).trans HG0.out
    by_cases hlt : k < rs.length
    · obtain ⟨b, off, cap2, vv, hv, hbl, hc1, hc2, hI⟩ := rowsR_at (rowsR_below HRW.out hbel) hlt
      simp only [Value.slice.injEq] at hv
      obtain ⟨rfl, _, rfl⟩ := hv
      obtain ⟨va, vcap, rfl⟩ := ints_len hI
      have hxl := szL_row HSZ.out hlt
      have i1 : (0 : Int) ≤ (k : Int) := by omega
      have i2 : (k : Int) < (rs.length : Int) := by omega
      have i5 : k ≤ 1048576 := by have := HLEN.out; omega
      have HY := Lib.hid (filter_yes (m := m) hlt)
      have HN := Lib.hid (filter_no (m := m) hlt)
      have HFL : Hid (((rs.take k).filter m).length ≤ 1048576) := Lib.hid (by have := List.length_filter_le m (rs.take k); rw [List.length_take] at this; have := HLEN.out; omega)
      have HM := Lib.hid (fun w h g gr => HMT.out (rs.getD k (0, [])).1 (.slice va (rs.getD k (0, [])).2.length vcap) (rs.getD k (0, [])).2 w h g gr hxl)
      have er : (((rs.getD k (0, [])).1, (rs.getD k (0, [])).2) : RowD) = rs.getD k (0, []) := rfl
      rw [er] at HM
      clear er
      have HCPY := Lib.hid (fun w h => l3Copy_any (rs.getD k (0, [])).1 (.slice va (rs.getD k (0, [])).2.length vcap) (rs.getD k (0, [])).2 w h hxl)
      have HOW := Lib.hid hown
      have HBL := Lib.hid hbel
      have HII := Lib.hid hI
      clear hown hbel hI hxl
      have p0 := (cell_of_row wr _ 0 _ _ _ kq).trans (show _ = some (Value.int .i64 id) from rfl)
      have p1 := (cell_of_row wr _ 1 _ _ _ kq).trans (show _ = some (Value.int .i64 tn) from rfl)
      have p2 := (cell_of_row wr _ 2 _ _ _ kq).trans (show _ = some (Value.slice ca cs.length ccap) from rfl)
      have p3 := (cell_of_row wr _ 3 _ _ _ kq).trans (show _ = some (Value.slice oa os.length ocap) from rfl)
      have HKQ := Lib.hid kq
      clear kq
      generalize (rs.take k).filter m = ac at *
      generalize rs.getD k (0, []) = r at *
      obtain ⟨rid, xs⟩ := r
      simp only at hc1 hc2 HM HCPY HII
      cases hmr : m (rid, xs) with
      | false =>
        rw [hmr] at HM
        have hfn := HN.out hmr
        clear HY HN
        go_wp2
        refine wp_region_held_drew (S := fun w' => w'.cell? ⟨w.heap.size, 0, none⟩ = some (.int .i64 id) ∧ w'.cell? ⟨w.heap.size, 1, none⟩ = some (.int .i64 tn) ∧ w'.cell? ⟨w.heap.size, 2, none⟩ = some (.slice ca cs.length ccap) ∧ w'.cell? ⟨w.heap.size, 3, none⟩ = some (.slice oa os.length ocap) ∧ w'.cell? ⟨b, off + k * 2, none⟩ = some (.int .i64 rid) ∧ w'.cell? ⟨b, off + k * 2 + 1, none⟩ = some (.slice va xs.length vcap)) (by kernel_rfl) ⟨p0, p1, p2, p3, hc1, hc2⟩ (fun hHeld => ?_)
        refine take_runs (i := 0) (v := ?_) (by simp only [List.getElem?_toArray, List.getElem?_cons_succ, List.getElem?_cons_zero]; rfl) (by kernel_rfl) (by kernel_rfl) (by kernel_rfl) rfl (by exact fun _ _ _ h => h) (by rfl) ?_ (by assumption) ?_
        rotate_left
        · intro w hSw; (try dsimp only at hSw); go_simp; try (with_reducible rfl)
        try simp only [Act.put, List.setIfInBounds_toArray, List.set_cons_zero, List.set_cons_succ]
        refine take_runs (i := 1) (v := ?_) (by simp only [List.getElem?_toArray, List.getElem?_cons_succ, List.getElem?_cons_zero]; rfl) (by kernel_rfl) (by kernel_rfl) (by kernel_rfl) rfl (by exact fun _ _ _ h => h) (by rfl) ?_ (by assumption) ?_
        rotate_left
        · intro w hSw; (try dsimp only at hSw); go_simp; try (with_reducible rfl)
        try simp only [Act.put, List.setIfInBounds_toArray, List.set_cons_zero, List.set_cons_succ]
        refine take_runs (i := 2) (v := ?_) (by simp only [List.getElem?_toArray, List.getElem?_cons_succ, List.getElem?_cons_zero]; rfl) (by kernel_rfl) (by kernel_rfl) (by kernel_rfl) rfl (by exact fun _ _ _ h => h) (by rfl) ?_ (by assumption) ?_
        rotate_left
        · intro w hSw; (try dsimp only at hSw); go_simp; try (with_reducible rfl)
        try simp only [Act.put, List.setIfInBounds_toArray, List.set_cons_zero, List.set_cons_succ]
        refine take_runs (i := 3) (v := ?_) (by simp only [List.getElem?_toArray, List.getElem?_cons_succ, List.getElem?_cons_zero]; rfl) (by kernel_rfl) (by kernel_rfl) (by kernel_rfl) rfl (by exact fun _ _ _ h => h) (by rfl) ?_ (by assumption) ?_
        rotate_left
        · intro w hSw; (try dsimp only at hSw); go_simp; try (with_reducible rfl)
        try simp only [Act.put, List.setIfInBounds_toArray, List.set_cons_zero, List.set_cons_succ]
        refine take_runs (i := 4) (v := ?_) (by simp only [List.getElem?_toArray, List.getElem?_cons_succ, List.getElem?_cons_zero]; rfl) (by kernel_rfl) (by kernel_rfl) (by kernel_rfl) rfl (by exact fun _ _ _ h => h) (by rfl) ?_ (by assumption) ?_
        rotate_left
        · intro w hSw; (try dsimp only at hSw); go_simp; try (with_reducible rfl)
        try simp only [Act.put, List.setIfInBounds_toArray, List.set_cons_zero, List.set_cons_succ]
        refine wpAnyH_ready (rs := [5]) (by kernel_rfl) (by simp) ?_
        refine AllReadyH.cons (o := _) (by simp only [List.getElem?_toArray, List.getElem?_cons_succ, List.getElem?_cons_zero]; rfl) (fun K hK => ?_) AllReadyH.nil
        go_simp
        refine (HM.out _ (condsR_below HC.out (below_drew HBL.out)) (ints_below HO.out (below_drew HBL.out)) (by exact ints_heap HII.out rfl)).mono ?_
        rintro e w8 ⟨rfl, b9⟩
        have b10 : Below wr.heap.size wr w8 := ⟨b9.os, b9.tape, b9.output, b9.size, b9.block⟩
        have kq := (b10.block w.heap.size (Array.getElem?_eq_some_iff.1 HKQ.out).1).trans HKQ.out
        clear p0 p1 p2 p3
        have p0 := (cell_of_row w8 _ 0 _ _ _ kq).trans (show _ = some (Value.int .i64 id) from rfl)
        have p1 := (cell_of_row w8 _ 1 _ _ _ kq).trans (show _ = some (Value.int .i64 tn) from rfl)
        have p2 := (cell_of_row w8 _ 2 _ _ _ kq).trans (show _ = some (Value.slice ca cs.length ccap) from rfl)
        have p3 := (cell_of_row w8 _ 3 _ _ _ kq).trans (show _ = some (Value.slice oa os.length ocap) from rfl)
        have s1 := (b10.cell (p := ⟨b, off + k * 2, none⟩) hbl).trans hc1
        have s2 := (b10.cell (p := ⟨b, off + k * 2 + 1, none⟩) hbl).trans hc2
        refine hK.out _ _ ⟨p0, p1, p2, p3, s1, s2⟩ (fun hHeld => ?_)
        clear hK K
        try simp only [Act.put, List.setIfInBounds_toArray, List.set_cons_zero, List.set_cons_succ]
        refine wpAnyH_done (by kernel_rfl) ?_ _
        have c8 := HBL.out.trans (b10.mono HBL.out.size)
        have o8 := ownsR_below HOW.out b10
        have j8 := ints_below HII.out b10
        clear hHeld p0 p1 p2 p3 b9 kq hc1 hc2
        clear s1 s2
        rw [hfn] at o8
        go_wp2
        go_roundw
        case rel => exact ⟨k + 1, by omega, by go_num, o8, c8⟩
        case measure => simp [intOf]; omega
      | true =>
        rw [hmr] at HM
        have HFY := Lib.hid (HY.out hmr)
        clear HY HN
        go_wp2
        refine wp_region_held_drew (S := fun w' => w'.cell? ⟨w.heap.size, 0, none⟩ = some (.int .i64 id) ∧ w'.cell? ⟨w.heap.size, 1, none⟩ = some (.int .i64 tn) ∧ w'.cell? ⟨w.heap.size, 2, none⟩ = some (.slice ca cs.length ccap) ∧ w'.cell? ⟨w.heap.size, 3, none⟩ = some (.slice oa os.length ocap) ∧ w'.cell? ⟨b, off + k * 2, none⟩ = some (.int .i64 rid) ∧ w'.cell? ⟨b, off + k * 2 + 1, none⟩ = some (.slice va xs.length vcap)) (by kernel_rfl) ⟨p0, p1, p2, p3, hc1, hc2⟩ (fun hHeld => ?_)
        refine take_runs (i := 0) (v := ?_) (by simp only [List.getElem?_toArray, List.getElem?_cons_succ, List.getElem?_cons_zero]; rfl) (by kernel_rfl) (by kernel_rfl) (by kernel_rfl) rfl (by exact fun _ _ _ h => h) (by rfl) ?_ (by assumption) ?_
        rotate_left
        · intro w hSw; (try dsimp only at hSw); go_simp; try (with_reducible rfl)
        try simp only [Act.put, List.setIfInBounds_toArray, List.set_cons_zero, List.set_cons_succ]
        refine take_runs (i := 1) (v := ?_) (by simp only [List.getElem?_toArray, List.getElem?_cons_succ, List.getElem?_cons_zero]; rfl) (by kernel_rfl) (by kernel_rfl) (by kernel_rfl) rfl (by exact fun _ _ _ h => h) (by rfl) ?_ (by assumption) ?_
        rotate_left
        · intro w hSw; (try dsimp only at hSw); go_simp; try (with_reducible rfl)
        try simp only [Act.put, List.setIfInBounds_toArray, List.set_cons_zero, List.set_cons_succ]
        refine take_runs (i := 2) (v := ?_) (by simp only [List.getElem?_toArray, List.getElem?_cons_succ, List.getElem?_cons_zero]; rfl) (by kernel_rfl) (by kernel_rfl) (by kernel_rfl) rfl (by exact fun _ _ _ h => h) (by rfl) ?_ (by assumption) ?_
        rotate_left
        · intro w hSw; (try dsimp only at hSw); go_simp; try (with_reducible rfl)
        try simp only [Act.put, List.setIfInBounds_toArray, List.set_cons_zero, List.set_cons_succ]
        refine take_runs (i := 3) (v := ?_) (by simp only [List.getElem?_toArray, List.getElem?_cons_succ, List.getElem?_cons_zero]; rfl) (by kernel_rfl) (by kernel_rfl) (by kernel_rfl) rfl (by exact fun _ _ _ h => h) (by rfl) ?_ (by assumption) ?_
        rotate_left
        · intro w hSw; (try dsimp only at hSw); go_simp; try (with_reducible rfl)
        try simp only [Act.put, List.setIfInBounds_toArray, List.set_cons_zero, List.set_cons_succ]
        refine take_runs (i := 4) (v := ?_) (by simp only [List.getElem?_toArray, List.getElem?_cons_succ, List.getElem?_cons_zero]; rfl) (by kernel_rfl) (by kernel_rfl) (by kernel_rfl) rfl (by exact fun _ _ _ h => h) (by rfl) ?_ (by assumption) ?_
        rotate_left
        · intro w hSw; (try dsimp only at hSw); go_simp; try (with_reducible rfl)
        try simp only [Act.put, List.setIfInBounds_toArray, List.set_cons_zero, List.set_cons_succ]
        refine wpAnyH_ready (rs := [5]) (by kernel_rfl) (by simp) ?_
        refine AllReadyH.cons (o := _) (by simp only [List.getElem?_toArray, List.getElem?_cons_succ, List.getElem?_cons_zero]; rfl) (fun K hK => ?_) AllReadyH.nil
        go_simp
        refine (HM.out _ (condsR_below HC.out (below_drew HBL.out)) (ints_below HO.out (below_drew HBL.out)) (by exact ints_heap HII.out rfl)).mono ?_
        rintro e w8 ⟨rfl, b9⟩
        have b10 : Below wr.heap.size wr w8 := ⟨b9.os, b9.tape, b9.output, b9.size, b9.block⟩
        have kq := (b10.block w.heap.size (Array.getElem?_eq_some_iff.1 HKQ.out).1).trans HKQ.out
        clear p0 p1 p2 p3
        have p0 := (cell_of_row w8 _ 0 _ _ _ kq).trans (show _ = some (Value.int .i64 id) from rfl)
        have p1 := (cell_of_row w8 _ 1 _ _ _ kq).trans (show _ = some (Value.int .i64 tn) from rfl)
        have p2 := (cell_of_row w8 _ 2 _ _ _ kq).trans (show _ = some (Value.slice ca cs.length ccap) from rfl)
        have p3 := (cell_of_row w8 _ 3 _ _ _ kq).trans (show _ = some (Value.slice oa os.length ocap) from rfl)
        have s1 := (b10.cell (p := ⟨b, off + k * 2, none⟩) hbl).trans hc1
        have s2 := (b10.cell (p := ⟨b, off + k * 2 + 1, none⟩) hbl).trans hc2
        refine hK.out _ _ ⟨p0, p1, p2, p3, s1, s2⟩ (fun hHeld => ?_)
        clear hK K
        try simp only [Act.put, List.setIfInBounds_toArray, List.set_cons_zero, List.set_cons_succ]
        refine wpAnyH_done (by kernel_rfl) ?_ _
        have c8 := HBL.out.trans (b10.mono HBL.out.size)
        have o8 := ownsR_below HOW.out b10
        have j8 := ints_below HII.out b10
        clear hHeld p0 p1 p2 p3 b9 kq hc1 hc2
        have HO8 := Lib.hid o8
        have HC8 := Lib.hid c8
        clear o8 c8 b10
        go_wp2_with fail
        refine (HCPY.out _ j8).mono ?_
        rintro e w9 ⟨uu, rfl, oV, bC⟩
        obtain ⟨ua, uc, rfl⟩ := ints_len (ownsN_ints oV)
        simp only at oV
        obtain ⟨rcs, vs, h1, h2, h3⟩ := HO8.out
        have hl1 : ∀ j, j < ac.length → ∀ q, (vs j).ownBlock = some q → q < w8.heap.size := fun j hj q e => ((h2 j hj).2.2.1.lt q e).2
        have hl2 : ∀ q, _ := fun q e => (h1.lt q e).2
        have H1 := Lib.hid (ownsRow_below h1 bC)
        have H2 := Lib.hid (fun (j : Nat) (hj : j < ac.length) => (⟨(h2 j hj).1, (h2 j hj).2.1, ownsN_below (h2 j hj).2.2.1 bC, (h2 j hj).2.2.2⟩ : _ ∧ _ ∧ _ ∧ _))
        have H3 := Lib.hid h3
        have HL1 := Lib.hid hl1
        have HL2 := Lib.hid hl2
        have HOV := Lib.hid oV
        have HC9 := Lib.hid (HC8.out.trans (bC.mono HC8.out.size))
        clear s1 s2 h1 h2 h3 hl1 hl2 oV bC j8
        have hal : Below w9.heap.size w9 (w9.alloc (.cells #[.int .i64 rid, .slice ua xs.length uc] 76)) := (Below.refl _ _).alloc (Nat.le_refl _) _
        have HAL := Lib.hid hal
        have HCA := Lib.hid (HC9.out.trans (hal.mono HC9.out.size))
        have oX : RowsC (w9.alloc (.cells #[.int .i64 rid, .slice ua xs.length uc] 76)) W.heap.size _ ac.length rcs := rowsC_kept H1.out hal
        clear hal
        go_wp2_with (at_builtin; refine append_rows rfl (.tmp 20) (.tmp 26) rfl W.heap.size _ _ _ rfl oX HCA.out.size ⟨w9.heap.size, 0, none⟩ 1 1 [.int .i64 rid, .slice ua xs.length uc] rfl rfl (fun j u hj => by rw [Go.WideShapes.add_plain, Nat.zero_add, cell_lit]; simpa using hj) (by intro u hu; simp at hu; rcases hu with rfl | rfl <;> rfl) (by have := HFL.out; omega) ?_)
        intro x3 W3 oX3 gX3 _ hat3
        have FO := append_owns (r := (rid, xs)) H1.out H2.out H3.out HL1.out HL2.out HC8.out.size HOV.out HAL.out gX3 oX3 (by simpa [World.size_alloc] using hat3)
        have FB := HCA.out.grown gX3 HCA.out.size (fun q e => (oX.lt q e).1)
        rw [HFY.out] at FO
        clear oX oX3 gX3 hat3
        go_wp2
        go_roundw
        case rel => exact ⟨k + 1, by omega, by go_num, FO, FB⟩
        case measure => simp [intOf]; omega
    · obtain rfl : k = rs.length := by omega
      rw [List.take_length] at hown
      have hsf : szL (rs.filter m) ≤ 1048576 := Nat.le_trans (szL_filter m rs) HSZ.out
      have HSR := Lib.hid (fun v w h => specSortRows v (rs.filter m) w h hsf)
      clear hsf kq
      go_wp2_with fail
      refine (HSR.out _ _ (ownsR_rows hown)).mono ?_
      rintro e w7 ⟨u, rfl, ou, b7⟩
      have b8 := HB0.out.trans ((hbel.trans (b7.mono hbel.size)).mono HB0.out.size)
      have hz := Nat.le_trans HB0.out.size hbel.size
      clear b7
      go_wp2
      go_ret
      exact ⟨_, rfl, ownsR_up ou hz, b8⟩
end Go.Proofs.Ytginjmnohnidiaa
namespace Go.Proofs.Ytginjmnohnidiaa
open Go.RowKit
set_option linter.unusedVariables false
end Go.Proofs.Ytginjmnohnidiaa
namespace Go.Proofs.Ytginjmnohnidiaa
open Go.RowKit
set_option linter.unusedVariables false
set_option linter.unusedSimpArgs false
set_option maxHeartbeats 32000000 in
set_option maxRecDepth 100000 in
theorem law_fnExactAnswerAlone (id tn : Int) (cv ov : Value) (cs : List CondD) (os : List Int) (vv : Value) (rs : List RowD) (w : World) (h : CondsR w cv cs) (g : Ints w ov os) (gr : RowsR w vv rs)
    (hn : (cs.length : Int) ≤ 9223372036854775807) (hm : (os.length : Int) ≤ 9223372036854775807) (hx : (rs.length : Int) ≤ 9223372036854775807) (hy : ∀ j, j < rs.length → ((rs.getD j (0, [])).2.length : Int) ≤ 9223372036854775807)
    (himpl : ∀ (cv ov vv : Value) (w : World), CondsR w cv cs → cs.length ≤ 1048576 → Ints w ov os → os.length ≤ 1048576 → RowsR w vv rs → szL rs ≤ 1048576 → Calls Try.prog 22 #[qV id tn cv ov, vv] w (FreshRows w (answerL (matchB id tn cs os) rs))) :
    Calls Try.prog 4 #[qV id tn cv ov, vv] w fun e w' => e = .returned (.bool true) ∧ Below w.heap.size w w' := by
  obtain ⟨ca, ccap, rfl⟩ := condsR_len h
  obtain ⟨oa, ocap, rfl⟩ := ints_len g
  have hb0 : Below w.heap.size w (w.alloc (.cells #[.int .i64 id, .int .i64 tn, .slice ca cs.length ccap, .slice oa os.length ocap] 33)) := (Below.refl _ w).alloc (Nat.le_refl _) _
  have q := Lib.hid (heap_alloc_new w (.cells #[.int .i64 id, .int .i64 tn, .slice ca cs.length ccap, .slice oa os.length ocap] 33))
  have hv := Lib.hid (rowsR_below gr hb0)
  by_cases hl : (cs.length : Int) + (os.length : Int) ≤ 1048576
  · have HZ := Lib.hid (fun w => szQuery_yes id tn ca oa ccap ocap cs.length os.length 1048576 w hl (by omega))
    have hneg : ¬ 1048576 - (cs.length : Int) - (os.length : Int) < 0 := by omega
    by_cases hl2 : (cs.length : Int) + (os.length : Int) + (szL rs : Int) ≤ 1048576
    · have HN : Hid (cs.length ≤ 1048576) := Lib.hid (by omega)
      have HM : Hid (os.length ≤ 1048576) := Lib.hid (by omega)
      have HX : Hid (szL rs ≤ 1048576) := Lib.hid (by omega)
      have HP : Hid (szL (answerL (matchB id tn cs os) rs) ≤ 1048576) := Lib.hid (szL_sort _ (Nat.le_trans (szL_filter (matchB id tn cs os) rs) HX.out))
      have HY := Lib.hid (fun v w h => szRowS_yes v rs (1048576 - (cs.length : Int) - (os.length : Int)) w h (by omega) (by omega))
      have HS := Lib.hid (fun cv ov vv w h g gr => specAnswer id tn cv ov vv cs os rs w h HN.out g HM.out gr HX.out)
      have HR := Lib.hid (fun vv w h => toRowS_any vv rs w h HX.out)
      have HF := Lib.hid (fun v u w h g => eqRowS_same v u rs w h g HX.out)
      have HMR := Lib.hid (mkAt_range (k := 1 + 3 * (cs.length : Int) + (os.length : Int)) HX.out (Nat.le_refl rs.length))
      have HMK := Lib.hid (fun v vs B hi w h hb hg => markRowS_V v rs vs B hi (1 + 3 * (cs.length : Int) + (os.length : Int)) w h hb hg HX.out (by omega) (by omega))
      have hneg3 : ¬ mkAt rs (1 + 3 * (cs.length : Int) + (os.length : Int)) rs.length < 0 := by have := HMR.out; omega
      have HI := Lib.hid (fun cv ov vv w h g gr => himpl cv ov vv w h HN.out g HM.out gr HX.out)
      have HT := Lib.hid (fun cv ov w h g => toQuery_any id tn cv ov cs os w h HN.out g HM.out)
      have HE := Lib.hid (fun cv cu ov ou w h h' g g' => eqQuery_same id tn cv cu ov ou cs os w h h' g g' HN.out HM.out)
      have HMQ := Lib.hid (fun cv ov B hi w h g hd hc ho hhi => markQuery_any id tn cv ov cs os B hi 1 w h g hd hc ho hhi HN.out HM.out (by omega) (by omega))
      have hneg2 : ¬ 1048576 - (cs.length : Int) - (os.length : Int) - (szL rs : Int) < 0 := by omega
      have hc := Lib.hid (condsR_below h hb0)
      have ho := Lib.hid (ints_below g hb0)
      have HB0 := Lib.hid hb0
      clear h g gr hn hm hx hy himpl hl hl2 hb0
      generalize answerL (matchB id tn cs os) rs = res at *
      have HG := Lib.hid (fun v u w h g => eqRowS_same v u res w h g HP.out)
      have HMG := Lib.hid (fun v B w0 w h hb => markRowS_any v res B 1 w0 w h hb HP.out (by omega) (by omega))
      have HHG := Lib.hid (fun v w h => (heldRowS_any v res 1 w h HP.out (by omega) (by omega)).mono (fun e w' (h : e = .returned (.int .i64 (mkAt res 1 res.length)) ∧ w = w') => show e = .returned (.int .i64 (mkAt res 1 res.length)) ∧ Below w.heap.size w w' from ⟨h.1, h.2 ▸ Below.refl _ _⟩))
      have HMR2 := Lib.hid (mkAt_range (k := 1) HP.out (Nat.le_refl res.length))
      have hneg4 : ¬ mkAt res 1 res.length < 0 := by have := HMR2.out; omega
      have hrr : (mkAt res 1 res.length != mkAt res 1 res.length) = false := by simp
      go_enter Try.func4, Try.ntmps4
      go_wp2_with fail
      generalize (w.alloc (.cells #[.int .i64 id, .int .i64 tn, .slice ca cs.length ccap, .slice oa os.length ocap] 33)) = W at *
      have d := Lib.hid (Below.refl W.heap.size W)
      refine (HZ.out _).mono ?_
      rintro e v1 ⟨rfl, c1⟩
      replace d := Lib.hid (d.out.trans (c1.mono d.out.size))
      clear c1
      go_wp2_with fail
      refine (HY.out _ _ (rowsR_below hv.out d.out)).mono ?_
      rintro e v2 ⟨rfl, c2⟩
      replace d := Lib.hid (d.out.trans (c2.mono d.out.size))
      clear c2
      have g_q := (d.out.block w.heap.size (Array.getElem?_eq_some_iff.1 q.out).1).trans q.out
      have p_q_0 := (cell_of_row v2 _ 0 _ _ _ g_q).trans (show _ = some (Value.int .i64 id) from rfl)
      have p_q_1 := (cell_of_row v2 _ 1 _ _ _ g_q).trans (show _ = some (Value.int .i64 tn) from rfl)
      have p_q_2 := (cell_of_row v2 _ 2 _ _ _ g_q).trans (show _ = some (Value.slice ca cs.length ccap) from rfl)
      have p_q_3 := (cell_of_row v2 _ 3 _ _ _ g_q).trans (show _ = some (Value.slice oa os.length ocap) from rfl)
      clear g_q
      go_wp2_with fail
      clear p_q_0 p_q_1 p_q_2 p_q_3
      refine (HT.out _ _ _ (condsR_below hc.out d.out) (ints_below ho.out d.out)).mono ?_
      rintro e v3 ⟨cv1, ov1, rfl, oc1, on1, dq1, c3⟩
      replace d := Lib.hid (d.out.trans (c3.mono d.out.size))
      clear c3
      obtain ⟨ca1, cp1, rfl⟩ := ownsC_len oc1
      obtain ⟨oa1, op1, rfl⟩ := ints_len (ownsN_ints on1)
      replace oc1 := Lib.hid oc1
      replace on1 := Lib.hid on1
      replace dq1 := Lib.hid dq1
      go_wp2_with fail
      refine (HR.out _ _ (rowsR_below hv.out d.out)).mono ?_
      rintro e v4 ⟨rv1, rfl, or1, c4⟩
      replace oc1 := Lib.hid (ownsC_below oc1.out c4)
      replace on1 := Lib.hid (ownsN_below on1.out c4)
      replace d := Lib.hid (d.out.trans (c4.mono d.out.size))
      clear c4
      replace or1 := Lib.hid or1
      go_wp2_with fail
      refine (HS.out _ _ _ _ (ownsC_conds oc1.out) (ownsN_ints on1.out) (ownsR_rows or1.out)).mono ?_
      rintro e v5 ⟨gw, rfl, ow, c5⟩
      replace oc1 := Lib.hid (ownsC_below oc1.out c5)
      replace on1 := Lib.hid (ownsN_below on1.out c5)
      replace or1 := Lib.hid (ownsR_below or1.out c5)
      replace d := Lib.hid (d.out.trans (c5.mono d.out.size))
      clear c5
      have w0 := Lib.hid (ownsR_rows ow)
      clear ow
      clear oc1
      clear on1
      clear or1
      clear dq1
      replace hc := Lib.hid (condsR_below hc.out d.out)
      replace ho := Lib.hid (ints_below ho.out d.out)
      replace hv := Lib.hid (rowsR_below hv.out d.out)
      replace q := Lib.hid ((d.out.block w.heap.size (Array.getElem?_eq_some_iff.1 q.out).1).trans q.out)
      have D0 := d
      clear d
      have d := Lib.hid (Below.refl v5.heap.size v5)
      have g_q := (d.out.block w.heap.size (Array.getElem?_eq_some_iff.1 q.out).1).trans q.out
      have p_q_0 := (cell_of_row v5 _ 0 _ _ _ g_q).trans (show _ = some (Value.int .i64 id) from rfl)
      have p_q_1 := (cell_of_row v5 _ 1 _ _ _ g_q).trans (show _ = some (Value.int .i64 tn) from rfl)
      have p_q_2 := (cell_of_row v5 _ 2 _ _ _ g_q).trans (show _ = some (Value.slice ca cs.length ccap) from rfl)
      have p_q_3 := (cell_of_row v5 _ 3 _ _ _ g_q).trans (show _ = some (Value.slice oa os.length ocap) from rfl)
      clear g_q
      go_wp2_with fail
      clear p_q_0 p_q_1 p_q_2 p_q_3
      refine (HT.out _ _ _ (condsR_below hc.out d.out) (ints_below ho.out d.out)).mono ?_
      rintro e v6 ⟨cv2, ov2, rfl, oc2, on2, dq2, c6⟩
      replace d := Lib.hid (d.out.trans (c6.mono d.out.size))
      clear c6
      obtain ⟨ca2, cp2, rfl⟩ := ownsC_len oc2
      obtain ⟨oa2, op2, rfl⟩ := ints_len (ownsN_ints on2)
      replace oc2 := Lib.hid oc2
      replace on2 := Lib.hid on2
      replace dq2 := Lib.hid dq2
      have hlc := Lib.hid (fun b hb => (oc2.out.lt b hb).2)
      have hlo := Lib.hid (fun b hb => (on2.out.lt b hb).2)
      have z1 := Lib.hid (Nat.le_refl v6.heap.size)
      have hal : Below v6.heap.size v6 (v6.alloc (.cells #[.int .i64 id, .int .i64 tn, .slice ca2 cs.length cp2, .slice oa2 os.length op2] 38)) := (Below.refl _ _).alloc (Nat.le_refl _) _
      have x := Lib.hid (heap_alloc_new v6 (.cells #[.int .i64 id, .int .i64 tn, .slice ca2 cs.length cp2, .slice oa2 os.length op2] 38))
      replace oc2 := Lib.hid (ownsC_below oc2.out hal)
      replace on2 := Lib.hid (ownsN_below on2.out hal)
      replace z1 := Lib.hid (Nat.le_trans z1.out hal.size)
      replace d := Lib.hid (d.out.trans (hal.mono d.out.size))
      clear hal
      go_wp2_with fail
      generalize (v6.alloc (.cells #[.int .i64 id, .int .i64 tn, .slice ca2 cs.length cp2, .slice oa2 os.length op2] 38)) = W5 at *
      have z1a := z1
      have zUr := Lib.hid d.out.size
      refine (HR.out _ _ (rowsR_below hv.out d.out)).mono ?_
      rintro e v7 ⟨rv2, rfl, or0, c7⟩
      replace oc2 := Lib.hid (ownsC_below oc2.out c7)
      replace on2 := Lib.hid (ownsN_below on2.out c7)
      replace x := Lib.hid ((c7.block v6.heap.size (Array.getElem?_eq_some_iff.1 x.out).1).trans x.out)
      replace z1 := Lib.hid (Nat.le_trans z1.out c7.size)
      replace d := Lib.hid (d.out.trans (c7.mono d.out.size))
      clear c7
      obtain ⟨vs2, or2⟩ := ownsV_of or0
      have hlr := Lib.hid (ownsV_bound or2)
      replace or2 := Lib.hid or2
      clear or0
      have z1b := z1
      have z2 := Lib.hid (Nat.le_refl v7.heap.size)
      have p_x_0 := (cell_of_row v7 _ 0 _ _ _ x.out).trans (show _ = some (Value.int .i64 id) from rfl)
      have p_x_1 := (cell_of_row v7 _ 1 _ _ _ x.out).trans (show _ = some (Value.int .i64 tn) from rfl)
      have p_x_2 := (cell_of_row v7 _ 2 _ _ _ x.out).trans (show _ = some (Value.slice ca2 cs.length cp2) from rfl)
      have p_x_3 := (cell_of_row v7 _ 3 _ _ _ x.out).trans (show _ = some (Value.slice oa2 os.length op2) from rfl)
      go_wp2_with fail
      clear p_x_0 p_x_1 p_x_2 p_x_3
      have z1c := z1
      have z2c := z2
      have zUg := Lib.hid d.out.size
      refine (HI.out _ _ _ _ (ownsC_conds oc2.out) (ownsN_ints on2.out) (ownsR_rows (ownsR_of or2.out))).mono ?_
      rintro e v8 ⟨gv, rfl, og, c8⟩
      replace oc2 := Lib.hid (ownsC_below oc2.out c8)
      replace on2 := Lib.hid (ownsN_below on2.out c8)
      replace x := Lib.hid ((c8.block v6.heap.size (Array.getElem?_eq_some_iff.1 x.out).1).trans x.out)
      replace or2 := Lib.hid (ownsV_below or2.out c8)
      replace z1 := Lib.hid (Nat.le_trans z1.out c8.size)
      replace z2 := Lib.hid (Nat.le_trans z2.out c8.size)
      replace d := Lib.hid (d.out.trans (c8.mono d.out.size))
      clear c8
      replace og := Lib.hid og
      go_wp2_with fail
      refine (HG.out _ _ _ (ownsR_rows og.out) (rowsR_below w0.out d.out)).mono ?_
      rintro e v9 ⟨rfl, c9⟩
      replace oc2 := Lib.hid (ownsC_below oc2.out c9)
      replace on2 := Lib.hid (ownsN_below on2.out c9)
      replace x := Lib.hid ((c9.block v6.heap.size (Array.getElem?_eq_some_iff.1 x.out).1).trans x.out)
      replace or2 := Lib.hid (ownsV_below or2.out c9)
      replace og := Lib.hid (ownsR_below og.out c9)
      replace z1 := Lib.hid (Nat.le_trans z1.out c9.size)
      replace z2 := Lib.hid (Nat.le_trans z2.out c9.size)
      replace d := Lib.hid (d.out.trans (c9.mono d.out.size))
      clear c9
      go_wp2
      have p_x_0 := (cell_of_row v9 _ 0 _ _ _ x.out).trans (show _ = some (Value.int .i64 id) from rfl)
      have p_x_1 := (cell_of_row v9 _ 1 _ _ _ x.out).trans (show _ = some (Value.int .i64 tn) from rfl)
      have p_x_2 := (cell_of_row v9 _ 2 _ _ _ x.out).trans (show _ = some (Value.slice ca2 cs.length cp2) from rfl)
      have p_x_3 := (cell_of_row v9 _ 3 _ _ _ x.out).trans (show _ = some (Value.slice oa2 os.length op2) from rfl)
      have g_q := (d.out.block w.heap.size (Array.getElem?_eq_some_iff.1 q.out).1).trans q.out
      have p_q_0 := (cell_of_row v9 _ 0 _ _ _ g_q).trans (show _ = some (Value.int .i64 id) from rfl)
      have p_q_1 := (cell_of_row v9 _ 1 _ _ _ g_q).trans (show _ = some (Value.int .i64 tn) from rfl)
      have p_q_2 := (cell_of_row v9 _ 2 _ _ _ g_q).trans (show _ = some (Value.slice ca cs.length ccap) from rfl)
      have p_q_3 := (cell_of_row v9 _ 3 _ _ _ g_q).trans (show _ = some (Value.slice oa os.length ocap) from rfl)
      clear g_q
      refine wp_region_held_drew (S := fun w' => w'.cell? ⟨v6.heap.size, 0, none⟩ = some (.int .i64 id) ∧ w'.cell? ⟨v6.heap.size, 1, none⟩ = some (.int .i64 tn) ∧ w'.cell? ⟨v6.heap.size, 2, none⟩ = some (.slice ca2 cs.length cp2) ∧ w'.cell? ⟨v6.heap.size, 3, none⟩ = some (.slice oa2 os.length op2) ∧ w'.cell? ⟨w.heap.size, 0, none⟩ = some (.int .i64 id) ∧ w'.cell? ⟨w.heap.size, 1, none⟩ = some (.int .i64 tn) ∧ w'.cell? ⟨w.heap.size, 2, none⟩ = some (.slice ca cs.length ccap) ∧ w'.cell? ⟨w.heap.size, 3, none⟩ = some (.slice oa os.length ocap)) (by kernel_rfl) ⟨p_x_0, p_x_1, p_x_2, p_x_3, p_q_0, p_q_1, p_q_2, p_q_3⟩ (fun hHeld => ?_)
      clear p_x_0 p_x_1 p_x_2 p_x_3 p_q_0 p_q_1 p_q_2 p_q_3
      have cdr : Below v9.heap.size v9 v9.drew := below_drew (Below.refl _ _)
      replace oc2 := Lib.hid (ownsC_below oc2.out cdr)
      replace on2 := Lib.hid (ownsN_below on2.out cdr)
      replace x := Lib.hid ((cdr.block v6.heap.size (Array.getElem?_eq_some_iff.1 x.out).1).trans x.out)
      replace or2 := Lib.hid (ownsV_below or2.out cdr)
      replace og := Lib.hid (ownsR_below og.out cdr)
      replace z1 := Lib.hid (Nat.le_trans z1.out cdr.size)
      replace z2 := Lib.hid (Nat.le_trans z2.out cdr.size)
      replace d := Lib.hid (d.out.trans (cdr.mono d.out.size))
      clear cdr
      refine take_runs (i := 0) (v := ?_) (by simp only [List.getElem?_toArray, List.getElem?_cons_succ, List.getElem?_cons_zero]; rfl) (by kernel_rfl) (by kernel_rfl) (by kernel_rfl) rfl (by exact fun _ _ _ h => h) (by rfl) ?_ (by assumption) ?_
      rotate_left
      · intro w hSw; (try dsimp only at hSw); go_simp; try (with_reducible rfl)
      try simp only [Act.put, List.setIfInBounds_toArray, List.set_cons_zero, List.set_cons_succ]
      refine take_runs (i := 1) (v := ?_) (by simp only [List.getElem?_toArray, List.getElem?_cons_succ, List.getElem?_cons_zero]; rfl) (by kernel_rfl) (by kernel_rfl) (by kernel_rfl) rfl (by exact fun _ _ _ h => h) (by rfl) ?_ (by assumption) ?_
      rotate_left
      · intro w hSw; (try dsimp only at hSw); go_simp; try (with_reducible rfl)
      try simp only [Act.put, List.setIfInBounds_toArray, List.set_cons_zero, List.set_cons_succ]
      refine wpAnyH_ready (rs := [2]) (by kernel_rfl) (by simp) ?_
      refine AllReadyH.cons (o := _) (by simp only [List.getElem?_toArray, List.getElem?_cons_succ, List.getElem?_cons_zero]; rfl) (fun K hK => ?_) AllReadyH.nil
      go_simp
      refine (HT.out _ _ _ (condsR_below hc.out d.out) (ints_below ho.out d.out)).mono ?_
      rintro e v10 ⟨cv3, ov3, rfl, oc3, on3, dq3, c10⟩
      replace oc2 := Lib.hid (ownsC_below oc2.out c10)
      replace on2 := Lib.hid (ownsN_below on2.out c10)
      replace x := Lib.hid ((c10.block v6.heap.size (Array.getElem?_eq_some_iff.1 x.out).1).trans x.out)
      replace or2 := Lib.hid (ownsV_below or2.out c10)
      replace og := Lib.hid (ownsR_below og.out c10)
      replace z1 := Lib.hid (Nat.le_trans z1.out c10.size)
      replace z2 := Lib.hid (Nat.le_trans z2.out c10.size)
      replace d := Lib.hid (d.out.trans (c10.mono d.out.size))
      clear c10
      obtain ⟨ca3, cp3, rfl⟩ := ownsC_len oc3
      obtain ⟨oa3, op3, rfl⟩ := ints_len (ownsN_ints on3)
      replace oc3 := Lib.hid oc3
      replace on3 := Lib.hid on3
      replace dq3 := Lib.hid dq3
      have p_x_0 := (cell_of_row v10 _ 0 _ _ _ x.out).trans (show _ = some (Value.int .i64 id) from rfl)
      have p_x_1 := (cell_of_row v10 _ 1 _ _ _ x.out).trans (show _ = some (Value.int .i64 tn) from rfl)
      have p_x_2 := (cell_of_row v10 _ 2 _ _ _ x.out).trans (show _ = some (Value.slice ca2 cs.length cp2) from rfl)
      have p_x_3 := (cell_of_row v10 _ 3 _ _ _ x.out).trans (show _ = some (Value.slice oa2 os.length op2) from rfl)
      have g_q := (d.out.block w.heap.size (Array.getElem?_eq_some_iff.1 q.out).1).trans q.out
      have p_q_0 := (cell_of_row v10 _ 0 _ _ _ g_q).trans (show _ = some (Value.int .i64 id) from rfl)
      have p_q_1 := (cell_of_row v10 _ 1 _ _ _ g_q).trans (show _ = some (Value.int .i64 tn) from rfl)
      have p_q_2 := (cell_of_row v10 _ 2 _ _ _ g_q).trans (show _ = some (Value.slice ca cs.length ccap) from rfl)
      have p_q_3 := (cell_of_row v10 _ 3 _ _ _ g_q).trans (show _ = some (Value.slice oa os.length ocap) from rfl)
      clear g_q
      refine hK.out _ _ ⟨p_x_0, p_x_1, p_x_2, p_x_3, p_q_0, p_q_1, p_q_2, p_q_3⟩ (fun hHeld => ?_)
      clear p_x_0 p_x_1 p_x_2 p_x_3 p_q_0 p_q_1 p_q_2 p_q_3
      clear hK K
      try simp only [Act.put, List.setIfInBounds_toArray, List.set_cons_zero, List.set_cons_succ]
      refine wpAnyH_ready (rs := [3]) (by kernel_rfl) (by simp) ?_
      refine AllReadyH.cons (o := _) (by simp only [List.getElem?_toArray, List.getElem?_cons_succ, List.getElem?_cons_zero]; rfl) (fun K hK => ?_) AllReadyH.nil
      go_simp
      refine (HE.out _ _ _ _ _ (ownsC_conds oc2.out) (ownsC_conds oc3.out) (ownsN_ints on2.out) (ownsN_ints on3.out)).mono ?_
      rintro e v11 ⟨rfl, c11⟩
      replace oc2 := Lib.hid (ownsC_below oc2.out c11)
      replace on2 := Lib.hid (ownsN_below on2.out c11)
      replace x := Lib.hid ((c11.block v6.heap.size (Array.getElem?_eq_some_iff.1 x.out).1).trans x.out)
      replace or2 := Lib.hid (ownsV_below or2.out c11)
      replace og := Lib.hid (ownsR_below og.out c11)
      replace oc3 := Lib.hid (ownsC_below oc3.out c11)
      replace on3 := Lib.hid (ownsN_below on3.out c11)
      replace z1 := Lib.hid (Nat.le_trans z1.out c11.size)
      replace z2 := Lib.hid (Nat.le_trans z2.out c11.size)
      replace d := Lib.hid (d.out.trans (c11.mono d.out.size))
      clear c11
      have p_x_0 := (cell_of_row v11 _ 0 _ _ _ x.out).trans (show _ = some (Value.int .i64 id) from rfl)
      have p_x_1 := (cell_of_row v11 _ 1 _ _ _ x.out).trans (show _ = some (Value.int .i64 tn) from rfl)
      have p_x_2 := (cell_of_row v11 _ 2 _ _ _ x.out).trans (show _ = some (Value.slice ca2 cs.length cp2) from rfl)
      have p_x_3 := (cell_of_row v11 _ 3 _ _ _ x.out).trans (show _ = some (Value.slice oa2 os.length op2) from rfl)
      have g_q := (d.out.block w.heap.size (Array.getElem?_eq_some_iff.1 q.out).1).trans q.out
      have p_q_0 := (cell_of_row v11 _ 0 _ _ _ g_q).trans (show _ = some (Value.int .i64 id) from rfl)
      have p_q_1 := (cell_of_row v11 _ 1 _ _ _ g_q).trans (show _ = some (Value.int .i64 tn) from rfl)
      have p_q_2 := (cell_of_row v11 _ 2 _ _ _ g_q).trans (show _ = some (Value.slice ca cs.length ccap) from rfl)
      have p_q_3 := (cell_of_row v11 _ 3 _ _ _ g_q).trans (show _ = some (Value.slice oa os.length ocap) from rfl)
      clear g_q
      refine hK.out _ _ ⟨p_x_0, p_x_1, p_x_2, p_x_3, p_q_0, p_q_1, p_q_2, p_q_3⟩ (fun hHeld => ?_)
      clear p_x_0 p_x_1 p_x_2 p_x_3 p_q_0 p_q_1 p_q_2 p_q_3
      clear hK K
      try simp only [Act.put, List.setIfInBounds_toArray, List.set_cons_zero, List.set_cons_succ]
      refine take_runs (i := 4) (v := ?_) (by simp only [List.getElem?_toArray, List.getElem?_cons_succ, List.getElem?_cons_zero]; rfl) (by kernel_rfl) (by kernel_rfl) (by kernel_rfl) rfl (by exact fun _ _ _ h => h) (by rfl) ?_ (by assumption) ?_
      rotate_left
      · intro w hSw; (try dsimp only at hSw); go_simp; try (with_reducible rfl)
      try simp only [Act.put, List.setIfInBounds_toArray, List.set_cons_zero, List.set_cons_succ]
      refine wpAnyH_done (by kernel_rfl) ?_ _
      clear hHeld
      clear oc3
      clear on3
      clear dq3
      go_wp2_with fail
      refine (HR.out _ _ (rowsR_below hv.out d.out)).mono ?_
      rintro e v12 ⟨rv3, rfl, or3, c12⟩
      replace oc2 := Lib.hid (ownsC_below oc2.out c12)
      replace on2 := Lib.hid (ownsN_below on2.out c12)
      replace x := Lib.hid ((c12.block v6.heap.size (Array.getElem?_eq_some_iff.1 x.out).1).trans x.out)
      replace or2 := Lib.hid (ownsV_below or2.out c12)
      replace og := Lib.hid (ownsR_below og.out c12)
      replace z1 := Lib.hid (Nat.le_trans z1.out c12.size)
      replace z2 := Lib.hid (Nat.le_trans z2.out c12.size)
      replace d := Lib.hid (d.out.trans (c12.mono d.out.size))
      clear c12
      replace or3 := Lib.hid or3
      go_wp2_with fail
      refine (HF.out _ _ _ (ownsR_rows (ownsR_of or2.out)) (ownsR_rows or3.out)).mono ?_
      rintro e v13 ⟨rfl, c13⟩
      replace oc2 := Lib.hid (ownsC_below oc2.out c13)
      replace on2 := Lib.hid (ownsN_below on2.out c13)
      replace x := Lib.hid ((c13.block v6.heap.size (Array.getElem?_eq_some_iff.1 x.out).1).trans x.out)
      replace or2 := Lib.hid (ownsV_below or2.out c13)
      replace og := Lib.hid (ownsR_below og.out c13)
      replace or3 := Lib.hid (ownsR_below or3.out c13)
      replace z1 := Lib.hid (Nat.le_trans z1.out c13.size)
      replace z2 := Lib.hid (Nat.le_trans z2.out c13.size)
      replace d := Lib.hid (d.out.trans (c13.mono d.out.size))
      clear c13
      clear or3
      have p_x_0 := (cell_of_row v13 _ 0 _ _ _ x.out).trans (show _ = some (Value.int .i64 id) from rfl)
      have p_x_1 := (cell_of_row v13 _ 1 _ _ _ x.out).trans (show _ = some (Value.int .i64 tn) from rfl)
      have p_x_2 := (cell_of_row v13 _ 2 _ _ _ x.out).trans (show _ = some (Value.slice ca2 cs.length cp2) from rfl)
      have p_x_3 := (cell_of_row v13 _ 3 _ _ _ x.out).trans (show _ = some (Value.slice oa2 os.length op2) from rfl)
      go_wp2_with fail
      clear p_x_0 p_x_1 p_x_2 p_x_3
      refine (HMQ.out _ _ v5.heap.size v6.heap.size _ oc2.out on2.out dq2.out hlc.out hlo.out z1.out).mono ?_
      rintro e v14 ⟨rfl, _, _, k14⟩
      clear oc2
      clear on2
      clear x
      replace or2 := Lib.hid (ownsV_only or2.out k14 z1a.out)
      replace og := Lib.hid (ownsR_only og.out k14 z1c.out)
      replace z1 := Lib.hid (Nat.le_trans z1.out k14.size)
      replace z2 := Lib.hid (Nat.le_trans z2.out k14.size)
      replace d := Lib.hid (only_below d.out k14 (Nat.le_refl _) d.out.size)
      clear k14 dq2 hlc hlo z1 z1a z1b z1c
      go_wp2_with fail
      refine (HMK.out _ vs2 W5.heap.size v7.heap.size _ or2.out hlr.out.1 hlr.out.2).mono ?_
      rintro e v15 ⟨rfl, _, k15⟩
      clear or2
      replace og := Lib.hid (ownsR_only og.out k15 z2c.out)
      replace z2 := Lib.hid (Nat.le_trans z2.out k15.size)
      replace d := Lib.hid (only_below d.out k15 zUr.out d.out.size)
      clear k15 hlr z2 z2c
      go_wp2_with fail
      refine (HG.out _ _ _ (ownsR_rows og.out) (rowsR_below w0.out d.out)).mono ?_
      rintro e v16 ⟨rfl, c16⟩
      replace og := Lib.hid (ownsR_below og.out c16)
      replace d := Lib.hid (d.out.trans (c16.mono d.out.size))
      clear c16
      go_wp2_with fail
      refine (HMG.out _ v7.heap.size _ _ og.out (Below.refl _ _)).mono ?_
      rintro e v17 ⟨rfl, om, k17⟩
      clear og
      replace d := Lib.hid (only_below d.out k17 zUg.out d.out.size)
      clear k17
      have og := Lib.hid om
      clear om
      go_wp2_with fail
      refine (HHG.out _ _ (ownsR_rows og.out)).mono ?_
      rintro e v18 ⟨rfl, c18⟩
      replace og := Lib.hid (ownsR_below og.out c18)
      replace d := Lib.hid (d.out.trans (c18.mono d.out.size))
      clear c18
      have g_q := (d.out.block w.heap.size (Array.getElem?_eq_some_iff.1 q.out).1).trans q.out
      have p_q_0 := (cell_of_row v18 _ 0 _ _ _ g_q).trans (show _ = some (Value.int .i64 id) from rfl)
      have p_q_1 := (cell_of_row v18 _ 1 _ _ _ g_q).trans (show _ = some (Value.int .i64 tn) from rfl)
      have p_q_2 := (cell_of_row v18 _ 2 _ _ _ g_q).trans (show _ = some (Value.slice ca cs.length ccap) from rfl)
      have p_q_3 := (cell_of_row v18 _ 3 _ _ _ g_q).trans (show _ = some (Value.slice oa os.length ocap) from rfl)
      clear g_q
      go_wp2_with fail
      clear p_q_0 p_q_1 p_q_2 p_q_3
      refine (HT.out _ _ _ (condsR_below hc.out d.out) (ints_below ho.out d.out)).mono ?_
      rintro e v19 ⟨cv4, ov4, rfl, oc4, on4, dq4, c19⟩
      replace og := Lib.hid (ownsR_below og.out c19)
      replace d := Lib.hid (d.out.trans (c19.mono d.out.size))
      clear c19
      obtain ⟨ca4, cp4, rfl⟩ := ownsC_len oc4
      obtain ⟨oa4, op4, rfl⟩ := ints_len (ownsN_ints on4)
      replace oc4 := Lib.hid oc4
      replace on4 := Lib.hid on4
      replace dq4 := Lib.hid dq4
      go_wp2_with fail
      refine (HR.out _ _ (rowsR_below hv.out d.out)).mono ?_
      rintro e v20 ⟨rv4, rfl, or4, c20⟩
      replace og := Lib.hid (ownsR_below og.out c20)
      replace oc4 := Lib.hid (ownsC_below oc4.out c20)
      replace on4 := Lib.hid (ownsN_below on4.out c20)
      replace d := Lib.hid (d.out.trans (c20.mono d.out.size))
      clear c20
      replace or4 := Lib.hid or4
      go_wp2_with fail
      refine (HI.out _ _ _ _ (ownsC_conds oc4.out) (ownsN_ints on4.out) (ownsR_rows or4.out)).mono ?_
      rintro e v21 ⟨hv4, rfl, oh, c21⟩
      replace og := Lib.hid (ownsR_below og.out c21)
      replace oc4 := Lib.hid (ownsC_below oc4.out c21)
      replace on4 := Lib.hid (ownsN_below on4.out c21)
      replace or4 := Lib.hid (ownsR_below or4.out c21)
      replace d := Lib.hid (d.out.trans (c21.mono d.out.size))
      clear c21
      replace oh := Lib.hid oh
      clear oc4
      clear on4
      clear or4
      clear dq4
      go_wp2_with fail
      refine (HG.out _ _ _ (ownsR_rows oh.out) (rowsR_below w0.out d.out)).mono ?_
      rintro e v22 ⟨rfl, c22⟩
      replace og := Lib.hid (ownsR_below og.out c22)
      replace oh := Lib.hid (ownsR_below oh.out c22)
      replace d := Lib.hid (d.out.trans (c22.mono d.out.size))
      clear c22
      go_wp2_with fail
      refine (HHG.out _ _ (ownsR_rows og.out)).mono ?_
      rintro e v23 ⟨rfl, c23⟩
      replace og := Lib.hid (ownsR_below og.out c23)
      replace oh := Lib.hid (ownsR_below oh.out c23)
      replace d := Lib.hid (d.out.trans (c23.mono d.out.size))
      clear c23
      go_wp2
      go_ret
      exact ⟨rfl, HB0.out.trans ((D0.out.trans (d.out.mono D0.out.size)).mono HB0.out.size)⟩
    · have HY := Lib.hid (fun v w h => szRowS_no v rs (1048576 - (cs.length : Int) - (os.length : Int)) w h (by omega) (by omega) (by omega) hx hy)
      clear himpl hl hl2 hn hm hx hy h g gr q
      go_enter Try.func4, Try.ntmps4
      go_wp2_with fail
      generalize (w.alloc (.cells #[.int .i64 id, .int .i64 tn, .slice ca cs.length ccap, .slice oa os.length ocap] 33)) = W at *
      refine (HZ.out _).mono ?_
      rintro e w1 ⟨rfl, b1⟩
      have b2 := hb0.trans (b1.mono hb0.size)
      have gv := rowsR_below hv.out b1
      clear b1 hb0 HZ hv
      go_wp2_with fail
      refine (HY.out _ _ gv).mono ?_
      rintro e w2 ⟨rfl, b3⟩
      have b4 := b2.trans (b3.mono b2.size)
      go_wp2
      go_ret
      exact ⟨rfl, b4⟩
  · have HZ := Lib.hid (fun w => szQuery_no id tn ca oa ccap ocap cs.length os.length 1048576 w (by omega) (by omega) (by omega) hn hm)
    clear himpl hl hn hm hx hy h g gr q  hv
    go_enter Try.func4, Try.ntmps4
    go_wp2_with fail
    generalize (w.alloc (.cells #[.int .i64 id, .int .i64 tn, .slice ca cs.length ccap, .slice oa os.length ocap] 33)) = W at *
    refine (HZ.out _).mono ?_
    rintro e w1 ⟨rfl, b1⟩
    have b2 := hb0.trans (b1.mono hb0.size)
    go_wp2
    go_ret
    exact ⟨rfl, b2⟩
end Go.Proofs.Ytginjmnohnidiaa
namespace Go.Proofs.Ytginjmnohnidiaa
open Go.RowKit
set_option linter.unusedVariables false
theorem lessL_irr : ∀ xs : List Int, lessL xs xs = false
  | [] => rfl
  | x :: xs => by simp only [lessL, if_true]; exact lessL_irr xs
theorem lessL_tri : ∀ xs ys : List Int, lessL xs ys = false → lessL ys xs = false → xs = ys
  | [], [], _, _ => rfl
  | [], y :: ys, h, _ => by simp [lessL] at h
  | x :: xs, [], _, h => by simp [lessL] at h
  | x :: xs, y :: ys, h1, h2 => by
    by_cases e : x = y
    · subst e
      simp only [lessL, if_true] at h1 h2
      rw [lessL_tri xs ys h1 h2]
    · simp only [lessL, if_neg e, if_neg (fun g => e (Eq.symm g)), decide_eq_false_iff_not] at h1 h2
      omega
theorem lessL_trans : ∀ xs ys zs : List Int, lessL xs ys = true → lessL ys zs = true → lessL xs zs = true
  | _, _, [], _, h => by cases ‹List Int› <;> simp [lessL] at h
  | _, [], _ :: _, h, _ => by cases ‹List Int› <;> simp [lessL] at h
  | [], y :: ys, z :: zs, _, _ => rfl
  | x :: xs, y :: ys, z :: zs, h1, h2 => by
    by_cases e : x = y
    · subst e
      by_cases e2 : x = z
      · subst e2
        simp only [lessL, if_true] at h1 h2 ⊢
        exact lessL_trans xs ys zs h1 h2
      · simp only [lessL, if_neg e2] at h2 ⊢
        exact h2
    · by_cases e2 : y = z
      · subst e2
        simp only [lessL, if_neg e] at h1 ⊢
        exact h1
      · simp only [lessL, if_neg e, if_neg e2, decide_eq_true_eq] at h1 h2
        have e3 : ¬ x = z := by omega
        simp only [lessL, if_neg e3, decide_eq_true_eq]
        omega
theorem rowLess_irr (a : RowD) : rowLess a a = false := by unfold rowLess; rw [if_pos rfl]; exact lessL_irr _
theorem rowLess_tri (a b : RowD) (h1 : rowLess a b = false) (h2 : rowLess b a = false) : a = b := by
  unfold rowLess at h1 h2
  by_cases e : a.1 = b.1
  · rw [if_pos e] at h1
    rw [if_pos e.symm] at h2
    exact Prod.ext e (lessL_tri _ _ h1 h2)
  · rw [if_neg e, decide_eq_false_iff_not] at h1
    rw [if_neg (fun g => e g.symm), decide_eq_false_iff_not] at h2
    omega
theorem rowLess_trans (a b c : RowD) (h1 : rowLess a b = true) (h2 : rowLess b c = true) : rowLess a c = true := by
  unfold rowLess at *
  by_cases e : a.1 = b.1
  · rw [if_pos e] at h1
    by_cases e2 : b.1 = c.1
    · rw [if_pos e2] at h2
      rw [if_pos (e.trans e2)]
      exact lessL_trans _ _ _ h1 h2
    · rw [if_neg e2] at h2
      rw [if_neg (fun g => e2 (e.symm.trans g)), e]
      exact h2
  · rw [if_neg e, decide_eq_true_eq] at h1
    by_cases e2 : b.1 = c.1
    · rw [if_neg (fun g => e (g.trans e2.symm)), ← e2]
      exact decide_eq_true h1
    · rw [if_neg e2, decide_eq_true_eq] at h2
      rw [if_neg (by omega)]
      exact decide_eq_true (by omega)
theorem rowLess_asym {a b : RowD} (h : rowLess a b = true) : rowLess b a = false := by
  rw [Bool.eq_false_iff]
  intro g
  have := rowLess_trans a b a h g
  rw [rowLess_irr] at this
  exact Bool.noConfusion this
theorem rowLess_ntrans (a b c : RowD) (h1 : rowLess a b = false) (h2 : rowLess b c = false) : rowLess a c = false := by
  rw [Bool.eq_false_iff]
  intro g
  cases h3 : rowLess b a with
  | true => rw [rowLess_trans b a c h3 g] at h2; exact Bool.noConfusion h2
  | false => rw [rowLess_tri a b h1 h3] at g; rw [g] at h2; exact Bool.noConfusion h2
/-- Sorted: none before one that is less. -/
def SortedL (rs : List RowD) : Prop := rs.Pairwise (fun a b => rowLess b a = false)
theorem insAt_spec (rs : List RowD) (r : RowD) : ∀ k, (∀ i, insAt rs r k ≤ i → i < k → rowLess r (rs.getD i (0, [])) = true) ∧ (∀ p, insAt rs r k = p + 1 → rowLess r (rs.getD p (0, [])) = false)
  | 0 => ⟨fun i _ h => by omega, fun p h => by simp [insAt] at h⟩
  | k + 1 => by
    obtain ⟨h1, h2⟩ := insAt_spec rs r k
    cases h : rowLess r (rs.getD k (0, [])) with
    | true =>
      rw [insAt_down h]
      refine ⟨fun i hi hk => ?_, h2⟩
      by_cases e : i = k
      · rw [e]; exact h
      · exact h1 i hi (by omega)
    | false =>
      rw [insAt_stop h]
      refine ⟨fun i hi hk => by omega, fun p hp => ?_⟩
      rw [show p = k by omega]
      exact h
theorem sorted_at {rs : List RowD} (h : SortedL rs) {i j : Nat} (hij : i < j) (hj : j < rs.length) : rowLess (rs.getD j (0, [])) (rs.getD i (0, [])) = false := by
  have := List.pairwise_iff_getElem.1 h i j (by omega) hj hij
  have hi : i < rs.length := by omega
  simpa [List.getD, hi, hj] using this
theorem getD_at {rs : List RowD} {i : Nat} (hi : i < rs.length) : rs.getD i (0, []) = rs[i] := by simp [List.getD, hi]
theorem insL_sorted {rs : List RowD} {r : RowD} (h : SortedL rs) : SortedL (insL rs r) := by
  obtain ⟨h1, h2⟩ := insAt_spec rs r rs.length
  have hle := insAt_le rs r rs.length
  unfold insL SortedL
  generalize insAt rs r rs.length = p at *
  have hlow : ∀ x ∈ rs.take p, rowLess r x = false := by
    intro x hx
    obtain ⟨i, hi, rfl⟩ := List.getElem_of_mem hx
    rw [List.length_take] at hi
    obtain ⟨q, rfl⟩ : ∃ q, p = q + 1 := ⟨p - 1, by omega⟩
    have hq := h2 q rfl
    rw [List.getElem_take, ← getD_at (by omega)]
    by_cases e : i = q
    · rw [e]; exact hq
    · exact rowLess_ntrans _ _ _ hq (sorted_at h (by omega) (by omega))
  have hhigh : ∀ x ∈ rs.drop p, rowLess x r = false := by
    intro x hx
    obtain ⟨i, hi, rfl⟩ := List.getElem_of_mem hx
    rw [List.length_drop] at hi
    rw [List.getElem_drop, ← getD_at (by omega)]
    exact rowLess_asym (h1 (p + i) (by omega) (by omega))
  have hs : (rs.take p ++ rs.drop p).Pairwise (fun a b => rowLess b a = false) := by rw [List.take_append_drop]; exact h
  obtain ⟨s1, s2, s3⟩ := List.pairwise_append.1 hs
  refine List.pairwise_append.2 ⟨s1, List.pairwise_cons.2 ⟨hhigh, s2⟩, fun a ha b hb => ?_⟩
  rcases List.mem_cons.1 hb with rfl | hb
  · exact hlow a ha
  · exact s3 a ha b hb
theorem foldl_sorted (a : List RowD) : ∀ acc, SortedL acc → SortedL (a.foldl insL acc) := by
  induction a with
  | nil => intro acc h; exact h
  | cons r a ih => intro acc h; exact ih _ (insL_sorted h)
theorem sortL_sorted (a : List RowD) : SortedL (sortL a) := foldl_sorted a [] List.Pairwise.nil
/-- There is one sorted permutation. -/
theorem sortL_unique {a b : List RowD} (hp : b.Perm a) (hs : SortedL b) : b = sortL a :=
  List.Perm.eq_of_pairwise (le := fun x y => rowLess y x = false) (fun x y _ _ h1 h2 => rowLess_tri x y h2 h1) hs (sortL_sorted a) (hp.trans (sortL_perm a).symm)
/-! The program's comparison: a number below zero, zero, or above zero. -/
def cmpL : List Int → List Int → Int
  | [], [] => 0
  | [], _ :: _ => -1
  | _ :: _, [] => 1
  | x :: xs, y :: ys => if Lib.compareInt x y = 0 then cmpL xs ys else Lib.compareInt x y
def cmpR (a b : RowD) : Int := if Lib.compareInt a.1 b.1 = 0 then cmpL a.2 b.2 else Lib.compareInt a.1 b.1
theorem compareInt_zero (x y : Int) : Lib.compareInt x y = 0 ↔ x = y := by unfold Lib.compareInt; split <;> (try split) <;> omega
theorem compareInt_neg (x y : Int) : Lib.compareInt x y < 0 ↔ x < y := by unfold Lib.compareInt; split <;> (try split) <;> omega
theorem cmpL_less : ∀ xs ys : List Int, decide (cmpL xs ys < 0) = lessL xs ys
  | [], [] => by simp [cmpL, lessL]
  | [], _ :: _ => by simp [cmpL, lessL]
  | _ :: _, [] => by simp [cmpL, lessL]
  | x :: xs, y :: ys => by
    unfold cmpL lessL
    by_cases e : x = y
    · rw [if_pos ((compareInt_zero x y).2 e), if_pos e]
      exact cmpL_less xs ys
    · rw [if_neg (fun g => e ((compareInt_zero x y).1 g)), if_neg e]
      exact decide_eq_decide.2 (compareInt_neg x y)
theorem cmpR_less (a b : RowD) : decide (cmpR a b < 0) = rowLess a b := by
  unfold cmpR rowLess
  by_cases e : a.1 = b.1
  · rw [if_pos ((compareInt_zero _ _).2 e), if_pos e]
    exact cmpL_less _ _
  · rw [if_neg (fun g => e ((compareInt_zero _ _).1 g)), if_neg e]
    exact decide_eq_decide.2 (compareInt_neg _ _)
theorem cmpL_step {xs ys : List Int} {k : Nat} (hx : k < xs.length) (hy : k < ys.length) (h : Lib.compareInt (xs.getD k 0) (ys.getD k 0) = 0) : cmpL (xs.drop k) (ys.drop k) = cmpL (xs.drop (k + 1)) (ys.drop (k + 1)) := by
  rw [List.drop_eq_getElem_cons hx, List.drop_eq_getElem_cons hy]
  have e : Lib.compareInt xs[k] ys[k] = 0 := by simpa [List.getD, hx, hy] using h
  simp only [cmpL, e, if_true]
theorem cmpL_ne {xs ys : List Int} {k : Nat} (hx : k < xs.length) (hy : k < ys.length) (h : ¬ Lib.compareInt (xs.getD k 0) (ys.getD k 0) = 0) : cmpL (xs.drop k) (ys.drop k) = Lib.compareInt (xs.getD k 0) (ys.getD k 0) := by
  rw [List.drop_eq_getElem_cons hx, List.drop_eq_getElem_cons hy]
  have e : ¬ Lib.compareInt xs[k] ys[k] = 0 := by simpa [List.getD, hx, hy] using h
  simp only [cmpL, if_neg e]
  simp [List.getD, hx, hy]
theorem cmpL_long {xs ys : List Int} (hx : ys.length < xs.length) : cmpL (xs.drop ys.length) (ys.drop ys.length) = 1 := by
  rw [List.drop_length, List.drop_eq_getElem_cons hx]
  rfl
theorem cmpL_end {xs ys : List Int} (h : xs.length ≤ ys.length) : cmpL (xs.drop xs.length) (ys.drop xs.length) = if xs.length < ys.length then -1 else 0 := by
  rw [List.drop_length]
  by_cases e : xs.length < ys.length
  · rw [if_pos e, List.drop_eq_getElem_cons e]
    rfl
  · rw [if_neg e, List.drop_eq_nil_of_le (by omega)]
    rfl
end Go.Proofs.Ytginjmnohnidiaa
namespace Go.Proofs.Ytginjmnohnidiaa
open Go.RowKit
set_option linter.unusedVariables false
set_option linter.unusedSimpArgs false
theorem box2 {W w : World} {g : Nat} {i j x y : Value} (g0 : W.heap[g]? = some (.cells #[i, x] 76 (0, 0))) (g1 : W.heap[g + 1]? = some (.cells #[j, y] 76 (0, 0))) (hz : g + 1 < W.heap.size) (hb : Below W.heap.size W w) :
    w.cell? ⟨g, 0, none⟩ = some i ∧ w.cell? ⟨g, 1, none⟩ = some x ∧ w.cell? ⟨g + 1, 0, none⟩ = some j ∧ w.cell? ⟨g + 1, 1, none⟩ = some y := by
  have h0 := (hb.block g (by omega)).trans g0
  have h1 := (hb.block (g + 1) hz).trans g1
  have a0 := cell_of_row w _ 0 _ _ _ h0
  have a1 := cell_of_row w _ 1 _ _ _ h0
  have a2 := cell_of_row w _ 0 _ _ _ h1
  have a3 := cell_of_row w _ 1 _ _ _ h1
  simp at a0 a1 a2 a3
  exact ⟨a0, a1, a2, a3⟩
end Go.Proofs.Ytginjmnohnidiaa
namespace Go.Proofs.Ytginjmnohnidiaa
open Go.RowKit
set_option linter.unusedVariables false
set_option linter.unusedSimpArgs false
set_option maxHeartbeats 4000000 in
set_option maxRecDepth 100000 in
theorem cmpOr_any (b : Nat) (x y : Int) (w : World) (h0 : w.cell? ⟨b, 0, none⟩ = some (.int .i64 x)) (h1 : w.cell? ⟨b, 1, none⟩ = some (.int .i64 y)) :
    Calls Try.prog 96 #[.slice (some ⟨b, 0, none⟩) 2 2] w fun e w' => e = .returned (.int .i64 (if x = 0 then y else x)) ∧ w' = w := by
  by_cases hx : x = 0
  · subst hx
    rw [if_pos rfl]
    by_cases hy : y = 0
    · subst hy
      go_enter Try.func96, Try.ntmps96
      go_wp2
      refine wp_loop_rounds 3 ?_
      rw [rounds_succ]
      go_wp2
      rw [rounds_succ]
      go_wp2
      rw [rounds_succ]
      go_wp2
      go_ret
      exact ⟨rfl, rfl⟩
    · have hd : (y != 0) = true := by simpa using hy
      go_enter Try.func96, Try.ntmps96
      go_wp2
      refine wp_loop_rounds 3 ?_
      rw [rounds_succ]
      go_wp2
      rw [rounds_succ]
      go_wp2
      go_ret
      exact ⟨rfl, rfl⟩
  · rw [if_neg hx]
    have hd : (x != 0) = true := by simpa using hx
    go_enter Try.func96, Try.ntmps96
    go_wp2
    refine wp_loop_rounds 3 ?_
    rw [rounds_succ]
    go_wp2
    go_ret
    exact ⟨rfl, rfl⟩
theorem ret_ii {a b : Int} (h : a = b) : Ending.returned (.int .i64 a) = .returned (.int .i64 b) := by rw [h]
set_option maxHeartbeats 8000000 in
set_option maxRecDepth 100000 in
theorem compareInts_any (v u : Value) (xs ys : List Int) (w : World) (h : Ints w v xs) (g : Ints w u ys) (hn : xs.length ≤ 1048576) (hm : ys.length ≤ 1048576) :
    Calls Try.prog 98 #[v, u] w fun e w' => e = .returned (.int .i64 (cmpL xs ys)) ∧ w' = w := by
  have H := Lib.hid h
  have G := Lib.hid g
  obtain ⟨a, cap, rfl⟩ := ints_len h
  obtain ⟨a2, cap2, rfl⟩ := ints_len g
  clear h g
  have HC := Lib.hid (fun x y w => Try.cmp_Compare_int x y w)
  go_enter Try.func98, Try.ntmps98
  go_wp2
  go_loopw [11] (fun i wr => ∃ k : Nat, k ≤ xs.length ∧ k ≤ ys.length ∧ i = .int .i64 k ∧ Hid (cmpL (xs.drop k) (ys.drop k) = cmpL xs ys) ∧ wr = w) (fun i _ => xs.length - (intOf i).toNat)
  case atStart => exact ⟨0, Nat.zero_le _, Nat.zero_le _, rfl, Lib.hid (by simp), rfl⟩
  case round =>
    obtain ⟨k, hk, hk2, rfl, hall, rfl⟩ := hrel
    by_cases hlt : k < xs.length
    · by_cases hlt2 : k < ys.length
      · obtain ⟨b, off, cap', hv, hbl, hc⟩ := ints_cell H.out (by omega)
        obtain ⟨b2, off2, cap2', hv2, hbl2, hc2⟩ := ints_cell G.out (by omega)
        simp only [Value.slice.injEq] at hv hv2
        obtain ⟨rfl, _, rfl⟩ := hv
        obtain ⟨rfl, _, rfl⟩ := hv2
        have hcell := hc k hlt
        have hcell2 := hc2 k hlt2
        have i1 : (0 : Int) ≤ (k : Int) := by omega
        have i2 : (k : Int) < (xs.length : Int) := by omega
        have i3 : (k : Int) < (ys.length : Int) := by omega
        have i4 : ¬ (ys.length : Int) ≤ (k : Int) := by omega
        clear hc hc2
        by_cases he : Lib.compareInt (xs.getD k 0) (ys.getD k 0) = 0
        · have HA : Hid (cmpL (xs.drop (k + 1)) (ys.drop (k + 1)) = cmpL xs ys) := Lib.hid ((cmpL_step hlt hlt2 he).symm.trans hall.out)
          have HCC := Lib.hid (HC.out (xs.getD k 0) (ys.getD k 0))
          rw [he] at HCC
          clear he hall HC
          generalize xs.getD k 0 = y at *
          generalize ys.getD k 0 = z at *
          go_wp2_with fail
          refine (HCC.out _).mono ?_
          rintro e w8 ⟨rfl, rfl⟩
          go_wp2
          go_roundw
          case rel => exact ⟨k + 1, by omega, by omega, by go_num, HA, by simp⟩
          case measure => simp [intOf]; omega
        · have HF := Lib.hid ((cmpL_ne hlt hlt2 he).symm.trans hall.out)
          have HCC := Lib.hid (HC.out (xs.getD k 0) (ys.getD k 0))
          generalize Lib.compareInt (xs.getD k 0) (ys.getD k 0) = r at *
          have hd : (r != 0) = true := by simpa using he
          clear he hall HC
          generalize xs.getD k 0 = y at *
          generalize ys.getD k 0 = z at *
          go_wp2_with fail
          refine (HCC.out _).mono ?_
          rintro e w8 ⟨rfl, rfl⟩
          go_wp2
          go_ret
          exact ⟨ret_ii HF.out, rfl⟩
      · obtain rfl : k = ys.length := by omega
        obtain ⟨b, off, cap', hv, hbl, hc⟩ := ints_cell H.out (by omega)
        simp only [Value.slice.injEq] at hv
        obtain ⟨rfl, _, rfl⟩ := hv
        have hcell := hc ys.length hlt
        have i2 : (ys.length : Int) < (xs.length : Int) := by omega
        have HF := Lib.hid ((cmpL_long hlt).symm.trans hall.out)
        clear hc hall
        generalize xs.getD ys.length 0 = y at *
        go_wp2
        go_ret
        exact ⟨ret_ii HF.out, rfl⟩
    · obtain rfl : k = xs.length := by omega
      have HF := Lib.hid ((cmpL_end hk2).symm.trans hall.out)
      clear hall
      by_cases hl : xs.length < ys.length
      · rw [if_pos hl] at HF
        have i2 : (xs.length : Int) < (ys.length : Int) := by omega
        go_wp2
        go_ret
        exact ⟨ret_ii HF.out, rfl⟩
      · rw [if_neg hl] at HF
        have i2 : ¬ (xs.length : Int) < (ys.length : Int) := by omega
        go_wp2
        go_ret
        exact ⟨ret_ii HF.out, rfl⟩
set_option maxHeartbeats 8000000 in
set_option maxRecDepth 100000 in
theorem compareRows_any (id id2 : Int) (v u : Value) (xs ys : List Int) (w : World) (h : Ints w v xs) (g : Ints w u ys) (hn : xs.length ≤ 1048576) (hm : ys.length ≤ 1048576) :
    Calls Try.prog 53 #[.agg #[.int .i64 id, v], .agg #[.int .i64 id2, u]] w fun e w' => e = .returned (.int .i64 (cmpR (id, xs) (id2, ys))) ∧ ∃ q os, w' = Sort.grow (w.drewN q) os := by
  have H1 := Lib.hid (fun w => Try.cmp_Compare_int id id2 w)
  have H2 := Lib.hid (fun w h g => compareInts_any v u xs ys w h g hn hm)
  have HV := Lib.hid h
  have HU := Lib.hid g
  have HP : Hid (cmpR (id, xs) (id2, ys) = if Lib.compareInt id id2 = 0 then cmpL xs ys else Lib.compareInt id id2) := Lib.hid rfl
  obtain ⟨a, cap, rfl⟩ := ints_len h
  obtain ⟨a2, cap2, rfl⟩ := ints_len g
  clear h g hn hm
  generalize Lib.compareInt id id2 = c1 at *
  generalize cmpL xs ys = c2 at *
  generalize cmpR (id, xs) (id2, ys) = c3 at *
  have HO := Lib.hid (fun b w h0 h1 => cmpOr_any b c1 c2 w h0 h1)
  go_enter Try.func53, Try.ntmps53
  go_wp2
  have hh : Below w.heap.size w ((w.alloc (.cells #[.int .i64 id, .slice a xs.length cap] 76)).alloc (.cells #[.int .i64 id2, .slice a2 ys.length cap2] 76)) := ((Below.refl _ w).alloc (Nat.le_refl _) _).alloc (by simp) _
  have g1 : ((w.alloc (.cells #[.int .i64 id, .slice a xs.length cap] 76)).alloc (.cells #[.int .i64 id2, .slice a2 ys.length cap2] 76)).heap[w.heap.size + 1]? = some (.cells #[.int .i64 id2, .slice a2 ys.length cap2] 76 (0, 0)) := by
    have := heap_alloc_new (w.alloc (.cells #[.int .i64 id, .slice a xs.length cap] 76)) (.cells #[.int .i64 id2, .slice a2 ys.length cap2] 76)
    simpa only [World.size_alloc] using this
  have g0 : ((w.alloc (.cells #[.int .i64 id, .slice a xs.length cap] 76)).alloc (.cells #[.int .i64 id2, .slice a2 ys.length cap2] 76)).heap[w.heap.size]? = some (.cells #[.int .i64 id, .slice a xs.length cap] 76 (0, 0)) := by
    rw [Below.heap_alloc _ _ _ (by simp)]
    exact heap_alloc_new w _
  have hz1 : w.heap.size + 1 < ((w.alloc (.cells #[.int .i64 id, .slice a xs.length cap] 76)).alloc (.cells #[.int .i64 id2, .slice a2 ys.length cap2] 76)).heap.size := by simp
  have hg : Hid (((w.alloc (.cells #[.int .i64 id, .slice a xs.length cap] 76)).alloc (.cells #[.int .i64 id2, .slice a2 ys.length cap2] 76)) = Sort.grow w #[(.cells #[.int .i64 id, .slice a xs.length cap] 76), (.cells #[.int .i64 id2, .slice a2 ys.length cap2] 76)]) := Lib.hid (by rw [Sort.alloc_eq_grow, Sort.alloc_eq_grow, Sort.grow_grow]; rfl)
  generalize ((w.alloc (.cells #[.int .i64 id, .slice a xs.length cap] 76)).alloc (.cells #[.int .i64 id2, .slice a2 ys.length cap2] 76)) = W at *
  have z1 := box2 g0 g1 hz1 (Below.refl _ W)
  refine wp_region_held_drew (S := fun w' => w'.cell? ⟨w.heap.size, 0, none⟩ = some (.int .i64 id) ∧ w'.cell? ⟨w.heap.size, 1, none⟩ = some (.slice a xs.length cap) ∧ w'.cell? ⟨w.heap.size + 1, 0, none⟩ = some (.int .i64 id2) ∧ w'.cell? ⟨w.heap.size + 1, 1, none⟩ = some (.slice a2 ys.length cap2)) (by kernel_rfl) ⟨z1.1, z1.2.1, z1.2.2.1, z1.2.2.2⟩ (fun hHeld => ?_)
  refine take_runs (i := 0) (v := ?_) (by simp only [List.getElem?_toArray, List.getElem?_cons_succ, List.getElem?_cons_zero]; rfl) (by kernel_rfl) (by kernel_rfl) (by kernel_rfl) rfl (by exact fun _ _ _ h => h) (by rfl) ?_ (by assumption) ?_
  rotate_left
  · intro w hSw; (try dsimp only at hSw); go_simp; try (with_reducible rfl)
  try simp only [Act.put, List.setIfInBounds_toArray, List.set_cons_zero, List.set_cons_succ]
  refine take_runs (i := 1) (v := ?_) (by simp only [List.getElem?_toArray, List.getElem?_cons_succ, List.getElem?_cons_zero]; rfl) (by kernel_rfl) (by kernel_rfl) (by kernel_rfl) rfl (by exact fun _ _ _ h => h) (by rfl) ?_ (by assumption) ?_
  rotate_left
  · intro w hSw; (try dsimp only at hSw); go_simp; try (with_reducible rfl)
  try simp only [Act.put, List.setIfInBounds_toArray, List.set_cons_zero, List.set_cons_succ]
  refine take_runs (i := 2) (v := ?_) (by simp only [List.getElem?_toArray, List.getElem?_cons_succ, List.getElem?_cons_zero]; rfl) (by kernel_rfl) (by kernel_rfl) (by kernel_rfl) rfl (by exact fun _ _ _ h => h) (by rfl) ?_ (by assumption) ?_
  rotate_left
  · intro w hSw; (try dsimp only at hSw); go_simp; try (with_reducible rfl)
  try simp only [Act.put, List.setIfInBounds_toArray, List.set_cons_zero, List.set_cons_succ]
  refine take_runs (i := 3) (v := ?_) (by simp only [List.getElem?_toArray, List.getElem?_cons_succ, List.getElem?_cons_zero]; rfl) (by kernel_rfl) (by kernel_rfl) (by kernel_rfl) rfl (by exact fun _ _ _ h => h) (by rfl) ?_ (by assumption) ?_
  rotate_left
  · intro w hSw; (try dsimp only at hSw); go_simp; try (with_reducible rfl)
  try simp only [Act.put, List.setIfInBounds_toArray, List.set_cons_zero, List.set_cons_succ]
  refine take_runs (i := 5) (v := ?_) (by simp only [List.getElem?_toArray, List.getElem?_cons_succ, List.getElem?_cons_zero]; rfl) (by kernel_rfl) (by kernel_rfl) (by kernel_rfl) rfl (by exact fun _ _ _ h => h) (by rfl) ?_ (by assumption) ?_
  rotate_left
  · intro w hSw; (try dsimp only at hSw); go_simp; try (with_reducible rfl)
  try simp only [Act.put, List.setIfInBounds_toArray, List.set_cons_zero, List.set_cons_succ]
  refine take_runs (i := 6) (v := ?_) (by simp only [List.getElem?_toArray, List.getElem?_cons_succ, List.getElem?_cons_zero]; rfl) (by kernel_rfl) (by kernel_rfl) (by kernel_rfl) rfl (by exact fun _ _ _ h => h) (by rfl) ?_ (by assumption) ?_
  rotate_left
  · intro w hSw; (try dsimp only at hSw); go_simp; try (with_reducible rfl)
  try simp only [Act.put, List.setIfInBounds_toArray, List.set_cons_zero, List.set_cons_succ]
  refine take_runs (i := 7) (v := ?_) (by simp only [List.getElem?_toArray, List.getElem?_cons_succ, List.getElem?_cons_zero]; rfl) (by kernel_rfl) (by kernel_rfl) (by kernel_rfl) rfl (by exact fun _ _ _ h => h) (by rfl) ?_ (by assumption) ?_
  rotate_left
  · intro w hSw; (try dsimp only at hSw); go_simp; try (with_reducible rfl)
  try simp only [Act.put, List.setIfInBounds_toArray, List.set_cons_zero, List.set_cons_succ]
  refine take_runs (i := 8) (v := ?_) (by simp only [List.getElem?_toArray, List.getElem?_cons_succ, List.getElem?_cons_zero]; rfl) (by kernel_rfl) (by kernel_rfl) (by kernel_rfl) rfl (by exact fun _ _ _ h => h) (by rfl) ?_ (by assumption) ?_
  rotate_left
  · intro w hSw; (try dsimp only at hSw); go_simp; try (with_reducible rfl)
  try simp only [Act.put, List.setIfInBounds_toArray, List.set_cons_zero, List.set_cons_succ]
  refine wpAnyH_ready (rs := [4]) (by kernel_rfl) (by simp) ?_
  refine AllReadyH.cons (o := _) (by simp only [List.getElem?_toArray, List.getElem?_cons_succ, List.getElem?_cons_zero]; rfl) (fun K hK => ?_) AllReadyH.nil
  go_simp
  refine (H1.out _).mono ?_
  rintro e w8 ⟨rfl, rfl⟩
  refine hK.out _ _ ⟨z1.1, z1.2.1, z1.2.2.1, z1.2.2.2⟩ (fun hHeld => ?_)
  clear hK K
  try simp only [Act.put, List.setIfInBounds_toArray, List.set_cons_zero, List.set_cons_succ]
  refine wpAnyH_ready (rs := [9]) (by kernel_rfl) (by simp) ?_
  refine AllReadyH.cons (o := _) (by simp only [List.getElem?_toArray, List.getElem?_cons_succ, List.getElem?_cons_zero]; rfl) (fun K hK => ?_) AllReadyH.nil
  go_simp
  refine (H2.out _ (ints_below HV.out (below_drew hh)) (ints_below HU.out (below_drew hh))).mono ?_
  rintro e w8 ⟨rfl, rfl⟩
  refine hK.out _ _ ⟨z1.1, z1.2.1, z1.2.2.1, z1.2.2.2⟩ (fun hHeld => ?_)
  clear hK K
  try simp only [Act.put, List.setIfInBounds_toArray, List.set_cons_zero, List.set_cons_succ]
  refine wpAnyH_ready (rs := [10]) (by kernel_rfl) (by simp) ?_
  refine AllReadyH.cons (o := _) (by simp only [List.getElem?_toArray, List.getElem?_cons_succ, List.getElem?_cons_zero]; rfl) (fun K hK => ?_) AllReadyH.nil
  go_simp
  have hA : Below W.heap.size W (W.alloc (.cells #[.int .i64 c1, .int .i64 c2] 3)).drew := below_drew ((Below.refl _ W).alloc (Nat.le_refl _) _)
  have q0 : (W.alloc (.cells #[.int .i64 c1, .int .i64 c2] 3)).drew.cell? ⟨W.heap.size, 0, none⟩ = some (.int .i64 c1) := cell_lit W _ _ 0
  have q1 : (W.alloc (.cells #[.int .i64 c1, .int .i64 c2] 3)).drew.cell? ⟨W.heap.size, 1, none⟩ = some (.int .i64 c2) := cell_lit W _ _ 1
  have hg2 : Hid (∃ q os, (W.alloc (.cells #[.int .i64 c1, .int .i64 c2] 3)).drew = Sort.grow (w.drewN q) os) := Lib.hid ⟨1, _, by rw [hg.out, Sort.alloc_eq_grow, Sort.grow_grow, Sort.drew_grow]; rfl⟩
  generalize (W.alloc (.cells #[.int .i64 c1, .int .i64 c2] 3)).drew = W2 at *
  have z2 := box2 g0 g1 hz1 hA
  refine hK.out _ _ ⟨z2.1, z2.2.1, z2.2.2.1, z2.2.2.2⟩ (fun hHeld2 => ?_)
  clear hK K hHeld
  try simp only [Act.put, List.setIfInBounds_toArray, List.set_cons_zero, List.set_cons_succ]
  refine wpAnyH_ready (rs := [11]) (by kernel_rfl) (by simp) ?_
  refine AllReadyH.cons (o := _) (by simp only [List.getElem?_toArray, List.getElem?_cons_succ, List.getElem?_cons_zero]; rfl) (fun K hK => ?_) AllReadyH.nil
  go_simp
  refine (HO.out _ _ q0 q1).mono ?_
  rintro e w8 ⟨rfl, rfl⟩
  refine hK.out _ _ ⟨z2.1, z2.2.1, z2.2.2.1, z2.2.2.2⟩ (fun hHeld => ?_)
  clear hK K
  try simp only [Act.put, List.setIfInBounds_toArray, List.set_cons_zero, List.set_cons_succ]
  refine take_runs (i := 12) (v := ?_) (by simp only [List.getElem?_toArray, List.getElem?_cons_succ, List.getElem?_cons_zero]; rfl) (by kernel_rfl) (by kernel_rfl) (by kernel_rfl) rfl (by exact fun _ _ _ h => h) (by rfl) ?_ (by assumption) ?_
  rotate_left
  · intro w hSw; (try dsimp only at hSw); go_simp; try (with_reducible rfl)
  try simp only [Act.put, List.setIfInBounds_toArray, List.set_cons_zero, List.set_cons_succ]
  refine wpAnyH_done (by kernel_rfl) ?_ _
  clear q0 q1
  rw [← HP.out]
  go_wp2
  go_ret
  exact ⟨rfl, hg2.out⟩
end Go.Proofs.Ytginjmnohnidiaa
namespace Go.Proofs.Ytginjmnohnidiaa
open Go.RowKit
set_option linter.unusedVariables false
end Go.Proofs.Ytginjmnohnidiaa
namespace Go.Proofs.Ytginjmnohnidiaa
open Go.RowKit
set_option linter.unusedVariables false
end Go.Proofs.Ytginjmnohnidiaa
namespace Go.Proofs.Ytginjmnohnidiaa
open Go.RowKit
set_option linter.unusedVariables false
set_option linter.unusedSimpArgs false
theorem wpl_app_ints {w : World} {ops : Array Oper} {rest : List Oper} {o : Oper} {a : Act} {Q : Exit → Act → World → Prop} (hgd : o.guard = none) (s x : Operand)
    (ho : o.op = .call { callee := .builtin .append, args := #[s, x], argTypes := #[31, 31] })
    (B : Nat) (v u : Value) (xs ys : List Int) (hs : a.eval s = v) (hx : a.eval x = u) (hown : OwnsN w B v xs) (hu : Ints w u ys) (hB : B ≤ w.heap.size) (h63 : xs.length + ys.length ≤ 17592186044416)
    (h : ∀ v' w', OwnsN w' B v' (xs ++ ys) → Below B w w' → wpList Try.prog ops Q rest (a.put o.dst v') w') : wpList Try.prog ops Q (o :: rest) a w := by
  refine wpList_plain hgd fun K hK => ?_
  obtain ⟨v', w', hr, h2, h3⟩ := run_append_ints o.type hown hu hB h63
  unfold Oper.wp
  simp [execOp, ho, resolve, invoke, builtin, hs, hx, hr, Result.andThen]
  exact hK _ _ (h v' w' h2 h3)
end Go.Proofs.Ytginjmnohnidiaa
namespace Go.Proofs.Ytginjmnohnidiaa
open Go.RowKit
set_option linter.unusedVariables false
set_option linter.unusedSimpArgs false
set_option maxHeartbeats 2000000 in
set_option maxRecDepth 100000 in
theorem copyInts_any (v : Value) (xs : List Int) (w : World) (h : Ints w v xs) (hn : xs.length ≤ 1048576) :
    Calls Try.prog 73 #[v] w (FreshInts w xs) := by
  have H := Lib.hid h
  have HN := Lib.hid hn
  obtain ⟨a, cap, rfl⟩ := ints_len h
  clear h hn
  go_enter Try.func73, Try.ntmps73
  go_wp2_with (at_builtin; refine wpl_app_ints rfl _ (.tmp 3) rfl w.heap.size _ _ [] xs rfl rfl (ownsN_nil _ _) H.out (Nat.le_refl _) (by have := HN.out; simp; omega) ?_)
  intro u w4 oB bB
  obtain ⟨pa, pc, rfl⟩ := ints_len (ownsN_ints oB)
  go_wp2
  go_ret
  exact ⟨_, rfl, oB, bB⟩
end Go.Proofs.Ytginjmnohnidiaa
namespace Go.Proofs.Ytginjmnohnidiaa
open Go.RowKit
set_option linter.unusedVariables false
set_option linter.unusedSimpArgs false
set_option maxHeartbeats 4000000 in
set_option maxRecDepth 100000 in
theorem copyRow_any (id : Int) (vv : Value) (xs : List Int) (w : World) (h : Ints w vv xs) (hn : xs.length ≤ 1048576) :
    Calls Try.prog 93 #[.agg #[.int .i64 id, vv]] w (FreshRow w (id, xs)) := by
  have H := Lib.hid h
  have HN := Lib.hid hn
  obtain ⟨va, vcap, rfl⟩ := ints_len h
  clear h hn
  have hb : Below w.heap.size w ((w.alloc (.cells #[.int .i64 id, .slice va xs.length vcap] 76)).alloc (.cells #[.int .i64 0, .slice none 0 0] 76)) := ((Below.refl _ w).alloc (Nat.le_refl _) _).alloc (by simp) _
  have g2 : ((w.alloc (.cells #[.int .i64 id, .slice va xs.length vcap] 76)).alloc (.cells #[.int .i64 0, .slice none 0 0] 76)).heap[w.heap.size + 1]? = some (.cells #[.int .i64 0, .slice none 0 0] 76 (0, 0)) := by
    have := heap_alloc_new (w.alloc (.cells #[.int .i64 id, .slice va xs.length vcap] 76)) (.cells #[.int .i64 0, .slice none 0 0] 76)
    simpa only [World.size_alloc] using this
  have g1 : ((w.alloc (.cells #[.int .i64 id, .slice va xs.length vcap] 76)).alloc (.cells #[.int .i64 0, .slice none 0 0] 76)).heap[w.heap.size]? = some (.cells #[.int .i64 id, .slice va xs.length vcap] 76 (0, 0)) := by
    rw [Below.heap_alloc _ _ _ (by simp)]
    exact heap_alloc_new w _
  have hs : ((w.alloc (.cells #[.int .i64 id, .slice va xs.length vcap] 76)).alloc (.cells #[.int .i64 0, .slice none 0 0] 76)).heap.size = w.heap.size + 2 := by simp [World.size_alloc]
  have HG := Lib.hid (And.intro g1 (And.intro g2 (And.intro hs hb)))
  clear g1 g2 hs hb
  go_enter Try.func93, Try.ntmps93
  go_wp2_with fail
  refine (copyInts_any (.slice va xs.length vcap) xs _ (ints_below H.out HG.out.2.2.2) HN.out).mono ?_
  rintro e W3 ⟨u, rfl, oB0, bB0⟩
  have hs := HG.out.2.2.1
  rw [hs] at oB0 bB0
  have oB := oB0
  have bB := bB0
  clear oB0 bB0 hs
  obtain ⟨ua, ucap, rfl⟩ := ints_len (ownsN_ints oB)
  have k1 := (bB.block w.heap.size (by omega)).trans HG.out.1
  have k2 := (bB.block (w.heap.size + 1) (by omega)).trans HG.out.2.1
  have c0 := cell_of_row W3 _ 0 _ _ _ k1
  have c1 := cell_of_row W3 _ 1 _ _ _ k1
  have f1 := frozen_of_row W3 _ 1 _ _ k1
  have d0 := cell_of_row W3 _ 0 _ _ _ k2
  have d1 := cell_of_row W3 _ 1 _ _ _ k2
  have e0 := frozen_of_row W3 _ 0 _ _ k2
  have e1 := frozen_of_row W3 _ 1 _ _ k2
  simp at c0 c1 d0 d1
  have HK := Lib.hid k2
  have bC := Lib.hid (HG.out.2.2.2.trans (bB.mono (by omega)))
  clear k1 k2 bB
  go_wp2
  have hne : (w.heap.size + 1 = w.heap.size) = False := by simp
  have m2 := (heap_setCell_other W3 ⟨w.heap.size, 1, none⟩ (w.heap.size + 1) (.slice ua xs.length ucap) (by simp)).trans HK.out
  have r1 := heap_setCell_same _ (w.heap.size + 1) 0 _ _ (.int .i64 id) m2
  have r2 := heap_setCell_same _ (w.heap.size + 1) 1 _ _ (.slice ua xs.length ucap) r1
  have o4 := ownsN_low (ownsN_low (ownsN_low oB (b := w.heap.size) (by omega) 1 (.slice ua xs.length ucap)) (b := w.heap.size + 1) (by omega) 0 (.int .i64 id)) (b := w.heap.size + 1) (by omega) 1 (.slice ua xs.length ucap)
  have B4 := ((bC.out.setCell (p := ⟨w.heap.size, 1, none⟩) (by simp) (.slice ua xs.length ucap)).setCell (p := ⟨w.heap.size + 1, 0, none⟩) (by simp) (.int .i64 id)).setCell (p := ⟨w.heap.size + 1, 1, none⟩) (by simp) (.slice ua xs.length ucap)
  have e0 := cell_of_row _ _ 0 _ _ _ r2
  have e1 := cell_of_row _ _ 1 _ _ _ r2
  simp at e0 e1
  refine bodyPost_ret (v := .agg #[.int .i64 id, .slice ua xs.length ucap]) ?_ rfl ?_
  · simp [results, Try.f93, go_sem, e0, e1]
  · exact ⟨_, rfl, ownsN_up o4 (by omega), B4⟩
set_option maxHeartbeats 4000000 in
set_option maxRecDepth 100000 in
theorem copyEachRow_any (v : Value) (rs : List RowD) (w : World) (h : RowsR w v rs) (hs : szL rs ≤ 1048576) :
    Calls Try.prog 92 #[v, .func (.func 93) #[] #[]] w (FreshRows w rs) := by
  obtain ⟨i0, hi, hz0, hz1⟩ : ∃ i, Try.prog.info? 76 = some i ∧ i.zero = some (.agg #[.int .i64 0, .slice none 0 0]) ∧ i.size = 2 := by
    have := Try.infoRow
    cases e : Try.prog.info? 76 with
    | none => rw [e] at this; simp at this
    | some i => rw [e] at this; simp at this; exact ⟨i, rfl, this.1, this.2⟩
  have hz2 : i0.bytes = 32 := by
    have := row_bytes
    rw [hi] at this; simpa using this
  have HI := Lib.hid hi; have HZ0 := Lib.hid hz0; have HZ1 := Lib.hid hz1; have HZ2 := Lib.hid hz2
  clear hi hz0 hz1 hz2
  have H := Lib.hid h
  have hlen : rs.length ≤ 1048576 := by have := szTo_le (rs := rs) (Nat.zero_le _); rw [szTo_zero] at this; omega
  have HS := Lib.hid hs
  obtain ⟨a, cap, rfl⟩ := rowsR_len h
  clear h hs
  go_enter Try.func92, Try.ntmps92
  go_wp2_with (at_make; refine wpList_make_full _ rfl (.tmp 9) (.tmp 9) 24 rfl w.heap.size 76 i0 (.agg #[.int .i64 0, .slice none 0 0]) 2 Try.underlying24 HI.out HZ0.out HZ1.out _ _ _ _ rs.length rfl rfl rfl rfl (by rw [HZ2.out]; omega) (by unfold maxLen; omega) (Nat.le_refl _) ?_)
  intro w1 hown0 hg0
  have hown1 := ownsR_made hown0
  have hbel1 := (Below.refl w.heap.size w).grown hg0 (Nat.le_refl _) (fun k hk => by cases hk)
  clear hown0 hg0
  go_wp2
  go_loopw [13] (fun i wr => ∃ k : Nat, k ≤ rs.length ∧ i = .int .i64 k ∧ OwnsR wr w.heap.size (.slice (some ⟨w.heap.size, 0, none⟩) rs.length rs.length) (rs.take k ++ List.replicate (rs.length - k) (0, [])) ∧ Below w.heap.size w wr) (fun i _ => rs.length - (intOf i).toNat)
  case atStart => exact ⟨0, Nat.zero_le _, rfl, by simpa using hown1, hbel1⟩
  case round =>
    obtain ⟨k, hk, rfl, hown, hbel⟩ := hrel
    by_cases hlt : k < rs.length
    · obtain ⟨b, off, cap', vv, hv, hbl, hc1, hc2, hI⟩ := rowsR_at (rowsR_below H.out hbel) hlt
      simp only [Value.slice.injEq] at hv
      obtain ⟨rfl, _, rfl⟩ := hv
      have hxl : (rs.getD k (0, [])).2.length ≤ 1048576 := by
        have h1 := szTo_step hlt
        have h2 := szTo_le (rs := rs) (k := k + 1) (by omega)
        have := HS.out
        omega
      have hset := rows_copied rs k hlt
      have hkl : k < (rs.take k ++ List.replicate (rs.length - k) ((0, []) : RowD)).length := by simp; omega
      have i1 : (0 : Int) ≤ (k : Int) := by omega
      have i2 : (k : Int) < (rs.length : Int) := by omega
      have HSET := Lib.hid hset
      have HKL := Lib.hid hkl
      clear hset hkl hown1 hbel1
      generalize rs.getD k (0, []) = r at *
      obtain ⟨id, xs⟩ := r
      simp only at hc1 hc2 hI hxl
      obtain ⟨va, vcap, rfl⟩ := ints_len hI
      have bb := (Below.refl wr.heap.size wr).alloc (Nat.le_refl _) (.cells #[.int .i64 id, .slice va xs.length vcap] 76)
      go_wp2_with fail
      refine (copyRow_any id (.slice va xs.length vcap) xs _ (ints_below hI bb) hxl).mono ?_
      rintro e w2 ⟨uv, rfl, ou, b2⟩
      replace ou := ownsN_up ou bb.size
      replace b2 := bb.trans (b2.mono bb.size)
      clear bb
      have hst := Lib.hid (ownsR_store hown b2 hbel.size HKL.out (id, xs) ou)
      rw [HSET.out] at hst
      have b3 := hbel.trans (b2.mono hbel.size)
      have hg : w.heap.size < w2.heap.size := by
        obtain ⟨cs, vs, h1, _⟩ := hown
        have := (h1.lt w.heap.size rfl).2
        have := b2.size
        omega
      obtain ⟨ua, uc, rfl⟩ := ints_len (ownsN_ints ou)
      obtain ⟨q0, q1, f0, f1⟩ : (∃ x, w2.cell? ⟨w.heap.size, k * 2, none⟩ = some x) ∧ (∃ x, w2.cell? ⟨w.heap.size, k * 2 + 1, none⟩ = some x) ∧ w2.frozen? ⟨w.heap.size, k * 2, none⟩ = false ∧ w2.frozen? ⟨w.heap.size, k * 2 + 1, none⟩ = false := by
        obtain ⟨cs, vs, h1, h2, _⟩ := ownsR_below hown b2
        have hl0 : (rs.take k ++ List.replicate (rs.length - k) ((0, []) : RowD)).length = rs.length := by simp; omega
        rw [hl0] at h1 h2
        obtain ⟨g1, g2, _, _⟩ := h2 k hlt
        exact ⟨⟨_, (World.ownsRow.cellAt h1 (k * 2) (by omega)).trans g1⟩, ⟨_, (World.ownsRow.cellAt h1 (k * 2 + 1) (by omega)).trans g2⟩, World.ownsRow.frozenAt h1 _, World.ownsRow.frozenAt h1 _⟩
      obtain ⟨x0, q0⟩ := q0
      obtain ⟨x1, q1⟩ := q1
      have B3 := (b3.setCell (p := ⟨w.heap.size, k * 2, none⟩) (Nat.le_refl _) (.int .i64 id)).setCell (p := ⟨w.heap.size, k * 2 + 1, none⟩) (Nat.le_refl _) (.slice ua xs.length uc)
      clear hown hbel b2 ou hc1 hc2 hI
      go_wp2
      go_roundw
      case rel => exact ⟨k + 1, by omega, by go_num, hst.out, B3⟩
      case measure => simp [intOf]; omega
    · obtain rfl : k = rs.length := by omega
      have HE : Hid (rs.take rs.length ++ List.replicate (rs.length - rs.length) ((0, []) : RowD) = rs) := Lib.hid (by simp)
      rw [HE.out] at hown
      go_wp2
      go_ret
      exact ⟨_, rfl, hown, hbel⟩
set_option maxHeartbeats 2000000 in
set_option maxRecDepth 100000 in
theorem copyRows_any (v : Value) (rs : List RowD) (w : World) (h : RowsR w v rs) (hs : szL rs ≤ 1048576) :
    Calls Try.prog 51 #[v] w (FreshRows w rs) := by
  have H := Lib.hid (fun w h => copyEachRow_any v rs w h hs)
  have HV := Lib.hid h
  clear h hs
  go_enter Try.func51, Try.ntmps51
  go_wp2_with fail
  refine (H.out _ HV.out).mono ?_
  rintro e w1 ⟨u, rfl, o1, b1⟩
  obtain ⟨ua, uc, rfl⟩ := rowsR_len (ownsR_rows o1)
  go_wp2
  go_ret
  exact ⟨_, rfl, o1, b1⟩
end Go.Proofs.Ytginjmnohnidiaa
namespace Go.Proofs.Ytginjmnohnidiaa
open Go.RowKit
set_option linter.unusedVariables false
set_option linter.unusedSimpArgs false
/-- A row with the slice in which its values lie, which the call made, in a block other than g. -/
def Elem (W : World) (B g : Nat) : Type := { p : RowD × Value // OwnsN W B p.2 p.1.2 ∧ p.1.2.length ≤ 1048576 ∧ p.2.ownBlock ≠ some g }
instance elemInh (W : World) (B g : Nat) : Inhabited (Elem W B g) := ⟨⟨((0, []), .slice none 0 0), ownsN_nil W B, by simp, by simp [Value.ownBlock]⟩⟩
def mkE {W : World} {B g : Nat} (p : RowD × Value) (h : OwnsN W B p.2 p.1.2 ∧ p.1.2.length ≤ 1048576 ∧ p.2.ownBlock ≠ some g) : Elem W B g := ⟨p, h⟩
def encE {W : World} {B g : Nat} (x : Elem W B g) : List Value := [.int .i64 x.1.1.1, x.1.2]
def cfE {W : World} {B g : Nat} (x y : Elem W B g) : Int := cmpR x.1.1 y.1.1
theorem ltE {W : World} {B g : Nat} (x y : Elem W B g) : ltOf cfE x y = rowLess x.1.1 y.1.1 := cmpR_less _ _
theorem swoE (W : World) (B g : Nat) : Sort.SWO (ltOf (cfE (W := W) (B := B) (g := g))) where
  irrefl x := by rw [ltE]; exact rowLess_irr _
  trans x y z h1 h2 := by rw [ltE] at *; exact rowLess_trans _ _ _ h1 h2
  ntrans x y z h1 h2 := by rw [ltE] at *; exact rowLess_ntrans _ _ _ h1 h2
theorem oneE {W : World} {B g : Nat} (x : Elem W B g) : ∀ v ∈ encE x, v.oneCell' = true := by
  intro v hv
  simp only [encE, List.mem_cons, List.not_mem_nil, or_false] at hv
  rcases hv with rfl | rfl
  · rfl
  · obtain ⟨a, cap, e⟩ := ints_len (ownsN_ints x.2.1)
    rw [e]; rfl
theorem heap_sortW {W : World} {B g : Nat} (m : Nat) (dk : Array (Elem W B g)) (os : Array Obj) {b : Nat} (hb : b < W.heap.size) (hne : b ≠ g) : (sortWorldK encE 2 W g 0 m dk os).heap[b]? = W.heap[b]? := by
  unfold sortWorldK Sort.putRowK Sort.putRow Sort.mapBlock Sort.grow Sort.ahead
  simp only
  rw [Array.getElem?_append_left (by simpa using hb), Array.getElem?_modify, if_neg (fun e => hne e.symm)]
theorem heap_sortG {W : World} {B g : Nat} (m : Nat) (dk : Array (Elem W B g)) (os : Array Obj) {cur : Array Value} {t : TypeId} {fr : Nat × Nat} (hg : W.heap[g]? = some (.cells cur t fr)) : (sortWorldK encE 2 W g 0 m dk os).heap[g]? = some (.cells (Sort.putCells id 0 (Sort.flatK encE 2 dk) cur) t fr) := by
  have hb : g < W.heap.size := (Array.getElem?_eq_some_iff.1 hg).1
  unfold sortWorldK Sort.putRowK Sort.putRow Sort.mapBlock Sort.grow Sort.ahead
  simp only
  rw [Array.getElem?_append_left (by simpa using hb), Array.getElem?_modify, if_pos rfl, hg]
  rfl
theorem size_sortW {W : World} {B g : Nat} (m : Nat) (dk : Array (Elem W B g)) (os : Array Obj) : W.heap.size ≤ (sortWorldK encE 2 W g 0 m dk os).heap.size := by
  unfold sortWorldK Sort.putRowK Sort.putRow Sort.mapBlock Sort.grow Sort.ahead
  simp
theorem ownsN_sortW {W : World} {B g : Nat} (m : Nat) (dk : Array (Elem W B g)) (os : Array Obj) {v : Value} {xs : List Int} (h : OwnsN W B v xs) (hne : v.ownBlock ≠ some g) : OwnsN (sortWorldK encE 2 W g 0 m dk os) B v xs := by
  refine ⟨h.1, ?_⟩
  rcases h.2 with hn | ⟨b, cap, cur, rfl, hb', hg, rest⟩
  · exact .inl hn
  · refine .inr ⟨b, cap, cur, rfl, hb', ?_, rest⟩
    rw [heap_sortW m dk os (Array.getElem?_eq_some_iff.1 hg).1 (fun e => hne (by simp [Value.ownBlock, e]))]
    exact hg
theorem below_sortW {W : World} {B g C : Nat} (m : Nat) (dk : Array (Elem W B g)) (os : Array Obj) (hC : C ≤ g) (hCW : C ≤ W.heap.size) : Below C W (sortWorldK encE 2 W g 0 m dk os) :=
  ⟨rfl, rfl, rfl, size_sortW m dk os, fun k hk => heap_sortW m dk os (by omega) (by omega)⟩
theorem cmpLaysE (W : World) (B g : Nat) (size : Nat) : CmpLays Try.prog 53 #[] (encE (W := W) (B := B) (g := g)) 2 cfE g 0 size W :=
  fun m os dk _ x y => compareRows_any x.1.1.1 y.1.1.1 x.1.2 y.1.2 x.1.1.2 y.1.1.2 _ (ownsN_ints (ownsN_sortW m dk os x.2.1 x.2.2.2)) (ownsN_ints (ownsN_sortW m dk os y.2.1 y.2.2.2)) x.2.2.1 y.2.2.1
theorem flat_even {W : World} {B g : Nat} (d : Array (Elem W B g)) {j : Nat} (hj : j < d.size) : (Sort.flatK encE 2 d).toList[j * 2]? = some (.int .i64 (d[j]!).1.1.1) ∧ (Sort.flatK encE 2 d).toList[j * 2 + 1]? = some (d[j]!).1.2 := by
  have h0 : j * 2 < d.size * 2 := by omega
  have h1 : j * 2 + 1 < d.size * 2 := by omega
  have e0 := Sort.get_flatK encE 2 d (j * 2) h0
  have e1 := Sort.get_flatK encE 2 d (j * 2 + 1) h1
  rw [show j * 2 / 2 = j by omega, show j * 2 % 2 = 0 by omega] at e0
  rw [show (j * 2 + 1) / 2 = j by omega, show (j * 2 + 1) % 2 = 1 by omega] at e1
  have s0 : j * 2 < (Sort.flatK encE 2 d).size := by rw [Sort.size_flatK]; exact h0
  have s1 : j * 2 + 1 < (Sort.flatK encE 2 d).size := by rw [Sort.size_flatK]; exact h1
  rw [getElem!_pos (Sort.flatK encE 2 d) (j * 2) s0] at e0
  rw [getElem!_pos (Sort.flatK encE 2 d) (j * 2 + 1) s1] at e1
  refine ⟨?_, ?_⟩
  · rw [Array.getElem?_toList, Array.getElem?_eq_getElem s0, e0]; rfl
  · rw [Array.getElem?_toList, Array.getElem?_eq_getElem s1, e1]; rfl
/-- The sort of a slice of rows that the call made. -/
theorem sortRows_own {W : World} {B : Nat} {v : Value} {rs : List RowD} (h : OwnsR W B v rs) (hs : szL rs ≤ 1048576) (hB : B ≤ W.heap.size) :
    Calls Try.prog 52 #[v, .func (.func 53) #[] #[]] W fun e w' => e = .returned (.tuple #[]) ∧ OwnsR w' B v (sortL rs) ∧ Below B W w' := by
  have hlen := szL_len hs
  by_cases h0 : rs = []
  · subst h0
    obtain ⟨a, cap, rfl⟩ := ownsR_len h
    refine (AnyF.slices_SortFunc_none Try.sortRow a cap _ W).mono ?_
    rintro e w' ⟨rfl, rfl⟩
    exact ⟨rfl, h, Below.refl _ _⟩
  · obtain ⟨cs, vs, h1, h2, h3⟩ := h
    have hpos : 0 < rs.length := List.length_pos_iff.2 h0
    rcases h1.2 with ⟨_, hz⟩ | ⟨g, cap, cur, rfl, hb, hg, hn, hm, hcs, htake⟩
    · omega
    · have hel : ∀ j, (hj : j < rs.length) → OwnsN W B (vs j) (rs.getD j (0, [])).2 ∧ (rs.getD j (0, [])).2.length ≤ 1048576 ∧ (vs j).ownBlock ≠ some g := fun j hj => by
        obtain ⟨_, _, k3, k4⟩ := h2 j hj
        exact ⟨k3, szL_row hs hj, fun e => k4 g e rfl⟩
      obtain ⟨d, hd⟩ : ∃ d : Array (Elem W B g), d = Array.ofFn (fun j : Fin rs.length => mkE (rs.getD j (0, []), vs j) (hel j j.2)) := ⟨_, rfl⟩
      have hsz : d.size = rs.length := by rw [hd, Array.size_ofFn]
      have hat : ∀ j, j < rs.length → (d[j]!).1 = (rs.getD j (0, []), vs j) := fun j hj => by
        rw [getElem!_pos d j (by omega)]
        subst hd
        rw [Array.getElem_ofFn]
        rfl
      have hH : Sort.HoldsK encE 2 W g 0 d := by
        intro t ht
        rw [Sort.size_flatK, hsz] at ht
        refine ⟨?_, World.ownsRow.frozenAt h1 _⟩
        rw [Sort.get_flatK encE 2 d t (by omega), Nat.zero_add, World.ownsRow.cellAt h1 t (by omega)]
        obtain ⟨k1, k2, _⟩ := h2 (t / 2) (by omega)
        have hdt := hat (t / 2) (by omega)
        rcases Nat.mod_two_eq_zero_or_one t with e | e
        · rw [e]
          rw [show t / 2 * 2 = t by omega] at k1
          rw [k1]
          simp [encE, hdt]
        · rw [e]
          rw [show t / 2 * 2 + 1 = t by omega] at k2
          rw [k2]
          simp [encE, hdt]
      have hgl : g < W.heap.size := (Array.getElem?_eq_some_iff.1 hg).1
      have hcon := AnyQ.slices_SortFunc Try.sortRow 2 Try.isAgg76 Try.sizeOf76 (encE (W := W) (B := B) (g := g)) (fun _ => rfl) oneE cfE (swoE W B g) 53 #[] g 0 cap d W (enters_of Try.func53 (by kernel_rfl) rfl) (cmpLaysE W B g d.size) hH hgl (by omega)
      rw [hsz] at hcon
      refine hcon.mono ?_
      rintro e w' ⟨rfl, d', n, os, ⟨hps, _, hperm⟩, hsort, rfl⟩
      rw [hsz] at hps
      have he : d'.extract 0 rs.length = d' := by rw [← hps]; exact Array.extract_size
      have he2 : d.extract 0 rs.length = d := by rw [← hsz]; exact Array.extract_size
      rw [he, he2] at hperm
      have hmap : d.toList.map (fun x => x.1.1) = rs := by
        apply List.ext_getElem
        · simp [hsz]
        · intro i i1 i2
          have := hat i (by simpa using i2)
          rw [getElem!_pos d i (by omega)] at this
          rw [List.getElem_map, Array.getElem_toList, this, getD_at (by simpa using i2)]
      have hrows : d'.toList.map (fun x => x.1.1) = sortL rs := by
        refine sortL_unique ?_ ?_
        · have := hperm.map (fun x : Elem W B g => x.1.1)
          rwa [hmap] at this
        · refine List.pairwise_map.2 (List.pairwise_iff_getElem.2 fun i j hi hj hij => ?_)
          have := hsort i j (Nat.zero_le _) hij (by simpa [hps] using hj)
          rw [ltE, getElem!_pos d' j (by simpa using hj), getElem!_pos d' i (by simpa using hi)] at this
          simpa using this
      have hlen' : (sortL rs).length = rs.length := (sortL_perm rs).length_eq
      have hat' : ∀ j, j < rs.length → (d'[j]!).1.1 = (sortL rs).getD j (0, []) := fun j hj => by
        rw [getElem!_pos d' j (by omega), getD_at (by omega)]
        have : (sortL rs)[j]'(by omega) = (d'.toList.map (fun x => x.1.1))[j]'(by simp; omega) := by simp only [hrows]
        rw [this]
        simp
      have hdis : d'.toList.Pairwise (fun x y => ∀ b, x.1.2.ownBlock = some b → y.1.2.ownBlock ≠ some b) := by
        refine List.Pairwise.perm ?_ hperm.symm (fun {x y} hxy b hy hx => hxy b hx hy)
        refine List.pairwise_iff_getElem.2 fun i j hi hj hij => ?_
        have hi' : i < rs.length := by simpa [hsz] using hi
        have hj' : j < rs.length := by simpa [hsz] using hj
        have a1 := hat i hi'
        have a2 := hat j hj'
        rw [getElem!_pos d i (by omega)] at a1
        rw [getElem!_pos d j (by omega)] at a2
        rw [Array.getElem_toList, Array.getElem_toList, a1, a2]
        exact h3 i j hi' hj' (by omega)
      refine ⟨rfl, ⟨(Sort.flatK encE 2 d').toList, fun j => (d'[j]!).1.2, ?_, ?_, ?_⟩, below_sortW n d' os hb hB⟩
      · rw [hlen']
        refine ⟨by simp [Sort.size_flatK, hps], .inr ⟨g, cap, _, rfl, hb, heap_sortG n d' os hg, hn, hm, ?_, ?_⟩⟩
        · simp [Sort.putCells, hcs]
        · apply List.ext_getElem
          · simp [Sort.putCells, Sort.size_flatK, hps, hcs]; omega
          · intro i i1 i2
            have hi2 : i < rs.length * 2 := by simpa [Sort.size_flatK, hps] using i2
            rw [List.getElem_take, Array.getElem_toList, Array.getElem_toList]
            have hif : i < (Sort.flatK encE 2 d').size := by rw [Sort.size_flatK, hps]; exact hi2
            simp only [Sort.putCells, Array.getElem_mapIdx, Nat.zero_le, true_and, Nat.zero_add, hif, if_true, Nat.sub_zero, id]
            rw [getElem!_pos (Sort.flatK encE 2 d') i hif]
      · intro j hj
        rw [hlen'] at hj
        obtain ⟨f0, f1⟩ := flat_even d' (j := j) (by omega)
        have ha := hat' j hj
        refine ⟨by rw [f0, ha], f1, ?_, ?_⟩
        · have := ownsN_sortW n d' os (d'[j]!).2.1 (d'[j]!).2.2.2
          rwa [ha] at this
        · intro b hb1 hb2
          have : b = g := by simpa [Value.ownBlock] using hb2.symm
          subst this
          exact (d'[j]!).2.2.2 hb1
      · intro i j hi hj hij b hb1
        rw [hlen'] at hi hj
        have key : ∀ p q, p < q → q < rs.length → ∀ b, (d'[p]!).1.2.ownBlock = some b → (d'[q]!).1.2.ownBlock ≠ some b := fun p q hpq hq b => by
          have := List.pairwise_iff_getElem.1 hdis p q (by simp; omega) (by simp; omega) hpq b
          rw [getElem!_pos d' p (by omega), getElem!_pos d' q (by omega)]
          simpa using this
        rcases Nat.lt_or_gt_of_ne hij with hlt | hgt
        · exact key i j hlt hj b hb1
        · intro hb2
          exact key j i hgt hi b hb2 hb1
set_option maxHeartbeats 2000000 in
set_option maxRecDepth 100000 in
theorem implSortRows (v : Value) (rs : List RowD) (w : World) (h : RowsR w v rs) (hs : szL rs ≤ 1048576) :
    Calls Try.prog 15 #[v] w (FreshRows w (sortL rs)) := by
  have HC := Lib.hid (fun w h => copyRows_any v rs w h hs)
  have HS := Lib.hid (fun (W : World) (B : Nat) (v : Value) h hB => sortRows_own (W := W) (B := B) (v := v) (rs := rs) h hs hB)
  have H := Lib.hid h
  clear h hs
  go_enter Try.func15, Try.ntmps15
  go_wp2_with fail
  refine (HC.out _ H.out).mono ?_
  rintro e w1 ⟨u, rfl, ou, b1⟩
  go_wp2_with fail
  refine (HS.out _ _ _ ou b1.size).mono ?_
  rintro e w2 ⟨rfl, o2, b2⟩
  have b3 := b1.trans b2
  clear ou b1 b2
  go_wp2
  go_ret
  exact ⟨_, rfl, o2, b3⟩
end Go.Proofs.Ytginjmnohnidiaa
