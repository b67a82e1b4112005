/-
  The walk of the specification's SortRows.
-/
import Derived.Test.YtginjmnohnidiaaRowInsM
namespace Go.Proofs.Ytginjmnohnidiaa
open Go.RowKit
set_option linter.unusedVariables false
set_option linter.unusedSimpArgs false
theorem insAt_down {rs : List RowD} {r : RowD} {m : Nat} (h : rowLess r (rs.getD m (0, [])) = true) : insAt rs r (m + 1) = insAt rs r m := by
  simp only [insAt, h, if_true]
theorem insAt_stop {rs : List RowD} {r : RowD} {m : Nat} (h : rowLess r (rs.getD m (0, [])) = false) : insAt rs r (m + 1) = m + 1 := by
  simp only [insAt, h]
  rfl
theorem ownsR_empty (w : World) : OwnsR (w.alloc (.cells #[] 76)) w.heap.size (.slice (some ⟨w.heap.size, 0, none⟩) 0 0) [] := by
  refine ⟨[], fun _ => .slice none 0 0, ?_, fun j hj => by simp at hj, fun i j hi => by simp at hi⟩
  exact World.ownsRow_lit (e := 76) (size := 2) w #[] 0 (Nat.le_refl _) (by unfold maxLen; omega) rfl
theorem rowsC_form {w : World} {B : Nat} {v : Value} {n : Nat} {cs : List Value} (h : RowsC w B v n cs) (hn : 0 < n) : ∃ g cap, v = .slice (some ⟨g, 0, none⟩) n cap := by
  rcases h.2 with ⟨_, h0⟩ | ⟨g, cap, cur, hv, _⟩
  · omega
  · exact ⟨g, cap, hv⟩
theorem insert_end {W0 W1 W2 W3 W4 : World} {B p k : Nat} {v x1 x2 x3 vv : Value} {ss : List RowD} {vs : Nat → Value} {cs : List Value} {id : Int} {xs : List Int} {t : TypeId} {C : Array Value} (hp : p ≤ k) (hsl : ss.length = k)
    (h1 : W0.ownsRow B 76 2 v ss.length cs)
    (h2 : ∀ j, j < ss.length → cs[j * 2]? = some (.int .i64 (ss.getD j (0, [])).1) ∧ cs[j * 2 + 1]? = some (vs j) ∧ OwnsN W0 B (vs j) (ss.getD j (0, [])).2 ∧ ∀ b, (vs j).ownBlock = some b → v.ownBlock ≠ some b)
    (h3 : ∀ i j, i < ss.length → j < ss.length → i ≠ j → ∀ b, (vs i).ownBlock = some b → (vs j).ownBlock ≠ some b)
    (hB : B ≤ W0.heap.size) (b1 : W0.heap.size ≤ W1.heap.size) (hx1 : ∀ b, x1.ownBlock = some b → b < W1.heap.size) (oV : OwnsN W2 W1.heap.size vv xs)
    (g2 : (W2.alloc (.cells C t)).grownBy W3 x1.ownBlock) (hat2 : x2.ownBlock = x1.ownBlock ∨ x2.ownBlock = some (W2.heap.size + 1)) {ds : List Value}
    (hb3 : Below W0.heap.size W0 W3) (o2 : RowsC W3 W0.heap.size x2 (p + 1) (cs.take (p * 2) ++ [.int .i64 id, vv])) (g3 : W3.grownBy W4 x2.ownBlock) (hat3 : x3.ownBlock = x2.ownBlock ∨ x3.ownBlock = some W3.heap.size)
    (o3 : RowsC W4 W0.heap.size x3 (p + 1 + (k - p)) ds) (hds : ds = cs.take (p * 2) ++ [.int .i64 id, vv] ++ cs.drop (p * 2)) (hin : insAt ss (id, xs) k = p) :
    OwnsR W4 B x3 (insL ss (id, xs)) ∧ Below W0.heap.size W0 W4 := by
  subst hds
  have b4 : Below W0.heap.size W0 W4 := hb3.trans ((Below.refl W0.heap.size W3).grown g3 hb3.size (fun j hj => (o2.lt j hj).1))
  refine ⟨?_, b4⟩
  have hs2 : (W2.alloc (.cells C t)).heap.size = W2.heap.size + 1 := by simp [World.size_alloc]
  have hs3 := g2.size
  have vlt : ∀ b, vv.ownBlock = some b → W1.heap.size ≤ b ∧ b < W2.heap.size := fun b e => oV.lt b e
  have n1 : vv.ownBlock = none ∨ vv.ownBlock ≠ x1.ownBlock := by
    cases e : vv.ownBlock with
    | none => exact Or.inl rfl
    | some b => exact Or.inr (fun q => by have := hx1 b q.symm; have := (vlt b e).1; omega)
  have n2 : vv.ownBlock = none ∨ vv.ownBlock ≠ x2.ownBlock := by
    rcases hat2 with e | e
    · rw [e]; exact n1
    · cases e' : vv.ownBlock with
      | none => exact Or.inl rfl
      | some b => exact Or.inr (fun q => by rw [e] at q; have := Option.some.inj q; have := (vlt b e').2; omega)
  have v4 : OwnsN W4 W1.heap.size vv xs := World.ownsRow.kept (World.ownsRow.kept (World.ownsRow.alloc oV _) g2 n1) g3 n2
  have hne : ∀ b, vv.ownBlock = some b → x3.ownBlock ≠ some b := by
    intro b e q
    rcases hat3 with e3 | e3
    · rw [e3] at q
      rcases n2 with h | h
      · rw [h] at e; cases e
      · exact h (e.trans q.symm)
    · rw [e3] at q
      have := Option.some.inj q
      have := (vlt b e).2
      omega
  have hpl : p ≤ ss.length := by omega
  have e : p + 1 + (k - p) = ss.length + 1 := by omega
  rw [e] at o3
  have := insert_owns (r := (id, xs)) hpl h1 h2 h3 b4 hB o3 (ownsN_up v4 b1) hne
  unfold insL
  rw [hsl, hin]
  exact this
set_option maxHeartbeats 8000000 in
set_option maxRecDepth 100000 in
theorem specSortRows (v : Value) (rs : List RowD) (w : World) (h : RowsR w v rs) (hs : szL rs ≤ 1048576) :
    Calls Try.prog 13 #[v] w (FreshRows w (sortL rs)) := by
  have H := Lib.hid h
  have HS := Lib.hid hs
  have hlen := szL_len hs
  obtain ⟨a, cap, rfl⟩ := rowsR_len h
  clear h hs
  go_enter Try.func13, Try.ntmps13
  go_wp2
  have o1 := ownsR_empty w
  have b1 : Below w.heap.size w (w.alloc (.cells #[] 76)) := (Below.refl _ w).alloc (Nat.le_refl _) _
  go_loopw [3, 4] (fun o i wr => ∃ (k g cp : Nat), k ≤ rs.length ∧ i = .int .i64 k ∧ o = .slice (some ⟨g, 0, none⟩) k cp ∧ OwnsR wr w.heap.size (.slice (some ⟨g, 0, none⟩) k cp) (sortTo rs k) ∧ Below w.heap.size w wr) (fun _ i _ => rs.length - (intOf i).toNat)
  case atStart => exact ⟨0, _, _, Nat.zero_le _, rfl, rfl, o1, b1⟩
  case round =>
    obtain ⟨k, g, cp, hk, rfl, rfl, hown, hbel⟩ := hrel
    obtain ⟨W0, hW0⟩ : ∃ W0, W0 = wr := ⟨_, rfl⟩
    subst hW0
    clear o1 b1
    by_cases hlt : k < rs.length
    · obtain ⟨b, off, cap', vv, hv, hbl, hc1, hc2, hI⟩ := rowsR_at (rowsR_below H.out hbel) hlt
      simp only [Value.slice.injEq] at hv
      obtain ⟨rfl, _, rfl⟩ := hv
      have hxl := szL_row HS.out hlt
      have hsl := sortTo_len (a := rs) (k := k) hk
      have hsz := sortTo_sz (k := k) HS.out hk
      have HSTEP := Lib.hid (sortTo_step hlt)
      have i1 : (0 : Int) ≤ (k : Int) := by omega
      have i2 : (k : Int) < (rs.length : Int) := by omega
      generalize hss : sortTo rs k = ss at *
      generalize hr : rs.getD k (0, []) = r at *
      obtain ⟨cs, vs, h1, h2, h3⟩ := hown
      have H1 := Lib.hid h1
      have h1k := h1
      rw [hsl] at h1k
      have H1k := Lib.hid h1k
      have H2 := Lib.hid h2
      have H3 := Lib.hid h3
      have hgl := (h1.lt g rfl)
      have HL := Lib.hid (fun (j : Nat) (hj : j < ss.length) => szL_row hsz hj)
      have HLESS := Lib.hid (fun (q : RowD) (u : Value) (w : World) (hI : Ints w vv r.2) (g : Ints w u q.2) (hq : q.2.length ≤ 1048576) => l3Less_any r.1 q.1 vv u r.2 q.2 w hI g hxl hq)
      clear hss hr h1 h2 h3 hsz h1k
      obtain ⟨id, xs⟩ := r
      simp only at hc1 hc2 hI hxl HLESS
      have HI := Lib.hid hI
      go_wp2
      go_loopw [5] (fun q wr2 => ∃ p : Nat, p ≤ k ∧ q = .int .i64 p ∧ Hid (insAt ss (id, xs) p = insAt ss (id, xs) k) ∧ Below W0.heap.size W0 wr2) (fun q _ => (intOf q).toNat)
      case atStart => exact ⟨k, Nat.le_refl _, rfl, Lib.hid rfl, Below.refl _ _⟩
      case round =>
        obtain ⟨p, hp, rfl, hin, hb2⟩ := hrel
        have hc1' := (hb2.cell (p := ⟨b, off + k * 2, none⟩) hbl).trans hc1
        have hc2' := (hb2.cell (p := ⟨b, off + k * 2 + 1, none⟩) hbl).trans hc2
        by_cases hz : p = 0
        · have HP : Hid (insAt ss (id, xs) k = p) := Lib.hid (hin.out.symm.trans (by rw [hz]; rfl))
          have hg : decide ((0 : Int) < (p : Int)) = false := decide_eq_false (by omega)
          have hgn : decide (0 < p) = false := decide_eq_false (by omega)
          clear hz hc1' hc2'
          go_wp2
          refine wp_region_held_drew (S := fun _ => True) (by kernel_rfl) trivial (fun hHeld => ?_)
          refine take_runs (i := 0) (v := ?_) (by simp only [List.getElem?_toArray, List.getElem?_cons_succ, List.getElem?_cons_zero]; rfl) (by kernel_rfl) (by kernel_rfl) (by kernel_rfl) rfl (by exact fun _ _ _ h => h) (by rfl) ?_ (by assumption) ?_
          rotate_left
          · intro w hSw; (try dsimp only at hSw); go_simp; try (with_reducible rfl)
          try simp only [Act.put, List.setIfInBounds_toArray, List.set_cons_zero, List.set_cons_succ]
          refine take_runs (i := 1) (v := ?_) (by simp only [List.getElem?_toArray, List.getElem?_cons_succ, List.getElem?_cons_zero]; rfl) (by kernel_rfl) (by kernel_rfl) (by kernel_rfl) rfl (by exact fun _ _ _ h => h) (by rfl) ?_ (by assumption) ?_
          rotate_left
          · intro w hSw; (try dsimp only at hSw); go_simp; try (with_reducible rfl)
          try simp only [Act.put, List.setIfInBounds_toArray, List.set_cons_zero, List.set_cons_succ]
          refine take_runs (i := 2) (v := ?_) (by simp only [List.getElem?_toArray, List.getElem?_cons_succ, List.getElem?_cons_zero]; rfl) (by kernel_rfl) (by kernel_rfl) (by kernel_rfl) rfl (by exact fun _ _ _ h => h) (by rfl) ?_ (by assumption) ?_
          rotate_left
          · intro w hSw; (try dsimp only at hSw); go_simp; try (with_reducible rfl)
          try simp only [Act.put, List.setIfInBounds_toArray, List.set_cons_zero, List.set_cons_succ]
          refine take_over (i := 3) (by simp only [List.getElem?_toArray, List.getElem?_cons_succ, List.getElem?_cons_zero]; rfl) (by kernel_rfl) (by kernel_rfl) (by kernel_rfl) rfl (by exact fun _ _ _ h => h) (by rfl) (by assumption) ?_
          try simp only [Act.put, List.setIfInBounds_toArray, List.set_cons_zero, List.set_cons_succ]
          refine take_over (i := 4) (by simp only [List.getElem?_toArray, List.getElem?_cons_succ, List.getElem?_cons_zero]; rfl) (by kernel_rfl) (by kernel_rfl) (by kernel_rfl) rfl (by exact fun _ _ _ h => h) (by rfl) (by assumption) ?_
          try simp only [Act.put, List.setIfInBounds_toArray, List.set_cons_zero, List.set_cons_succ]
          refine take_over (i := 5) (by simp only [List.getElem?_toArray, List.getElem?_cons_succ, List.getElem?_cons_zero]; rfl) (by kernel_rfl) (by kernel_rfl) (by kernel_rfl) rfl (by exact fun _ _ _ h => h) (by rfl) (by assumption) ?_
          try simp only [Act.put, List.setIfInBounds_toArray, List.set_cons_zero, List.set_cons_succ]
          refine take_over (i := 6) (by simp only [List.getElem?_toArray, List.getElem?_cons_succ, List.getElem?_cons_zero]; rfl) (by kernel_rfl) (by kernel_rfl) (by kernel_rfl) rfl (by exact fun _ _ _ h => h) (by rfl) (by assumption) ?_
          try simp only [Act.put, List.setIfInBounds_toArray, List.set_cons_zero, List.set_cons_succ]
          refine take_over (i := 7) (by simp only [List.getElem?_toArray, List.getElem?_cons_succ, List.getElem?_cons_zero]; rfl) (by kernel_rfl) (by kernel_rfl) (by kernel_rfl) rfl (by exact fun _ _ _ h => h) (by rfl) (by assumption) ?_
          try simp only [Act.put, List.setIfInBounds_toArray, List.set_cons_zero, List.set_cons_succ]
          refine take_over (i := 8) (by simp only [List.getElem?_toArray, List.getElem?_cons_succ, List.getElem?_cons_zero]; rfl) (by kernel_rfl) (by kernel_rfl) (by kernel_rfl) rfl (by exact fun _ _ _ h => h) (by rfl) (by assumption) ?_
          try simp only [Act.put, List.setIfInBounds_toArray, List.set_cons_zero, List.set_cons_succ]
          refine take_over (i := 9) (by simp only [List.getElem?_toArray, List.getElem?_cons_succ, List.getElem?_cons_zero]; rfl) (by kernel_rfl) (by kernel_rfl) (by kernel_rfl) rfl (by exact fun _ _ _ h => h) (by rfl) (by assumption) ?_
          try simp only [Act.put, List.setIfInBounds_toArray, List.set_cons_zero, List.set_cons_succ]
          refine take_over (i := 10) (by simp only [List.getElem?_toArray, List.getElem?_cons_succ, List.getElem?_cons_zero]; rfl) (by kernel_rfl) (by kernel_rfl) (by kernel_rfl) rfl (by exact fun _ _ _ h => h) (by rfl) (by assumption) ?_
          try simp only [Act.put, List.setIfInBounds_toArray, List.set_cons_zero, List.set_cons_succ]
          refine take_over (i := 11) (by simp only [List.getElem?_toArray, List.getElem?_cons_succ, List.getElem?_cons_zero]; rfl) (by kernel_rfl) (by kernel_rfl) (by kernel_rfl) rfl (by exact fun _ _ _ h => h) (by rfl) (by assumption) ?_
          try simp only [Act.put, List.setIfInBounds_toArray, List.set_cons_zero, List.set_cons_succ]
          refine take_over (i := 12) (by simp only [List.getElem?_toArray, List.getElem?_cons_succ, List.getElem?_cons_zero]; rfl) (by kernel_rfl) (by kernel_rfl) (by kernel_rfl) rfl (by exact fun _ _ _ h => h) (by rfl) (by assumption) ?_
          try simp only [Act.put, List.setIfInBounds_toArray, List.set_cons_zero, List.set_cons_succ]
          refine take_runs (i := 13) (v := ?_) (by simp only [List.getElem?_toArray, List.getElem?_cons_succ, List.getElem?_cons_zero]; rfl) (by kernel_rfl) (by kernel_rfl) (by kernel_rfl) rfl (by exact fun _ _ _ h => h) (by rfl) ?_ (by assumption) ?_
          rotate_left
          · intro w hSw; (try dsimp only at hSw); go_simp; try (with_reducible rfl)
          try simp only [Act.put, List.setIfInBounds_toArray, List.set_cons_zero, List.set_cons_succ]
          refine wpAnyH_done (by kernel_rfl) ?_ _
          have b11 : Below W0.heap.size W0 wr.drew := below_drew hb2
          clear hHeld hg hgn hb2
          generalize wr.drew = w8 at *
          have hkc : k ≤ cp := by
            rcases H1k.out.2 with ⟨hn, _⟩ | ⟨g', cap', cur, e, _, _, hn, _⟩
            · simp at hn
            · simp only [Value.slice.injEq] at e; omega
          have j3 : (0 : Int) ≤ (p : Int) := by omega
          have j4 : (p : Int) ≤ (cp : Int) := by omega
          have j5 : (p : Int) ≤ (k : Int) := by omega
          have hcl : cs.length = k * 2 := H1k.out.1
          have hone := rows_one (by rw [hsl]; exact hcl) (fun j hj => ⟨(H2.out j hj).1, (H2.out j hj).2.1, (H2.out j hj).2.2.1⟩)
          have HONE := Lib.hid hone
          have HCS := Lib.hid (fun w hb => rows_cells H1k.out (w := w) hb)
          have oX0 : RowsC (w8.alloc (.cells #[] 76)) W0.heap.size (.slice (some ⟨w8.heap.size, 0, none⟩) 0 0) 0 [] := World.ownsRow_lit (e := 76) (size := 2) w8 #[] 0 b11.size (by unfold maxLen; omega) rfl
          have bX0 : Below W0.heap.size W0 (w8.alloc (.cells #[] 76)) := b11.alloc b11.size _
          clear hone
          go_wp2_with (at_builtin; refine append_rows rfl (.tmp 32) (.tmp 35) rfl W0.heap.size _ 0 [] rfl oX0 bX0.size ⟨g, 0, none⟩ p cp (cs.take (p * 2)) rfl (by rw [List.length_take]; omega) (fun j u hj => HCS.out _ bX0 j u (by rw [List.getElem?_take] at hj; split at hj; exact hj; cases hj)) (fun u hu => HONE.out u (List.mem_of_mem_take hu)) (by omega) ?_)
          intro x1 W1 oX1 gX1 _ hat1
          have bel1 : Below w8.heap.size w8 W1 := ((Below.refl _ w8).alloc (Nat.le_refl _) _).grown gX1 (by simp) (fun k hk => by simp [Value.ownBlock] at hk; omega)
          have B1 := b11.trans (bel1.mono b11.size)
          have oX1' : RowsC W1 W0.heap.size x1 p (cs.take (p * 2)) := by simpa using oX1
          have hc1w := (B1.cell (p := ⟨b, off + k * 2, none⟩) hbl).trans hc1
          have hc2w := (B1.cell (p := ⟨b, off + k * 2 + 1, none⟩) hbl).trans hc2
          have HI1 := Lib.hid (ints_below HI.out B1)
          have hx1 : Hid (∀ b, x1.ownBlock = some b → b < W1.heap.size) := Lib.hid (fun b e => (oX1'.lt b e).2)
          clear oX1 gX1 oX0 bX0 hat1
          go_wp2_with fail
          refine (l3Copy_any id vv xs W1 HI1.out hxl).mono ?_
          rintro e W2 ⟨uu2, rfl, oV, bel2⟩
          obtain ⟨va, vc, rfl⟩ := ints_len (ownsN_ints oV)
          have B2 := B1.trans (bel2.mono B1.size)
          have oX1b : RowsC (W2.alloc (.cells #[.int .i64 id, .slice va xs.length vc] 76)) W0.heap.size x1 p (cs.take (p * 2)) := World.ownsRow.alloc (rowsC_kept oX1' bel2) _
          have B2a := B2.alloc B2.size (.cells #[.int .i64 id, .slice va xs.length vc] 76)
          clear hc1w hc2w
          go_wp2_with (at_builtin; refine append_rows rfl (.tmp 37) (.tmp 43) rfl W0.heap.size x1 p _ rfl oX1b B2a.size ⟨W2.heap.size, 0, none⟩ 1 1 [.int .i64 id, .slice va xs.length vc] rfl rfl (fun j u hj => by rw [Go.WideShapes.add_plain, Nat.zero_add, cell_lit]; simpa using hj) (by intro u hu; simp at hu; rcases hu with rfl | rfl <;> rfl) (by omega) ?_)
          intro x2 W3 oX2 gX2 _ hat2
          have bel3 := (Below.refl W0.heap.size (W2.alloc (.cells #[.int .i64 id, .slice va xs.length vc] 76))).grown gX2 B2a.size (fun k hk => (oX1b.lt k hk).1)
          have B3 := B2a.trans bel3
          have hdl : (cs.drop (p * 2)).length = (k - p) * 2 := by rw [List.length_drop]; omega
          have HNW := Lib.hid (fun (j : Nat) (u : Value) (hj : (cs.drop (p * 2))[j]? = some u) => show W3.cell? ((⟨g, p * 2, none⟩ : Addr).add j) = some u by
            rw [List.getElem?_drop] at hj
            have := HCS.out W3 B3 (p * 2 + j) u hj
            rw [Go.WideShapes.add_plain, Nat.zero_add] at this
            rw [Go.WideShapes.add_plain]; exact this)
          have oX2' : RowsC W3 W0.heap.size x2 (p + 1) (cs.take (p * 2) ++ [.int .i64 id, .slice va xs.length vc]) := oX2
          by_cases hpc : cp = p
          · have hdn : cs.drop (p * 2) = [] := List.eq_nil_of_length_eq_zero (by omega)
            have hq3 : cp - p = 0 := by omega
            go_wp2_with (at_builtin; refine append_rows rfl (.tmp 45) (.tmp 48) rfl W0.heap.size x2 (p + 1) _ rfl oX2' B3.size ⟨g, 0, none⟩ (k - p) 0 (cs.drop (p * 2)) (by first | rfl | (simp; done)) hdl (fun j u hj => by rw [hdn] at hj; cases hj) (fun u hu => HONE.out u (List.mem_of_mem_drop hu)) (by omega) ?_)
            intro x3 W4 oX3 gX3 _ hat3
            obtain ⟨FO, FB⟩ := insert_end hp hsl H1.out H2.out H3.out hbel.size B1.size hx1.out oV gX2 hat2 B3 oX2' gX3 hat3 oX3 (by simp [hdn]) HP.out
            obtain ⟨g3, cp3, rfl⟩ := rowsC_form oX3 (by omega)
            rw [show p + 1 + (k - p) = k + 1 by omega] at FO
            have FB2 := hbel.trans (FB.mono hbel.size)
            have e9 : p + 1 + (k - p) = k + 1 := by omega
            rw [e9]
            clear oX3 gX3 hat3
            go_wp2
            go_roundw
            case rel => exact ⟨k + 1, g3, cp3, by omega, by go_num, rfl, by rw [HSTEP.out]; exact FO, FB2⟩
            case measure => simp [intOf]; omega
          · have hq2 : ¬ p = cp := fun e => hpc e.symm
            have hq3 : ¬ cp - p = 0 := by omega
            have hq4 : p < cp := by omega
            have hq5 : ¬ cp ≤ p := by omega
            go_wp2_with (at_builtin; refine append_rows rfl (.tmp 45) (.tmp 48) rfl W0.heap.size x2 (p + 1) _ rfl oX2' B3.size ⟨g, p * 2, none⟩ (k - p) (cp - p) (cs.drop (p * 2)) (by first | rfl | (simp; done)) hdl HNW.out (fun u hu => HONE.out u (List.mem_of_mem_drop hu)) (by omega) ?_)
            intro x3 W4 oX3 gX3 _ hat3
            obtain ⟨FO, FB⟩ := insert_end hp hsl H1.out H2.out H3.out hbel.size B1.size hx1.out oV gX2 hat2 B3 oX2' gX3 hat3 oX3 (by simp) HP.out
            obtain ⟨g3, cp3, rfl⟩ := rowsC_form oX3 (by omega)
            rw [show p + 1 + (k - p) = k + 1 by omega] at FO
            have FB2 := hbel.trans (FB.mono hbel.size)
            have e9 : p + 1 + (k - p) = k + 1 := by omega
            rw [e9]
            clear oX3 gX3 hat3
            go_wp2
            go_roundw
            case rel => exact ⟨k + 1, g3, cp3, by omega, by go_num, rfl, by rw [HSTEP.out]; exact FO, FB2⟩
            case measure => simp [intOf]; omega
        · obtain ⟨m, hpm⟩ : ∃ m, p = m + 1 := ⟨p - 1, by omega⟩
          have hms : m < ss.length := by omega
          obtain ⟨q1, q2, q3, _⟩ := H2.out m hms
          have d1 := (hb2.cell (p := ⟨g, m * 2, none⟩) hgl.2).trans ((World.ownsRow.cellAt H1k.out (m * 2) (by omega)).trans q1)
          have d2 := (hb2.cell (p := ⟨g, m * 2 + 1, none⟩) hgl.2).trans ((World.ownsRow.cellAt H1k.out (m * 2 + 1) (by omega)).trans q2)
          have hJ := Lib.hid (ints_below (ownsN_ints q3) hb2)
          have hI2 := Lib.hid (ints_below HI.out hb2)
          have hyl := HL.out m hms
          have HX := Lib.hid (fun w hI g => HLESS.out (ss.getD m (0, [])) (vs m) w hI g hyl)
          have hg : decide ((0 : Int) < (p : Int)) = true := decide_eq_true (by omega)
          have hgn : decide (0 < p) = true := decide_eq_true (by omega)
          have j1 : (0 : Int) ≤ (m : Int) := by omega
          have j2 : (m : Int) < (k : Int) := by omega
          have hsub : IntKind.i64.wrap ((p : Int) - 1) = (m : Int) := by rw [IntWalk.i64_in _ (by omega)]; omega
          have HDN := Lib.hid (insAt_down (rs := ss) (r := (id, xs)) (m := m))
          have HST := Lib.hid (insAt_stop (rs := ss) (r := (id, xs)) (m := m))
          have HPM := Lib.hid hpm
          clear q1 q2 q3 hz hpm
          have er : (((ss.getD m (0, [])).1, (ss.getD m (0, [])).2) : RowD) = ss.getD m (0, []) := rfl
          rw [er] at HX
          cases hless : rowLess (id, xs) (ss.getD m (0, [])) with
          | true =>
            have HA : Hid (insAt ss (id, xs) m = insAt ss (id, xs) k) := Lib.hid ((HDN.out hless).symm.trans ((congrArg _ HPM.out.symm).trans hin.out))
            rw [hless] at HX
            clear hless er HDN HST
            generalize (ss.getD m (0, [])).1 = id2 at *
            generalize (ss.getD m (0, [])).2 = ys at *
            generalize vs m = uu at *
            go_wp2
            refine wp_region_held_drew (S := fun w' => w'.cell? ⟨b, off + k * 2, none⟩ = some (.int .i64 id) ∧ w'.cell? ⟨b, off + k * 2 + 1, none⟩ = some vv ∧ w'.cell? ⟨g, m * 2, none⟩ = some (.int .i64 id2) ∧ w'.cell? ⟨g, m * 2 + 1, none⟩ = some uu) (by kernel_rfl) ⟨hc1', hc2', d1, d2⟩ (fun hHeld => ?_)
            refine take_runs (i := 0) (v := ?_) (by simp only [List.getElem?_toArray, List.getElem?_cons_succ, List.getElem?_cons_zero]; rfl) (by kernel_rfl) (by kernel_rfl) (by kernel_rfl) rfl (by exact fun _ _ _ h => h) (by rfl) ?_ (by assumption) ?_
            rotate_left
            · intro w hSw; (try dsimp only at hSw); go_simp; try (with_reducible rfl)
            try simp only [Act.put, List.setIfInBounds_toArray, List.set_cons_zero, List.set_cons_succ]
            refine take_runs (i := 1) (v := ?_) (by simp only [List.getElem?_toArray, List.getElem?_cons_succ, List.getElem?_cons_zero]; rfl) (by kernel_rfl) (by kernel_rfl) (by kernel_rfl) rfl (by exact fun _ _ _ h => h) (by rfl) ?_ (by assumption) ?_
            rotate_left
            · intro w hSw; (try dsimp only at hSw); go_simp; try (with_reducible rfl)
            try simp only [Act.put, List.setIfInBounds_toArray, List.set_cons_zero, List.set_cons_succ]
            refine take_runs (i := 2) (v := ?_) (by simp only [List.getElem?_toArray, List.getElem?_cons_succ, List.getElem?_cons_zero]; rfl) (by kernel_rfl) (by kernel_rfl) (by kernel_rfl) rfl (by exact fun _ _ _ h => h) (by rfl) ?_ (by assumption) ?_
            rotate_left
            · intro w hSw; (try dsimp only at hSw); go_simp; try (with_reducible rfl)
            try simp only [Act.put, List.setIfInBounds_toArray, List.set_cons_zero, List.set_cons_succ]
            refine take_runs (i := 3) (v := ?_) (by simp only [List.getElem?_toArray, List.getElem?_cons_succ, List.getElem?_cons_zero]; rfl) (by kernel_rfl) (by kernel_rfl) (by kernel_rfl) rfl (by exact fun _ _ _ h => h) (by rfl) ?_ (by assumption) ?_
            rotate_left
            · intro w hSw; (try dsimp only at hSw); go_simp; try (with_reducible rfl)
            try simp only [Act.put, List.setIfInBounds_toArray, List.set_cons_zero, List.set_cons_succ]
            refine take_runs (i := 4) (v := ?_) (by simp only [List.getElem?_toArray, List.getElem?_cons_succ, List.getElem?_cons_zero]; rfl) (by kernel_rfl) (by kernel_rfl) (by kernel_rfl) rfl (by exact fun _ _ _ h => h) (by rfl) ?_ (by assumption) ?_
            rotate_left
            · intro w hSw; (try dsimp only at hSw); go_simp; try (with_reducible rfl)
            try simp only [Act.put, List.setIfInBounds_toArray, List.set_cons_zero, List.set_cons_succ]
            refine take_runs (i := 5) (v := ?_) (by simp only [List.getElem?_toArray, List.getElem?_cons_succ, List.getElem?_cons_zero]; rfl) (by kernel_rfl) (by kernel_rfl) (by kernel_rfl) rfl (by exact fun _ _ _ h => h) (by rfl) ?_ (by assumption) ?_
            rotate_left
            · intro w hSw; (try dsimp only at hSw); go_simp; try (with_reducible rfl)
            try simp only [Act.put, List.setIfInBounds_toArray, List.set_cons_zero, List.set_cons_succ]
            refine take_runs (i := 6) (v := ?_) (by simp only [List.getElem?_toArray, List.getElem?_cons_succ, List.getElem?_cons_zero]; rfl) (by kernel_rfl) (by kernel_rfl) (by kernel_rfl) rfl (by exact fun _ _ _ h => h) (by rfl) ?_ (by assumption) ?_
            rotate_left
            · intro w hSw; (try dsimp only at hSw); go_simp; try (with_reducible rfl)
            try simp only [Act.put, List.setIfInBounds_toArray, List.set_cons_zero, List.set_cons_succ]
            refine take_runs (i := 7) (v := ?_) (by simp only [List.getElem?_toArray, List.getElem?_cons_succ, List.getElem?_cons_zero]; rfl) (by kernel_rfl) (by kernel_rfl) (by kernel_rfl) rfl (by exact fun _ _ _ h => h) (by rfl) ?_ (by assumption) ?_
            rotate_left
            · intro w hSw; (try dsimp only at hSw); go_simp; try (with_reducible rfl)
            try simp only [Act.put, List.setIfInBounds_toArray, List.set_cons_zero, List.set_cons_succ]
            refine take_runs (i := 8) (v := ?_) (by simp only [List.getElem?_toArray, List.getElem?_cons_succ, List.getElem?_cons_zero]; rfl) (by kernel_rfl) (by kernel_rfl) (by kernel_rfl) rfl (by exact fun _ _ _ h => h) (by rfl) ?_ (by assumption) ?_
            rotate_left
            · intro w hSw; (try dsimp only at hSw); go_simp; try (with_reducible rfl)
            try simp only [Act.put, List.setIfInBounds_toArray, List.set_cons_zero, List.set_cons_succ]
            refine take_runs (i := 9) (v := ?_) (by simp only [List.getElem?_toArray, List.getElem?_cons_succ, List.getElem?_cons_zero]; rfl) (by kernel_rfl) (by kernel_rfl) (by kernel_rfl) rfl (by exact fun _ _ _ h => h) (by rfl) ?_ (by assumption) ?_
            rotate_left
            · intro w hSw; (try dsimp only at hSw); go_simp; try (with_reducible rfl)
            try simp only [Act.put, List.setIfInBounds_toArray, List.set_cons_zero, List.set_cons_succ]
            refine take_runs (i := 10) (v := ?_) (by simp only [List.getElem?_toArray, List.getElem?_cons_succ, List.getElem?_cons_zero]; rfl) (by kernel_rfl) (by kernel_rfl) (by kernel_rfl) rfl (by exact fun _ _ _ h => h) (by rfl) ?_ (by assumption) ?_
            rotate_left
            · intro w hSw; (try dsimp only at hSw); go_simp; try (with_reducible rfl)
            try simp only [Act.put, List.setIfInBounds_toArray, List.set_cons_zero, List.set_cons_succ]
            refine take_runs (i := 11) (v := ?_) (by simp only [List.getElem?_toArray, List.getElem?_cons_succ, List.getElem?_cons_zero]; rfl) (by kernel_rfl) (by kernel_rfl) (by kernel_rfl) rfl (by exact fun _ _ _ h => h) (by rfl) ?_ (by assumption) ?_
            rotate_left
            · intro w hSw; (try dsimp only at hSw); go_simp; try (with_reducible rfl)
            try simp only [Act.put, List.setIfInBounds_toArray, List.set_cons_zero, List.set_cons_succ]
            refine wpAnyH_ready (rs := [12]) (by kernel_rfl) (by simp) ?_
            refine AllReadyH.cons (o := _) (by simp only [List.getElem?_toArray, List.getElem?_cons_succ, List.getElem?_cons_zero]; rfl) (fun K hK => ?_) AllReadyH.nil
            go_simp
            refine (HX.out _ (by exact ints_heap hI2.out rfl) (by exact ints_heap hJ.out rfl)).mono ?_
            rintro e w8 ⟨rfl, b9⟩
            have b10 : Below wr.heap.size wr w8 := ⟨b9.os, b9.tape, b9.output, b9.size, b9.block⟩
            have s1 := (b10.cell (p := ⟨b, off + k * 2, none⟩) (Nat.lt_of_lt_of_le hbl hb2.size)).trans hc1'
            have s2 := (b10.cell (p := ⟨b, off + k * 2 + 1, none⟩) (Nat.lt_of_lt_of_le hbl hb2.size)).trans hc2'
            have s3 := (b10.cell (p := ⟨g, m * 2, none⟩) (Nat.lt_of_lt_of_le hgl.2 hb2.size)).trans d1
            have s4 := (b10.cell (p := ⟨g, m * 2 + 1, none⟩) (Nat.lt_of_lt_of_le hgl.2 hb2.size)).trans d2
            refine hK.out _ _ ⟨s1, s2, s3, s4⟩ (fun hHeld => ?_)
            clear hK K
            try simp only [Act.put, List.setIfInBounds_toArray, List.set_cons_zero, List.set_cons_succ]
            refine take_runs (i := 13) (v := ?_) (by simp only [List.getElem?_toArray, List.getElem?_cons_succ, List.getElem?_cons_zero]; rfl) (by kernel_rfl) (by kernel_rfl) (by kernel_rfl) rfl (by exact fun _ _ _ h => h) (by rfl) ?_ (by assumption) ?_
            rotate_left
            · intro w hSw; (try dsimp only at hSw); go_simp; try (with_reducible rfl)
            try simp only [Act.put, List.setIfInBounds_toArray, List.set_cons_zero, List.set_cons_succ]
            refine wpAnyH_done (by kernel_rfl) ?_ _
            have b11 := hb2.trans (b10.mono hb2.size)
            clear s1 s2 s3 s4 hHeld b9 b10
            go_wp2
            go_roundw
            case rel => exact ⟨m, by omega, rfl, HA, b11⟩
            case measure => have := HPM.out; simp [intOf]; omega
          | false =>
            have HP : Hid (insAt ss (id, xs) k = p) := Lib.hid (hin.out.symm.trans ((congrArg _ HPM.out).trans ((HST.out hless).trans HPM.out.symm)))
            rw [hless] at HX
            clear hless er HDN HST
            generalize (ss.getD m (0, [])).1 = id2 at *
            generalize (ss.getD m (0, [])).2 = ys at *
            generalize vs m = uu at *
            go_wp2
            refine wp_region_held_drew (S := fun w' => w'.cell? ⟨b, off + k * 2, none⟩ = some (.int .i64 id) ∧ w'.cell? ⟨b, off + k * 2 + 1, none⟩ = some vv ∧ w'.cell? ⟨g, m * 2, none⟩ = some (.int .i64 id2) ∧ w'.cell? ⟨g, m * 2 + 1, none⟩ = some uu) (by kernel_rfl) ⟨hc1', hc2', d1, d2⟩ (fun hHeld => ?_)
            refine take_runs (i := 0) (v := ?_) (by simp only [List.getElem?_toArray, List.getElem?_cons_succ, List.getElem?_cons_zero]; rfl) (by kernel_rfl) (by kernel_rfl) (by kernel_rfl) rfl (by exact fun _ _ _ h => h) (by rfl) ?_ (by assumption) ?_
            rotate_left
            · intro w hSw; (try dsimp only at hSw); go_simp; try (with_reducible rfl)
            try simp only [Act.put, List.setIfInBounds_toArray, List.set_cons_zero, List.set_cons_succ]
            refine take_runs (i := 1) (v := ?_) (by simp only [List.getElem?_toArray, List.getElem?_cons_succ, List.getElem?_cons_zero]; rfl) (by kernel_rfl) (by kernel_rfl) (by kernel_rfl) rfl (by exact fun _ _ _ h => h) (by rfl) ?_ (by assumption) ?_
            rotate_left
            · intro w hSw; (try dsimp only at hSw); go_simp; try (with_reducible rfl)
            try simp only [Act.put, List.setIfInBounds_toArray, List.set_cons_zero, List.set_cons_succ]
            refine take_runs (i := 2) (v := ?_) (by simp only [List.getElem?_toArray, List.getElem?_cons_succ, List.getElem?_cons_zero]; rfl) (by kernel_rfl) (by kernel_rfl) (by kernel_rfl) rfl (by exact fun _ _ _ h => h) (by rfl) ?_ (by assumption) ?_
            rotate_left
            · intro w hSw; (try dsimp only at hSw); go_simp; try (with_reducible rfl)
            try simp only [Act.put, List.setIfInBounds_toArray, List.set_cons_zero, List.set_cons_succ]
            refine take_runs (i := 3) (v := ?_) (by simp only [List.getElem?_toArray, List.getElem?_cons_succ, List.getElem?_cons_zero]; rfl) (by kernel_rfl) (by kernel_rfl) (by kernel_rfl) rfl (by exact fun _ _ _ h => h) (by rfl) ?_ (by assumption) ?_
            rotate_left
            · intro w hSw; (try dsimp only at hSw); go_simp; try (with_reducible rfl)
            try simp only [Act.put, List.setIfInBounds_toArray, List.set_cons_zero, List.set_cons_succ]
            refine take_runs (i := 4) (v := ?_) (by simp only [List.getElem?_toArray, List.getElem?_cons_succ, List.getElem?_cons_zero]; rfl) (by kernel_rfl) (by kernel_rfl) (by kernel_rfl) rfl (by exact fun _ _ _ h => h) (by rfl) ?_ (by assumption) ?_
            rotate_left
            · intro w hSw; (try dsimp only at hSw); go_simp; try (with_reducible rfl)
            try simp only [Act.put, List.setIfInBounds_toArray, List.set_cons_zero, List.set_cons_succ]
            refine take_runs (i := 5) (v := ?_) (by simp only [List.getElem?_toArray, List.getElem?_cons_succ, List.getElem?_cons_zero]; rfl) (by kernel_rfl) (by kernel_rfl) (by kernel_rfl) rfl (by exact fun _ _ _ h => h) (by rfl) ?_ (by assumption) ?_
            rotate_left
            · intro w hSw; (try dsimp only at hSw); go_simp; try (with_reducible rfl)
            try simp only [Act.put, List.setIfInBounds_toArray, List.set_cons_zero, List.set_cons_succ]
            refine take_runs (i := 6) (v := ?_) (by simp only [List.getElem?_toArray, List.getElem?_cons_succ, List.getElem?_cons_zero]; rfl) (by kernel_rfl) (by kernel_rfl) (by kernel_rfl) rfl (by exact fun _ _ _ h => h) (by rfl) ?_ (by assumption) ?_
            rotate_left
            · intro w hSw; (try dsimp only at hSw); go_simp; try (with_reducible rfl)
            try simp only [Act.put, List.setIfInBounds_toArray, List.set_cons_zero, List.set_cons_succ]
            refine take_runs (i := 7) (v := ?_) (by simp only [List.getElem?_toArray, List.getElem?_cons_succ, List.getElem?_cons_zero]; rfl) (by kernel_rfl) (by kernel_rfl) (by kernel_rfl) rfl (by exact fun _ _ _ h => h) (by rfl) ?_ (by assumption) ?_
            rotate_left
            · intro w hSw; (try dsimp only at hSw); go_simp; try (with_reducible rfl)
            try simp only [Act.put, List.setIfInBounds_toArray, List.set_cons_zero, List.set_cons_succ]
            refine take_runs (i := 8) (v := ?_) (by simp only [List.getElem?_toArray, List.getElem?_cons_succ, List.getElem?_cons_zero]; rfl) (by kernel_rfl) (by kernel_rfl) (by kernel_rfl) rfl (by exact fun _ _ _ h => h) (by rfl) ?_ (by assumption) ?_
            rotate_left
            · intro w hSw; (try dsimp only at hSw); go_simp; try (with_reducible rfl)
            try simp only [Act.put, List.setIfInBounds_toArray, List.set_cons_zero, List.set_cons_succ]
            refine take_runs (i := 9) (v := ?_) (by simp only [List.getElem?_toArray, List.getElem?_cons_succ, List.getElem?_cons_zero]; rfl) (by kernel_rfl) (by kernel_rfl) (by kernel_rfl) rfl (by exact fun _ _ _ h => h) (by rfl) ?_ (by assumption) ?_
            rotate_left
            · intro w hSw; (try dsimp only at hSw); go_simp; try (with_reducible rfl)
            try simp only [Act.put, List.setIfInBounds_toArray, List.set_cons_zero, List.set_cons_succ]
            refine take_runs (i := 10) (v := ?_) (by simp only [List.getElem?_toArray, List.getElem?_cons_succ, List.getElem?_cons_zero]; rfl) (by kernel_rfl) (by kernel_rfl) (by kernel_rfl) rfl (by exact fun _ _ _ h => h) (by rfl) ?_ (by assumption) ?_
            rotate_left
            · intro w hSw; (try dsimp only at hSw); go_simp; try (with_reducible rfl)
            try simp only [Act.put, List.setIfInBounds_toArray, List.set_cons_zero, List.set_cons_succ]
            refine take_runs (i := 11) (v := ?_) (by simp only [List.getElem?_toArray, List.getElem?_cons_succ, List.getElem?_cons_zero]; rfl) (by kernel_rfl) (by kernel_rfl) (by kernel_rfl) rfl (by exact fun _ _ _ h => h) (by rfl) ?_ (by assumption) ?_
            rotate_left
            · intro w hSw; (try dsimp only at hSw); go_simp; try (with_reducible rfl)
            try simp only [Act.put, List.setIfInBounds_toArray, List.set_cons_zero, List.set_cons_succ]
            refine wpAnyH_ready (rs := [12]) (by kernel_rfl) (by simp) ?_
            refine AllReadyH.cons (o := _) (by simp only [List.getElem?_toArray, List.getElem?_cons_succ, List.getElem?_cons_zero]; rfl) (fun K hK => ?_) AllReadyH.nil
            go_simp
            refine (HX.out _ (by exact ints_heap hI2.out rfl) (by exact ints_heap hJ.out rfl)).mono ?_
            rintro e w8 ⟨rfl, b9⟩
            have b10 : Below wr.heap.size wr w8 := ⟨b9.os, b9.tape, b9.output, b9.size, b9.block⟩
            have s1 := (b10.cell (p := ⟨b, off + k * 2, none⟩) (Nat.lt_of_lt_of_le hbl hb2.size)).trans hc1'
            have s2 := (b10.cell (p := ⟨b, off + k * 2 + 1, none⟩) (Nat.lt_of_lt_of_le hbl hb2.size)).trans hc2'
            have s3 := (b10.cell (p := ⟨g, m * 2, none⟩) (Nat.lt_of_lt_of_le hgl.2 hb2.size)).trans d1
            have s4 := (b10.cell (p := ⟨g, m * 2 + 1, none⟩) (Nat.lt_of_lt_of_le hgl.2 hb2.size)).trans d2
            refine hK.out _ _ ⟨s1, s2, s3, s4⟩ (fun hHeld => ?_)
            clear hK K
            try simp only [Act.put, List.setIfInBounds_toArray, List.set_cons_zero, List.set_cons_succ]
            refine take_runs (i := 13) (v := ?_) (by simp only [List.getElem?_toArray, List.getElem?_cons_succ, List.getElem?_cons_zero]; rfl) (by kernel_rfl) (by kernel_rfl) (by kernel_rfl) rfl (by exact fun _ _ _ h => h) (by rfl) ?_ (by assumption) ?_
            rotate_left
            · intro w hSw; (try dsimp only at hSw); go_simp; try (with_reducible rfl)
            try simp only [Act.put, List.setIfInBounds_toArray, List.set_cons_zero, List.set_cons_succ]
            refine wpAnyH_done (by kernel_rfl) ?_ _
            have b11 := hb2.trans (b10.mono hb2.size)
            clear s1 s2 s3 s4 hHeld b9 b10
            clear d1 d2 hJ hI2 HX hyl hg hgn j1 j2 hsub hc1' hc2'
            have hkc : k ≤ cp := by
              rcases H1k.out.2 with ⟨hn, _⟩ | ⟨g', cap', cur, e, _, _, hn, _⟩
              · simp at hn
              · simp only [Value.slice.injEq] at e; omega
            have j3 : (0 : Int) ≤ (p : Int) := by omega
            have j4 : (p : Int) ≤ (cp : Int) := by omega
            have j5 : (p : Int) ≤ (k : Int) := by omega
            have hcl : cs.length = k * 2 := H1k.out.1
            have hone := rows_one (by rw [hsl]; exact hcl) (fun j hj => ⟨(H2.out j hj).1, (H2.out j hj).2.1, (H2.out j hj).2.2.1⟩)
            have HONE := Lib.hid hone
            have HCS := Lib.hid (fun w hb => rows_cells H1k.out (w := w) hb)
            have oX0 : RowsC (w8.alloc (.cells #[] 76)) W0.heap.size (.slice (some ⟨w8.heap.size, 0, none⟩) 0 0) 0 [] := World.ownsRow_lit (e := 76) (size := 2) w8 #[] 0 b11.size (by unfold maxLen; omega) rfl
            have bX0 : Below W0.heap.size W0 (w8.alloc (.cells #[] 76)) := b11.alloc b11.size _
            clear hone
            go_wp2_with (at_builtin; refine append_rows rfl (.tmp 32) (.tmp 35) rfl W0.heap.size _ 0 [] rfl oX0 bX0.size ⟨g, 0, none⟩ p cp (cs.take (p * 2)) rfl (by rw [List.length_take]; omega) (fun j u hj => HCS.out _ bX0 j u (by rw [List.getElem?_take] at hj; split at hj; exact hj; cases hj)) (fun u hu => HONE.out u (List.mem_of_mem_take hu)) (by omega) ?_)
            intro x1 W1 oX1 gX1 _ hat1
            have bel1 : Below w8.heap.size w8 W1 := ((Below.refl _ w8).alloc (Nat.le_refl _) _).grown gX1 (by simp) (fun k hk => by simp [Value.ownBlock] at hk; omega)
            have B1 := b11.trans (bel1.mono b11.size)
            have oX1' : RowsC W1 W0.heap.size x1 p (cs.take (p * 2)) := by simpa using oX1
            have hc1w := (B1.cell (p := ⟨b, off + k * 2, none⟩) hbl).trans hc1
            have hc2w := (B1.cell (p := ⟨b, off + k * 2 + 1, none⟩) hbl).trans hc2
            have HI1 := Lib.hid (ints_below HI.out B1)
            have hx1 : Hid (∀ b, x1.ownBlock = some b → b < W1.heap.size) := Lib.hid (fun b e => (oX1'.lt b e).2)
            clear oX1 gX1 oX0 bX0 hat1
            go_wp2_with fail
            refine (l3Copy_any id vv xs W1 HI1.out hxl).mono ?_
            rintro e W2 ⟨uu2, rfl, oV, bel2⟩
            obtain ⟨va, vc, rfl⟩ := ints_len (ownsN_ints oV)
            have B2 := B1.trans (bel2.mono B1.size)
            have oX1b : RowsC (W2.alloc (.cells #[.int .i64 id, .slice va xs.length vc] 76)) W0.heap.size x1 p (cs.take (p * 2)) := World.ownsRow.alloc (rowsC_kept oX1' bel2) _
            have B2a := B2.alloc B2.size (.cells #[.int .i64 id, .slice va xs.length vc] 76)
            clear hc1w hc2w
            go_wp2_with (at_builtin; refine append_rows rfl (.tmp 37) (.tmp 43) rfl W0.heap.size x1 p _ rfl oX1b B2a.size ⟨W2.heap.size, 0, none⟩ 1 1 [.int .i64 id, .slice va xs.length vc] rfl rfl (fun j u hj => by rw [Go.WideShapes.add_plain, Nat.zero_add, cell_lit]; simpa using hj) (by intro u hu; simp at hu; rcases hu with rfl | rfl <;> rfl) (by omega) ?_)
            intro x2 W3 oX2 gX2 _ hat2
            have bel3 := (Below.refl W0.heap.size (W2.alloc (.cells #[.int .i64 id, .slice va xs.length vc] 76))).grown gX2 B2a.size (fun k hk => (oX1b.lt k hk).1)
            have B3 := B2a.trans bel3
            have hdl : (cs.drop (p * 2)).length = (k - p) * 2 := by rw [List.length_drop]; omega
            have HNW := Lib.hid (fun (j : Nat) (u : Value) (hj : (cs.drop (p * 2))[j]? = some u) => show W3.cell? ((⟨g, p * 2, none⟩ : Addr).add j) = some u by
              rw [List.getElem?_drop] at hj
              have := HCS.out W3 B3 (p * 2 + j) u hj
              rw [Go.WideShapes.add_plain, Nat.zero_add] at this
              rw [Go.WideShapes.add_plain]; exact this)
            have oX2' : RowsC W3 W0.heap.size x2 (p + 1) (cs.take (p * 2) ++ [.int .i64 id, .slice va xs.length vc]) := oX2
            by_cases hpc : cp = p
            · have hdn : cs.drop (p * 2) = [] := List.eq_nil_of_length_eq_zero (by omega)
              have hq3 : cp - p = 0 := by omega
              go_wp2_with (at_builtin; refine append_rows rfl (.tmp 45) (.tmp 48) rfl W0.heap.size x2 (p + 1) _ rfl oX2' B3.size ⟨g, 0, none⟩ (k - p) 0 (cs.drop (p * 2)) (by first | rfl | (simp; done)) hdl (fun j u hj => by rw [hdn] at hj; cases hj) (fun u hu => HONE.out u (List.mem_of_mem_drop hu)) (by omega) ?_)
              intro x3 W4 oX3 gX3 _ hat3
              obtain ⟨FO, FB⟩ := insert_end hp hsl H1.out H2.out H3.out hbel.size B1.size hx1.out oV gX2 hat2 B3 oX2' gX3 hat3 oX3 (by simp [hdn]) HP.out
              obtain ⟨g3, cp3, rfl⟩ := rowsC_form oX3 (by omega)
              rw [show p + 1 + (k - p) = k + 1 by omega] at FO
              have FB2 := hbel.trans (FB.mono hbel.size)
              have e9 : p + 1 + (k - p) = k + 1 := by omega
              rw [e9]
              clear oX3 gX3 hat3
              go_wp2
              go_roundw
              case rel => exact ⟨k + 1, g3, cp3, by omega, by go_num, rfl, by rw [HSTEP.out]; exact FO, FB2⟩
              case measure => simp [intOf]; omega
            · have hq2 : ¬ p = cp := fun e => hpc e.symm
              have hq3 : ¬ cp - p = 0 := by omega
              have hq4 : p < cp := by omega
              have hq5 : ¬ cp ≤ p := by omega
              go_wp2_with (at_builtin; refine append_rows rfl (.tmp 45) (.tmp 48) rfl W0.heap.size x2 (p + 1) _ rfl oX2' B3.size ⟨g, p * 2, none⟩ (k - p) (cp - p) (cs.drop (p * 2)) (by first | rfl | (simp; done)) hdl HNW.out (fun u hu => HONE.out u (List.mem_of_mem_drop hu)) (by omega) ?_)
              intro x3 W4 oX3 gX3 _ hat3
              obtain ⟨FO, FB⟩ := insert_end hp hsl H1.out H2.out H3.out hbel.size B1.size hx1.out oV gX2 hat2 B3 oX2' gX3 hat3 oX3 (by simp) HP.out
              obtain ⟨g3, cp3, rfl⟩ := rowsC_form oX3 (by omega)
              rw [show p + 1 + (k - p) = k + 1 by omega] at FO
              have FB2 := hbel.trans (FB.mono hbel.size)
              have e9 : p + 1 + (k - p) = k + 1 := by omega
              rw [e9]
              clear oX3 gX3 hat3
              go_wp2
              go_roundw
              case rel => exact ⟨k + 1, g3, cp3, by omega, by go_num, rfl, by rw [HSTEP.out]; exact FO, FB2⟩
              case measure => simp [intOf]; omega
    · obtain rfl : k = rs.length := by omega
      rw [sortTo_all] at hown
      go_wp2
      go_ret
      exact ⟨_, rfl, hown, hbel⟩
end Go.Proofs.Ytginjmnohnidiaa
