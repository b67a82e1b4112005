/-
  Texts of the proof, merged: VerP5, VerP6, LawCountVersions, OVersionS, OVersionSS, OStore, RowEqP, VerP8.
-/
import Derived.Test.YtginjmnohnidiaaSA4
namespace Go.Proofs.Ytginjmnohnidiaa
open Go.RowKit
set_option linter.unusedVariables false
set_option linter.unusedSimpArgs false
def possP (ss : List (List VerD)) (now : Int) : Prop := ShortP ss ss.length ∧ VersP ss.flatten now ss.flatten.length
instance (ss : List (List VerD)) (now : Int) : Decidable (possP ss now) := by unfold possP; infer_instance
def possB (ss : List (List VerD)) (now : Int) : Bool := decide (possP ss now)
theorem poss_short {ss : List (List VerD)} {now : Int} {i : Nat} (hi : i < ss.length) (h : ¬ (ss.getD i []).length ≤ 4) : possB ss now = false := decide_eq_false (fun g => h (g.1 i hi))
theorem poss_ver {ss : List (List VerD)} {now : Int} {i : Nat} (hi : i < ss.flatten.length) (h : verB (ss.flatten.getD i v0D) now = false) : possB ss now = false := decide_eq_false (fun g => by
  have := (g.2 i hi).1; rw [h] at this; cases this)
theorem take_get {l : List VerD} {i j : Nat} (h : j < (l.take i).length) : (l.take i)[j] = l.getD j v0D := by
  have h2 : j < i ∧ j < l.length := by rw [List.length_take] at h; omega
  simp [List.getD, h2.1, h2.2]
/-- One that is seen with an earlier one: the store is not possible. -/
theorem poss_seen {ss : List (List VerD)} {now : Int} {i : Nat} (hv : VersP ss.flatten now i) (hi : i < ss.flatten.length) (h1 : verB (ss.flatten.getD i v0D) now = true) (h : anyB (ss.flatten.getD i v0D) (ss.flatten.take i) = true) : possB ss now = false := decide_eq_false (fun g => by
  unfold anyB at h
  rw [List.any_eq_true] at h
  obtain ⟨y, hy, hs⟩ := h
  obtain ⟨j, hj, rfl⟩ := List.getElem_of_mem hy
  have hji : j < i := by rw [List.length_take] at hj; omega
  have e : (ss.flatten.take i)[j] = ss.flatten.getD j v0D := take_get hj
  rw [e, seenB_apart h1 (hv j hji).1, (g.2 i hi).2 j hji] at hs
  cases hs)
theorem poss_step {ss : List (List VerD)} {now : Int} {i : Nat} (hv : VersP ss.flatten now i) (hi : i < ss.flatten.length) (h1 : verB (ss.flatten.getD i v0D) now = true) (h : anyB (ss.flatten.getD i v0D) (ss.flatten.take i) = false) : VersP ss.flatten now (i + 1) := by
  refine vers_step hv h1 (fun k hk => ?_)
  unfold anyB at h
  rw [List.any_eq_false] at h
  have hkl : k < (ss.flatten.take i).length := by rw [List.length_take]; omega
  have := h _ (List.getElem_mem hkl)
  have e : (ss.flatten.take i)[k] = ss.flatten.getD k v0D := take_get hkl
  rw [e, seenB_apart h1 (hv k hk).1] at this
  simpa using this
theorem poss_yes {ss : List (List VerD)} {now : Int} (h1 : ShortP ss ss.length) (h2 : VersP ss.flatten now ss.flatten.length) : possB ss now = true := decide_eq_true ⟨h1, h2⟩
theorem store_poss (ss : List (List VerD)) (now : Int) : storeB ss now = (decide (1 ≤ (ss.length : Int) ∧ (ss.length : Int) ≤ 8) && decide (0 ≤ now ∧ now ≤ 100000) && possB ss now) := by
  unfold storeB possB
  by_cases h1 : 1 ≤ ss.length ∧ ss.length ≤ 8
  · by_cases h2 : 0 ≤ now ∧ now ≤ 100000
    · rw [decide_eq_true (show 1 ≤ (ss.length : Int) ∧ (ss.length : Int) ≤ 8 by omega), decide_eq_true h2]
      by_cases h3 : possP ss now
      · rw [decide_eq_true h3, decide_eq_true ⟨⟨h1, h2⟩, h3⟩]; rfl
      · rw [decide_eq_false h3, decide_eq_false (fun g => h3 g.2)]; rfl
    · rw [decide_eq_false h2, decide_eq_false (fun g => h2 g.1.2), Bool.and_false]; rfl
  · rw [decide_eq_false (show ¬ (1 ≤ (ss.length : Int) ∧ (ss.length : Int) ≤ 8) by omega), decide_eq_false (fun g => h1 g.1.1)]; rfl
theorem cat_take (ss : List (List VerD)) (k : Nat) : ss.flatten.take (cat ss k).length = cat ss k := by
  unfold cat
  have e : ss.flatten = (ss.take k).flatten ++ (ss.drop k).flatten := by rw [← List.flatten_append, List.take_append_drop]
  rw [e, List.take_left]
set_option maxHeartbeats 16000000 in
set_option maxRecDepth 100000 in
theorem isPossible_any (B g : Nat) (bs : List Nat) (us : List SegV) (ss : List (List VerD)) (now : Int) (w : World) (ht : TabN B w g bs us) (hr : SegsR w us ss) (hs : zL tVersionS ss ≤ 1048576) :
    Calls Try.prog 84 #[.slice (some ⟨g, 0, none⟩) us.length us.length, .int .i64 now] w (fun e w' => e = .returned (.bool (possB ss now)) ∧ Below w.heap.size w w') := by
  have hlen := zL_len hs
  have HZF : Hid (zL tVersion ss.flatten ≤ 1048576) := Lib.hid (by have := zL_all ss; omega)
  have HFL := Lib.hid (zL_len HZF.out)
  have HS := Lib.hid hs
  have hul := hr.1
  have HR := Lib.hid hr
  have HT := Lib.hid ht
  rw [hul]
  have HUL := Lib.hid hul
  clear ht hr hs hul
  go_enter Try.func84, Try.ntmps84
  go_wp2
  go_loopw [5, 12] (fun o i wr => ∃ (k : Nat) (L : List (List Value)), k ≤ ss.length ∧ i = .int .i64 k ∧ SlO 62 (tRaw 4) wr (since w) o L ∧ Hid (Sh tVersion w L (cat ss k)) ∧ Hid (ShortP ss k) ∧ Hid (VersP ss.flatten now (cat ss k).length) ∧ Below w.heap.size w wr) (fun _ i _ => ss.length - (intOf i).toNat)
  case atStart => exact ⟨0, [], Nat.zero_le _, rfl, slO_nil _ _ _ _, Lib.hid (by rw [cat_zero]; exact sh_nil w), Lib.hid (fun j hj => by omega), Lib.hid (by rw [cat_zero]; exact fun j hj => by simp at hj), Below.refl _ _⟩
  case round =>
    obtain ⟨k, L, hk, rfl, hown, hsh, hshort, hvers, hbel⟩ := hrel
    obtain ⟨oa, oc, rfl⟩ := slO_len hown
    by_cases hlt : k < ss.length
    · have i1 : (0 : Int) ≤ (k : Int) := by omega
      have i2 : (k : Int) < (ss.length : Int) := by omega
      obtain ⟨_, tg, tl, trow, _⟩ := tabN_below HT.out hbel
      obtain ⟨r0, r1, _⟩ := trow k (by have := HUL.out; omega)
      obtain ⟨s1, s2⟩ := HR.out.2 k hlt
      have HSM := Lib.hid (zL_seg hlt)
      have HCI := Lib.hid (fun j hj => cat_in (ss := ss) (k := k) (j := j) hlt hj)
      have HCL := Lib.hid (cat_len hlt)
      have HCF := Lib.hid (cat_le ss (k + 1))
      have HNS := Lib.hid (fun h => poss_short (ss := ss) (now := now) hlt h)
      have HYS : Hid ((ss.getD k []).length ≤ 4 → ShortP ss (k + 1)) := Lib.hid (fun g j hj => by
        by_cases e : j = k
        · rw [e]; exact g
        · exact hshort.out j (by omega))
      have HVS := hvers
      have HSH := hsh
      have HOW := Lib.hid hown
      have HB := Lib.hid hbel
      clear trow tg tl hown hbel hshort hvers hsh
      generalize us.getD k s0V = u at *
      generalize bs.getD k 0 = pb at *
      obtain ⟨ua, m0, uc⟩ := u
      simp only at s2
      subst s2
      have p1 := (cell_of_row wr _ 0 _ _ _ r1).trans (show _ = some (Value.slice ua (ss.getD k []).length (ss.getD k []).length) from rfl)
      have P1 := Lib.hid p1
      have RS : Hid (SlR tVersion w (.slice ua (ss.getD k []).length (ss.getD k []).length) (ss.getD k [])) := Lib.hid s1
      have RR := Lib.hid r0
      unfold ptrV at r0
      clear s1 r1
      have HML : Hid ((ss.getD k []).length ≤ 1048576) := Lib.hid (zL_len (T := tVersion) (Nat.le_trans HSM.out HS.out))
      generalize ss.getD k [] = seg at *
      obtain ⟨m, hm⟩ : ∃ m, m = seg.length := ⟨_, rfl⟩
      have HM := Lib.hid hm
      rw [← hm] at p1 P1 RS HCL HML HNS HYS
      clear hm
      by_cases h4 : m ≤ 4
      rotate_left
      · have HF := Lib.hid (HNS.out h4)
        have h5 : (4 : Int) < (m : Int) := by omega
        clear HNS HYS
        go_wp2
        go_ret
        exact ⟨ret_b HF.out.symm, HB.out⟩
      have HSK := Lib.hid (HYS.out h4)
      have h5 : ¬ (4 : Int) < (m : Int) := by omega
      clear HNS HYS
      go_wp2
      clear r0 p1 h5
      go_loopw [5, 27] (fun o i wi => ∃ (j : Nat) (L : List (List Value)), j ≤ m ∧ i = .int .i64 j ∧ SlO 62 (tRaw 4) wi (since w) o L ∧ Hid (Sh tVersion w L (ss.flatten.take ((cat ss k).length + j))) ∧ Hid (VersP ss.flatten now ((cat ss k).length + j)) ∧ Below w.heap.size w wi) (fun _ i _ => m - (intOf i).toNat)
      case atStart => exact ⟨0, L, Nat.zero_le _, rfl, HOW.out, Lib.hid (by rw [Nat.add_zero, cat_take]; exact HSH.out), Lib.hid (by rw [Nat.add_zero]; exact HVS.out), HB.out⟩
      case round =>
        obtain ⟨j, L2, hj, rfl, hown, hsh, hvers, hbel⟩ := hrel
        clear HOW HSH HVS HB
        obtain ⟨oa2, oc2, rfl⟩ := slO_len hown
        by_cases hjl : j < m
        · have j1 : (0 : Int) ≤ (j : Int) := by omega
          have j2 : (j : Int) < (m : Int) := by omega
          have hjs : j < seg.length := by have := HM.out; omega
          obtain ⟨b, off, cap', xa, xc, hv, hbl, c0, c1, c2, c3, hx⟩ := verR_at RS.out hjs
          simp only [Value.slice.injEq] at hv
          obtain ⟨rfl, hm1, hm2⟩ := hv
          clear hm1 hm2
          have hif : (cat ss k).length + j < ss.flatten.length := by have := HCL.out; have := HCF.out; omega
          have hci := HCI.out j hjs
          have HXL := Lib.hid (ver_len (l := ss.flatten) HZF.out hif)
          have HNV := Lib.hid (fun q => poss_ver (ss := ss) (now := now) hif q)
          have HNA := Lib.hid (fun q r => poss_seen (ss := ss) (now := now) hvers.out hif q r)
          have HST := Lib.hid (fun q r => poss_step (ss := ss) (now := now) hvers.out hif q r)
          have HTK := Lib.hid (take_getD hif)
          rw [hci] at HXL HNV HNA HST HTK
          have HLL : Hid (L2.length ≤ 1048576 ∧ (ss.flatten.take ((cat ss k).length + j)).length ≤ 1048576) := Lib.hid (by
            have h1 := sh_len hsh.out; have h2 := HFL.out; rw [List.length_take] at h1 ⊢; omega)
          clear hci hif hvers
          generalize seg.getD j v0D = x at *
          obtain ⟨id, xs, born, died⟩ := x
          simp only at c0 c1 c2 c3 HXL
          have e0 := (hbel.cell (p := ⟨b, off + j * 4, none⟩) hbl).trans c0
          have e1 := (hbel.cell (p := ⟨b, off + j * 4 + 1, none⟩) hbl).trans c1
          have e2 := (hbel.cell (p := ⟨b, off + j * 4 + 2, none⟩) hbl).trans c2
          have e3 := (hbel.cell (p := ⟨b, off + j * 4 + 3, none⟩) hbl).trans c3
          have hal : Below wr.heap.size wr (wr.alloc (.cells #[.int .i64 id, .slice xa xs.length xc, .int .i64 born, .int .i64 died] 62)) := (Below.refl _ _).alloc (Nat.le_refl _) _
          have BV : Hid ((wr.alloc (.cells #[.int .i64 id, .slice xa xs.length xc, .int .i64 born, .int .i64 died] 62)).heap[wr.heap.size]? = some (.cells #[.int .i64 id, .slice xa xs.length xc, .int .i64 born, .int .i64 died] 62 (0, 0))) := Lib.hid (heap_alloc_new wr _)
          have YV : Hid (wr.heap.size < (wr.alloc (.cells #[.int .i64 id, .slice xa xs.length xc, .int .i64 born, .int .i64 died] 62)).heap.size) := Lib.hid (by simp [World.size_alloc])
          have PF := Lib.hid (slO_fresh (tRaw_law (by decide)) (slO_lt (tRaw_law (by decide)) hown) hal)
          have d := Lib.hid (hbel.trans (hal.mono hbel.size))
          have DZ := Lib.hid hbel.size
          have HX : Hid (Ints w (.slice xa xs.length xc) xs) := Lib.hid hx
          have HSH := hsh
          have HIV := Lib.hid (fun W h => isVersion_any id born died now (.slice xa xs.length xc) xs W h HXL.out)
          clear hown hbel hal hx c0 c1 c2 c3 hbl hsh
          cases hver : verB (id, xs, born, died) now with
          | false =>
            have HF := Lib.hid (HNV.out hver)
            rw [hver] at HIV
            clear hver HNV HNA HST
            go_wp2_with fail
            clear e0 e1 e2 e3
            generalize wr.alloc (.cells #[.int .i64 id, .slice xa xs.length xc, .int .i64 born, .int .i64 died] 62) = W1 at *
            refine (HIV.out W1 (ints_below HX.out d.out)).mono ?_
            rintro e w2 ⟨rfl, b2⟩
            have d2 := d.out.trans (b2.mono d.out.size)
            go_wp2
            go_ret
            exact ⟨ret_b HF.out.symm, d2⟩
          | true =>
            have HNA2 := Lib.hid (fun r => HNA.out hver r)
            have HST2 := Lib.hid (fun r => HST.out hver r)
            rw [hver] at HIV
            clear hver HNV HNA HST
            go_wp2_with fail
            clear e0 e1 e2 e3
            generalize wr.alloc (.cells #[.int .i64 id, .slice xa xs.length xc, .int .i64 born, .int .i64 died] 62) = W1 at *
            refine (HIV.out W1 (ints_below HX.out d.out)).mono ?_
            rintro e w2 ⟨rfl, b2⟩
            have kv := (b2.block wr.heap.size YV.out).trans BV.out
            have p0 := (cell_of_row w2 _ 0 _ _ _ kv).trans (show _ = some (Value.int .i64 id) from rfl)
            have p1 := (cell_of_row w2 _ 1 _ _ _ kv).trans (show _ = some (Value.slice xa xs.length xc) from rfl)
            have p2 := (cell_of_row w2 _ 2 _ _ _ kv).trans (show _ = some (Value.int .i64 born) from rfl)
            have p3 := (cell_of_row w2 _ 3 _ _ _ kv).trans (show _ = some (Value.int .i64 died) from rfl)
            have KV := Lib.hid kv
            have PF2 := Lib.hid (slO_fresh (tRaw_law (by decide)) PF.out b2)
            have d2 := Lib.hid (d.out.trans (b2.mono d.out.size))
            have Z2 := Lib.hid (Nat.lt_of_lt_of_le YV.out b2.size)
            have HO := Lib.hid (raw_reads (T := tVersion) (by decide) PF2.out (sh_below tVersion_law HSH.out d2.out))
            have HCS := Lib.hid (fun W h => containsSeen (.slice oa2 L2.length oc2) (ss.flatten.take ((cat ss k).length + j)) id born died xs xa xs.length xc W h HLL.out.2)
            clear PF d b2 kv
            cases hany : anyB (id, xs, born, died) (ss.flatten.take ((cat ss k).length + j)) with
            | true =>
              have HF := Lib.hid (HNA2.out hany)
              rw [hany] at HCS
              clear hany HNA2 HST2
              go_wp2_with fail
              refine (HCS.out w2 HO.out).mono ?_
              rintro e w3 ⟨rfl, b3⟩
              have d3 := d2.out.trans (b3.mono d2.out.size)
              clear p0 p1 p2 p3
              go_wp2
              go_ret
              exact ⟨ret_b HF.out.symm, d3⟩
            | false =>
              have HV2 := Lib.hid (HST2.out hany)
              rw [hany] at HCS
              clear hany HNA2 HST2
              go_wp2_with fail
              refine (HCS.out w2 HO.out).mono ?_
              rintro e w3 ⟨rfl, b3⟩
              have kv := (b3.block wr.heap.size Z2.out).trans KV.out
              clear p0 p1 p2 p3
              have p0 := (cell_of_row w3 _ 0 _ _ _ kv).trans (show _ = some (Value.int .i64 id) from rfl)
              have p1 := (cell_of_row w3 _ 1 _ _ _ kv).trans (show _ = some (Value.slice xa xs.length xc) from rfl)
              have p2 := (cell_of_row w3 _ 2 _ _ _ kv).trans (show _ = some (Value.int .i64 born) from rfl)
              have p3 := (cell_of_row w3 _ 3 _ _ _ kv).trans (show _ = some (Value.int .i64 died) from rfl)
              have PF3 := Lib.hid (slO_fresh (tRaw_law (by decide)) PF2.out b3)
              have d3 := Lib.hid (d2.out.trans (b3.mono d2.out.size))
              have Z3 := Lib.hid (Nat.le_trans (Nat.le_of_lt Z2.out) b3.size)
              have ON : Hid ((tRaw 4).O w3 (fun b => wr.heap.size ≤ b) [.int .i64 id, .slice xa xs.length xc, .int .i64 born, .int .i64 died] [.int .i64 id, .slice xa xs.length xc, .int .i64 born, .int .i64 died]) := Lib.hid ⟨rfl, rfl, by simp [Value.oneCell']⟩
              clear PF2 d2 b3 kv KV HO
              go_wp2_with (at_builtin; refine append_T (tRaw_law (by decide)) info_R_Version Try.underlying97 rfl rfl (.tmp 41) (.tmp 43) rfl (since w) wr.heap.size _ L2 rfl PF3.out Z3.out (fun b hb => Nat.le_trans DZ.out hb) HLL.out.1 [.int .i64 id, .slice xa xs.length xc, .int .i64 born, .int .i64 died] [.int .i64 id, .slice xa xs.length xc, .int .i64 born, .int .i64 died] ON.out (by simp [Value.oneCell']) 1 _ rfl rfl ?_)
              intro v' w4 o4 t4
              have d4 := Lib.hid (below_turn d3.out t4 (fun b hb => hb.1) d3.out.size)
              have SH : Hid (Sh tVersion w (L2 ++ [[.int .i64 id, .slice xa xs.length xc, .int .i64 born, .int .i64 died]]) (ss.flatten.take ((cat ss k).length + (j + 1)))) := Lib.hid (by rw [← Nat.add_assoc, HTK.out]; exact sh_app HSH.out (sh_one (tVersion_mkR (ints_slR HX.out))))
              have O4 := Lib.hid o4
              clear PF3 d3 t4 o4 p0 p1 p2 p3
              go_wp2
              go_roundw
              case rel => exact ⟨j + 1, _, by omega, by go_num, O4.out, SH, HV2, d4.out⟩
              case measure => simp [intOf]; omega
        · obtain rfl : j = m := by omega
          have SH : Hid (Sh tVersion w L2 (cat ss (k + 1))) := Lib.hid (by have := hsh.out; rw [← HCL.out, cat_take] at this; exact this)
          have HV2 : Hid (VersP ss.flatten now (cat ss (k + 1)).length) := Lib.hid (by rw [HCL.out]; exact hvers.out)
          have O2 := Lib.hid hown
          have HB := Lib.hid hbel
          clear hsh hvers hown hbel
          go_wp2
          go_roundw
          case rel => exact ⟨k + 1, L2, by omega, by go_num, O2.out, SH, HSK, HV2, HB.out⟩
          case measure => simp [intOf]; omega
    · obtain rfl : k = ss.length := by omega
      have HY := Lib.hid (poss_yes hshort.out (by have := hvers.out; rw [cat_all] at this; exact this))
      clear hsh hshort hvers
      go_wp2
      go_ret
      exact ⟨ret_b HY.out.symm, hbel⟩
end Go.Proofs.Ytginjmnohnidiaa
namespace Go.Proofs.Ytginjmnohnidiaa
open Go.RowKit
set_option linter.unusedVariables false
set_option linter.unusedSimpArgs false
set_option maxHeartbeats 8000000 in
set_option maxRecDepth 100000 in
theorem implIsStore (sv : Value) (ss : List (List VerD)) (now : Int) (w : World) (h : SlR tVersionS w sv ss) (hs : zL tVersionS ss ≤ 1048576) :
    Calls Try.prog 33 #[.agg #[sv, .int .i64 now]] w (fun e w' => e = .returned (.bool (storeB ss now)) ∧ Below w.heap.size w w') := by
  obtain ⟨us, hls, hsr⟩ := slR_ls h
  have HUL := Lib.hid hsr.1
  obtain ⟨a, cap, rfl⟩ := slR_len h
  have hlen := zL_len hs
  have HSS := Lib.hid hs
  have H := Lib.hid h
  have HLS := Lib.hid hls
  have HSR := Lib.hid hsr
  have d0 := Lib.hid (show Below w.heap.size w (w.alloc (.cells #[.slice a ss.length cap, .int .i64 now] 45)) from (Below.refl _ _).alloc (Nat.le_refl _) _)
  have B0 : Hid ((w.alloc (.cells #[.slice a ss.length cap, .int .i64 now] 45)).heap[w.heap.size]? = some (.cells #[.slice a ss.length cap, .int .i64 now] 45 (0, 0))) := Lib.hid (heap_alloc_new w _)
  have Y0 : Hid (w.heap.size < (w.alloc (.cells #[.slice a ss.length cap, .int .i64 now] 45)).heap.size) := Lib.hid (by simp [World.size_alloc])
  clear hls hsr h hs
  rw [store_poss]
  have HC1 := Lib.hid (isSegmentCount_any (ss.length : Int))
  have HC2 := Lib.hid (isTime_any now)
  have HPS : Hid (∀ (B g : Nat) (bs : List Nat) (W : World), TabN B W g bs us → SegsR W us ss → Calls Try.prog 84 #[.slice (some ⟨g, 0, none⟩) us.length us.length, .int .i64 now] W (fun e w' => e = .returned (.bool (possB ss now)) ∧ Below W.heap.size W w')) := Lib.hid (fun B g bs W h1 h2 => isPossible_any B g bs us ss now W h1 h2 HSS.out)
  have HTB := Lib.hid (fun W h => tableOf_any (.slice a ss.length cap) us W h (by have := HUL.out; omega))
  generalize possB ss now = pb at *
  have B1 := B0
  have d := d0
  cases hc1 : decide (1 ≤ (ss.length : Int) ∧ (ss.length : Int) ≤ 8) with
  | false =>
    rw [hc1] at HC1
    rw [Bool.false_and, Bool.false_and]
    clear hc1
    go_enter Try.func33, Try.ntmps33
    go_wp2
    generalize w.alloc (.cells #[.slice a ss.length cap, .int .i64 now] 45) = W at *
    have p_B0_0 := (cell_of_row W _ 0 _ _ _ B0.out).trans (show _ = some (Value.slice a ss.length cap) from rfl)
    have p_B0_1 := (cell_of_row W _ 1 _ _ _ B0.out).trans (show _ = some (Value.int .i64 now) from rfl)
    refine wp_region_held_drew (S := fun w' => w'.cell? ⟨w.heap.size, 0, none⟩ = some (Value.slice a ss.length cap) ∧ w'.cell? ⟨w.heap.size, 1, none⟩ = some (Value.int .i64 now)) (by kernel_rfl) ⟨p_B0_0, p_B0_1⟩ (fun hHeld => ?_)
    clear p_B0_0 p_B0_1
    have cdr : Below W.heap.size W W.drew := below_drew (Below.refl _ _)
    replace B0 := Lib.hid ((cdr.block w.heap.size (Array.getElem?_eq_some_iff.1 B0.out).1).trans B0.out)
    replace d := Lib.hid (d.out.trans (cdr.mono d.out.size))
    clear cdr
    refine take_runs (i := 0) (v := ?_) (by simp only [List.getElem?_toArray, List.getElem?_cons_succ, List.getElem?_cons_zero]; rfl) (by kernel_rfl) (by kernel_rfl) (by kernel_rfl) rfl (by exact fun _ _ _ h => h) (by rfl) ?_ (by assumption) ?_
    rotate_left
    · intro w hSw; (try dsimp only at hSw); go_simp; try (with_reducible rfl)
    try simp only [Act.put, List.setIfInBounds_toArray, List.set_cons_zero, List.set_cons_succ]
    refine take_runs (i := 1) (v := ?_) (by simp only [List.getElem?_toArray, List.getElem?_cons_succ, List.getElem?_cons_zero]; rfl) (by kernel_rfl) (by kernel_rfl) (by kernel_rfl) rfl (by exact fun _ _ _ h => h) (by rfl) ?_ (by assumption) ?_
    rotate_left
    · intro w hSw; (try dsimp only at hSw); go_simp; try (with_reducible rfl)
    try simp only [Act.put, List.setIfInBounds_toArray, List.set_cons_zero, List.set_cons_succ]
    refine take_runs (i := 2) (v := ?_) (by simp only [List.getElem?_toArray, List.getElem?_cons_succ, List.getElem?_cons_zero]; rfl) (by kernel_rfl) (by kernel_rfl) (by kernel_rfl) rfl (by exact fun _ _ _ h => h) (by rfl) ?_ (by assumption) ?_
    rotate_left
    · intro w hSw; (try dsimp only at hSw); go_simp; try (with_reducible rfl)
    try simp only [Act.put, List.setIfInBounds_toArray, List.set_cons_zero, List.set_cons_succ]
    refine wpAnyH_ready (rs := [3]) (by kernel_rfl) (by simp) ?_
    refine (AllReadyH.cons (o := _) (by simp only [List.getElem?_toArray, List.getElem?_cons_succ, List.getElem?_cons_zero]; rfl) (fun K hK => ?_) AllReadyH.nil)
    go_simp
    refine (HC1.out (W.drew)).mono ?_
    rintro e wx ⟨rfl, rfl⟩
    have p_B0_0 := (cell_of_row (W.drew) _ 0 _ _ _ B0.out).trans (show _ = some (Value.slice a ss.length cap) from rfl)
    have p_B0_1 := (cell_of_row (W.drew) _ 1 _ _ _ B0.out).trans (show _ = some (Value.int .i64 now) from rfl)
    refine hK.out _ _ ⟨p_B0_0, p_B0_1⟩ (fun hHeld => ?_)
    clear p_B0_0 p_B0_1
    clear hK K
    try simp only [Act.put, List.setIfInBounds_toArray, List.set_cons_zero, List.set_cons_succ]
    refine take_runs (i := 4) (v := ?_) (by simp only [List.getElem?_toArray, List.getElem?_cons_succ, List.getElem?_cons_zero]; rfl) (by kernel_rfl) (by kernel_rfl) (by kernel_rfl) rfl (by exact fun _ _ _ h => h) (by rfl) ?_ (by assumption) ?_
    rotate_left
    · intro w hSw; (try dsimp only at hSw); go_simp; try (with_reducible rfl)
    try simp only [Act.put, List.setIfInBounds_toArray, List.set_cons_zero, List.set_cons_succ]
    refine take_over (i := 5) (by simp only [List.getElem?_toArray, List.getElem?_cons_succ, List.getElem?_cons_zero]; rfl) (by kernel_rfl) (by kernel_rfl) (by kernel_rfl) rfl (by exact fun _ _ _ h => h) (by rfl) (by assumption) ?_
    try simp only [Act.put, List.setIfInBounds_toArray, List.set_cons_zero, List.set_cons_succ]
    refine take_over (i := 6) (by simp only [List.getElem?_toArray, List.getElem?_cons_succ, List.getElem?_cons_zero]; rfl) (by kernel_rfl) (by kernel_rfl) (by kernel_rfl) rfl (by exact fun _ _ _ h => h) (by rfl) (by assumption) ?_
    try simp only [Act.put, List.setIfInBounds_toArray, List.set_cons_zero, List.set_cons_succ]
    refine take_over (i := 7) (by simp only [List.getElem?_toArray, List.getElem?_cons_succ, List.getElem?_cons_zero]; rfl) (by kernel_rfl) (by kernel_rfl) (by kernel_rfl) rfl (by exact fun _ _ _ h => h) (by rfl) (by assumption) ?_
    try simp only [Act.put, List.setIfInBounds_toArray, List.set_cons_zero, List.set_cons_succ]
    refine take_runs (i := 8) (v := ?_) (by simp only [List.getElem?_toArray, List.getElem?_cons_succ, List.getElem?_cons_zero]; rfl) (by kernel_rfl) (by kernel_rfl) (by kernel_rfl) rfl (by exact fun _ _ _ h => h) (by rfl) ?_ (by assumption) ?_
    rotate_left
    · intro w hSw; (try dsimp only at hSw); go_simp; try (with_reducible rfl)
    try simp only [Act.put, List.setIfInBounds_toArray, List.set_cons_zero, List.set_cons_succ]
    refine take_runs (i := 9) (v := ?_) (by simp only [List.getElem?_toArray, List.getElem?_cons_succ, List.getElem?_cons_zero]; rfl) (by kernel_rfl) (by kernel_rfl) (by kernel_rfl) rfl (by exact fun _ _ _ h => h) (by rfl) ?_ (by assumption) ?_
    rotate_left
    · intro w hSw; (try dsimp only at hSw); go_simp; try (with_reducible rfl)
    try simp only [Act.put, List.setIfInBounds_toArray, List.set_cons_zero, List.set_cons_succ]
    refine take_over (i := 10) (by simp only [List.getElem?_toArray, List.getElem?_cons_succ, List.getElem?_cons_zero]; rfl) (by kernel_rfl) (by kernel_rfl) (by kernel_rfl) rfl (by exact fun _ _ _ h => h) (by rfl) (by assumption) ?_
    try simp only [Act.put, List.setIfInBounds_toArray, List.set_cons_zero, List.set_cons_succ]
    refine take_over (i := 11) (by simp only [List.getElem?_toArray, List.getElem?_cons_succ, List.getElem?_cons_zero]; rfl) (by kernel_rfl) (by kernel_rfl) (by kernel_rfl) rfl (by exact fun _ _ _ h => h) (by rfl) (by assumption) ?_
    try simp only [Act.put, List.setIfInBounds_toArray, List.set_cons_zero, List.set_cons_succ]
    refine take_over (i := 12) (by simp only [List.getElem?_toArray, List.getElem?_cons_succ, List.getElem?_cons_zero]; rfl) (by kernel_rfl) (by kernel_rfl) (by kernel_rfl) rfl (by exact fun _ _ _ h => h) (by rfl) (by assumption) ?_
    try simp only [Act.put, List.setIfInBounds_toArray, List.set_cons_zero, List.set_cons_succ]
    refine take_over (i := 13) (by simp only [List.getElem?_toArray, List.getElem?_cons_succ, List.getElem?_cons_zero]; rfl) (by kernel_rfl) (by kernel_rfl) (by kernel_rfl) rfl (by exact fun _ _ _ h => h) (by rfl) (by assumption) ?_
    try simp only [Act.put, List.setIfInBounds_toArray, List.set_cons_zero, List.set_cons_succ]
    refine take_over (i := 14) (by simp only [List.getElem?_toArray, List.getElem?_cons_succ, List.getElem?_cons_zero]; rfl) (by kernel_rfl) (by kernel_rfl) (by kernel_rfl) rfl (by exact fun _ _ _ h => h) (by rfl) (by assumption) ?_
    try simp only [Act.put, List.setIfInBounds_toArray, List.set_cons_zero, List.set_cons_succ]
    refine take_over (i := 15) (by simp only [List.getElem?_toArray, List.getElem?_cons_succ, List.getElem?_cons_zero]; rfl) (by kernel_rfl) (by kernel_rfl) (by kernel_rfl) rfl (by exact fun _ _ _ h => h) (by rfl) (by assumption) ?_
    try simp only [Act.put, List.setIfInBounds_toArray, List.set_cons_zero, List.set_cons_succ]
    refine take_runs (i := 16) (v := ?_) (by simp only [List.getElem?_toArray, List.getElem?_cons_succ, List.getElem?_cons_zero]; rfl) (by kernel_rfl) (by kernel_rfl) (by kernel_rfl) rfl (by exact fun _ _ _ h => h) (by rfl) ?_ (by assumption) ?_
    rotate_left
    · intro w hSw; (try dsimp only at hSw); go_simp; try (with_reducible rfl)
    try simp only [Act.put, List.setIfInBounds_toArray, List.set_cons_zero, List.set_cons_succ]
    refine take_runs (i := 17) (v := ?_) (by simp only [List.getElem?_toArray, List.getElem?_cons_succ, List.getElem?_cons_zero]; rfl) (by kernel_rfl) (by kernel_rfl) (by kernel_rfl) rfl (by exact fun _ _ _ h => h) (by rfl) ?_ (by assumption) ?_
    rotate_left
    · intro w hSw; (try dsimp only at hSw); go_simp; try (with_reducible rfl)
    try simp only [Act.put, List.setIfInBounds_toArray, List.set_cons_zero, List.set_cons_succ]
    refine wpAnyH_done (by kernel_rfl) ?_ _
    clear hHeld
    go_wp2
    go_ret
    exact ⟨rfl, d.out⟩
  | true =>
    rw [hc1] at HC1
    rw [Bool.true_and]
    clear hc1
    cases hc2 : decide (0 ≤ now ∧ now ≤ 100000) with
    | false =>
      rw [hc2] at HC2
      rw [Bool.false_and]
      clear hc2
      go_enter Try.func33, Try.ntmps33
      go_wp2
      generalize w.alloc (.cells #[.slice a ss.length cap, .int .i64 now] 45) = W at *
      have p_B0_0 := (cell_of_row W _ 0 _ _ _ B0.out).trans (show _ = some (Value.slice a ss.length cap) from rfl)
      have p_B0_1 := (cell_of_row W _ 1 _ _ _ B0.out).trans (show _ = some (Value.int .i64 now) from rfl)
      refine wp_region_held_drew (S := fun w' => w'.cell? ⟨w.heap.size, 0, none⟩ = some (Value.slice a ss.length cap) ∧ w'.cell? ⟨w.heap.size, 1, none⟩ = some (Value.int .i64 now)) (by kernel_rfl) ⟨p_B0_0, p_B0_1⟩ (fun hHeld => ?_)
      clear p_B0_0 p_B0_1
      have cdr : Below W.heap.size W W.drew := below_drew (Below.refl _ _)
      replace B0 := Lib.hid ((cdr.block w.heap.size (Array.getElem?_eq_some_iff.1 B0.out).1).trans B0.out)
      replace d := Lib.hid (d.out.trans (cdr.mono d.out.size))
      clear cdr
      refine take_runs (i := 0) (v := ?_) (by simp only [List.getElem?_toArray, List.getElem?_cons_succ, List.getElem?_cons_zero]; rfl) (by kernel_rfl) (by kernel_rfl) (by kernel_rfl) rfl (by exact fun _ _ _ h => h) (by rfl) ?_ (by assumption) ?_
      rotate_left
      · intro w hSw; (try dsimp only at hSw); go_simp; try (with_reducible rfl)
      try simp only [Act.put, List.setIfInBounds_toArray, List.set_cons_zero, List.set_cons_succ]
      refine take_runs (i := 1) (v := ?_) (by simp only [List.getElem?_toArray, List.getElem?_cons_succ, List.getElem?_cons_zero]; rfl) (by kernel_rfl) (by kernel_rfl) (by kernel_rfl) rfl (by exact fun _ _ _ h => h) (by rfl) ?_ (by assumption) ?_
      rotate_left
      · intro w hSw; (try dsimp only at hSw); go_simp; try (with_reducible rfl)
      try simp only [Act.put, List.setIfInBounds_toArray, List.set_cons_zero, List.set_cons_succ]
      refine take_runs (i := 2) (v := ?_) (by simp only [List.getElem?_toArray, List.getElem?_cons_succ, List.getElem?_cons_zero]; rfl) (by kernel_rfl) (by kernel_rfl) (by kernel_rfl) rfl (by exact fun _ _ _ h => h) (by rfl) ?_ (by assumption) ?_
      rotate_left
      · intro w hSw; (try dsimp only at hSw); go_simp; try (with_reducible rfl)
      try simp only [Act.put, List.setIfInBounds_toArray, List.set_cons_zero, List.set_cons_succ]
      refine wpAnyH_ready (rs := [3]) (by kernel_rfl) (by simp) ?_
      refine (AllReadyH.cons (o := _) (by simp only [List.getElem?_toArray, List.getElem?_cons_succ, List.getElem?_cons_zero]; rfl) (fun K hK => ?_) AllReadyH.nil)
      go_simp
      refine (HC1.out (W.drew)).mono ?_
      rintro e wx ⟨rfl, rfl⟩
      have p_B0_0 := (cell_of_row (W.drew) _ 0 _ _ _ B0.out).trans (show _ = some (Value.slice a ss.length cap) from rfl)
      have p_B0_1 := (cell_of_row (W.drew) _ 1 _ _ _ B0.out).trans (show _ = some (Value.int .i64 now) from rfl)
      refine hK.out _ _ ⟨p_B0_0, p_B0_1⟩ (fun hHeld => ?_)
      clear p_B0_0 p_B0_1
      clear hK K
      try simp only [Act.put, List.setIfInBounds_toArray, List.set_cons_zero, List.set_cons_succ]
      refine take_runs (i := 4) (v := ?_) (by simp only [List.getElem?_toArray, List.getElem?_cons_succ, List.getElem?_cons_zero]; rfl) (by kernel_rfl) (by kernel_rfl) (by kernel_rfl) rfl (by exact fun _ _ _ h => h) (by rfl) ?_ (by assumption) ?_
      rotate_left
      · intro w hSw; (try dsimp only at hSw); go_simp; try (with_reducible rfl)
      try simp only [Act.put, List.setIfInBounds_toArray, List.set_cons_zero, List.set_cons_succ]
      refine take_runs (i := 5) (v := ?_) (by simp only [List.getElem?_toArray, List.getElem?_cons_succ, List.getElem?_cons_zero]; rfl) (by kernel_rfl) (by kernel_rfl) (by kernel_rfl) rfl (by exact fun _ _ _ h => h) (by rfl) ?_ (by assumption) ?_
      rotate_left
      · intro w hSw; (try dsimp only at hSw); go_simp; try (with_reducible rfl)
      try simp only [Act.put, List.setIfInBounds_toArray, List.set_cons_zero, List.set_cons_succ]
      refine take_runs (i := 6) (v := ?_) (by simp only [List.getElem?_toArray, List.getElem?_cons_succ, List.getElem?_cons_zero]; rfl) (by kernel_rfl) (by kernel_rfl) (by kernel_rfl) rfl (by exact fun _ _ _ h => h) (by rfl) ?_ (by assumption) ?_
      rotate_left
      · intro w hSw; (try dsimp only at hSw); go_simp; try (with_reducible rfl)
      try simp only [Act.put, List.setIfInBounds_toArray, List.set_cons_zero, List.set_cons_succ]
      refine wpAnyH_ready (rs := [7]) (by kernel_rfl) (by simp) ?_
      refine (AllReadyH.cons (o := _) (by simp only [List.getElem?_toArray, List.getElem?_cons_succ, List.getElem?_cons_zero]; rfl) (fun K hK => ?_) AllReadyH.nil)
      go_simp
      refine (HC2.out (W.drew)).mono ?_
      rintro e wx ⟨rfl, rfl⟩
      have p_B0_0 := (cell_of_row (W.drew) _ 0 _ _ _ B0.out).trans (show _ = some (Value.slice a ss.length cap) from rfl)
      have p_B0_1 := (cell_of_row (W.drew) _ 1 _ _ _ B0.out).trans (show _ = some (Value.int .i64 now) from rfl)
      refine hK.out _ _ ⟨p_B0_0, p_B0_1⟩ (fun hHeld => ?_)
      clear p_B0_0 p_B0_1
      clear hK K
      try simp only [Act.put, List.setIfInBounds_toArray, List.set_cons_zero, List.set_cons_succ]
      refine take_runs (i := 8) (v := ?_) (by simp only [List.getElem?_toArray, List.getElem?_cons_succ, List.getElem?_cons_zero]; rfl) (by kernel_rfl) (by kernel_rfl) (by kernel_rfl) rfl (by exact fun _ _ _ h => h) (by rfl) ?_ (by assumption) ?_
      rotate_left
      · intro w hSw; (try dsimp only at hSw); go_simp; try (with_reducible rfl)
      try simp only [Act.put, List.setIfInBounds_toArray, List.set_cons_zero, List.set_cons_succ]
      refine take_runs (i := 9) (v := ?_) (by simp only [List.getElem?_toArray, List.getElem?_cons_succ, List.getElem?_cons_zero]; rfl) (by kernel_rfl) (by kernel_rfl) (by kernel_rfl) rfl (by exact fun _ _ _ h => h) (by rfl) ?_ (by assumption) ?_
      rotate_left
      · intro w hSw; (try dsimp only at hSw); go_simp; try (with_reducible rfl)
      try simp only [Act.put, List.setIfInBounds_toArray, List.set_cons_zero, List.set_cons_succ]
      refine take_over (i := 10) (by simp only [List.getElem?_toArray, List.getElem?_cons_succ, List.getElem?_cons_zero]; rfl) (by kernel_rfl) (by kernel_rfl) (by kernel_rfl) rfl (by exact fun _ _ _ h => h) (by rfl) (by assumption) ?_
      try simp only [Act.put, List.setIfInBounds_toArray, List.set_cons_zero, List.set_cons_succ]
      refine take_over (i := 11) (by simp only [List.getElem?_toArray, List.getElem?_cons_succ, List.getElem?_cons_zero]; rfl) (by kernel_rfl) (by kernel_rfl) (by kernel_rfl) rfl (by exact fun _ _ _ h => h) (by rfl) (by assumption) ?_
      try simp only [Act.put, List.setIfInBounds_toArray, List.set_cons_zero, List.set_cons_succ]
      refine take_over (i := 12) (by simp only [List.getElem?_toArray, List.getElem?_cons_succ, List.getElem?_cons_zero]; rfl) (by kernel_rfl) (by kernel_rfl) (by kernel_rfl) rfl (by exact fun _ _ _ h => h) (by rfl) (by assumption) ?_
      try simp only [Act.put, List.setIfInBounds_toArray, List.set_cons_zero, List.set_cons_succ]
      refine take_over (i := 13) (by simp only [List.getElem?_toArray, List.getElem?_cons_succ, List.getElem?_cons_zero]; rfl) (by kernel_rfl) (by kernel_rfl) (by kernel_rfl) rfl (by exact fun _ _ _ h => h) (by rfl) (by assumption) ?_
      try simp only [Act.put, List.setIfInBounds_toArray, List.set_cons_zero, List.set_cons_succ]
      refine take_over (i := 14) (by simp only [List.getElem?_toArray, List.getElem?_cons_succ, List.getElem?_cons_zero]; rfl) (by kernel_rfl) (by kernel_rfl) (by kernel_rfl) rfl (by exact fun _ _ _ h => h) (by rfl) (by assumption) ?_
      try simp only [Act.put, List.setIfInBounds_toArray, List.set_cons_zero, List.set_cons_succ]
      refine take_over (i := 15) (by simp only [List.getElem?_toArray, List.getElem?_cons_succ, List.getElem?_cons_zero]; rfl) (by kernel_rfl) (by kernel_rfl) (by kernel_rfl) rfl (by exact fun _ _ _ h => h) (by rfl) (by assumption) ?_
      try simp only [Act.put, List.setIfInBounds_toArray, List.set_cons_zero, List.set_cons_succ]
      refine take_runs (i := 16) (v := ?_) (by simp only [List.getElem?_toArray, List.getElem?_cons_succ, List.getElem?_cons_zero]; rfl) (by kernel_rfl) (by kernel_rfl) (by kernel_rfl) rfl (by exact fun _ _ _ h => h) (by rfl) ?_ (by assumption) ?_
      rotate_left
      · intro w hSw; (try dsimp only at hSw); go_simp; try (with_reducible rfl)
      try simp only [Act.put, List.setIfInBounds_toArray, List.set_cons_zero, List.set_cons_succ]
      refine take_runs (i := 17) (v := ?_) (by simp only [List.getElem?_toArray, List.getElem?_cons_succ, List.getElem?_cons_zero]; rfl) (by kernel_rfl) (by kernel_rfl) (by kernel_rfl) rfl (by exact fun _ _ _ h => h) (by rfl) ?_ (by assumption) ?_
      rotate_left
      · intro w hSw; (try dsimp only at hSw); go_simp; try (with_reducible rfl)
      try simp only [Act.put, List.setIfInBounds_toArray, List.set_cons_zero, List.set_cons_succ]
      refine wpAnyH_done (by kernel_rfl) ?_ _
      clear hHeld
      go_wp2
      go_ret
      exact ⟨rfl, d.out⟩
    | true =>
      rw [hc2] at HC2
      rw [Bool.true_and]
      clear hc2
      go_enter Try.func33, Try.ntmps33
      go_wp2
      generalize w.alloc (.cells #[.slice a ss.length cap, .int .i64 now] 45) = W at *
      have p_B0_0 := (cell_of_row W _ 0 _ _ _ B0.out).trans (show _ = some (Value.slice a ss.length cap) from rfl)
      have p_B0_1 := (cell_of_row W _ 1 _ _ _ B0.out).trans (show _ = some (Value.int .i64 now) from rfl)
      refine wp_region_held_drew (S := fun w' => w'.cell? ⟨w.heap.size, 0, none⟩ = some (Value.slice a ss.length cap) ∧ w'.cell? ⟨w.heap.size, 1, none⟩ = some (Value.int .i64 now)) (by kernel_rfl) ⟨p_B0_0, p_B0_1⟩ (fun hHeld => ?_)
      clear p_B0_0 p_B0_1
      have cdr : Below W.heap.size W W.drew := below_drew (Below.refl _ _)
      replace B0 := Lib.hid ((cdr.block w.heap.size (Array.getElem?_eq_some_iff.1 B0.out).1).trans B0.out)
      replace d := Lib.hid (d.out.trans (cdr.mono d.out.size))
      clear cdr
      refine take_runs (i := 0) (v := ?_) (by simp only [List.getElem?_toArray, List.getElem?_cons_succ, List.getElem?_cons_zero]; rfl) (by kernel_rfl) (by kernel_rfl) (by kernel_rfl) rfl (by exact fun _ _ _ h => h) (by rfl) ?_ (by assumption) ?_
      rotate_left
      · intro w hSw; (try dsimp only at hSw); go_simp; try (with_reducible rfl)
      try simp only [Act.put, List.setIfInBounds_toArray, List.set_cons_zero, List.set_cons_succ]
      refine take_runs (i := 1) (v := ?_) (by simp only [List.getElem?_toArray, List.getElem?_cons_succ, List.getElem?_cons_zero]; rfl) (by kernel_rfl) (by kernel_rfl) (by kernel_rfl) rfl (by exact fun _ _ _ h => h) (by rfl) ?_ (by assumption) ?_
      rotate_left
      · intro w hSw; (try dsimp only at hSw); go_simp; try (with_reducible rfl)
      try simp only [Act.put, List.setIfInBounds_toArray, List.set_cons_zero, List.set_cons_succ]
      refine take_runs (i := 2) (v := ?_) (by simp only [List.getElem?_toArray, List.getElem?_cons_succ, List.getElem?_cons_zero]; rfl) (by kernel_rfl) (by kernel_rfl) (by kernel_rfl) rfl (by exact fun _ _ _ h => h) (by rfl) ?_ (by assumption) ?_
      rotate_left
      · intro w hSw; (try dsimp only at hSw); go_simp; try (with_reducible rfl)
      try simp only [Act.put, List.setIfInBounds_toArray, List.set_cons_zero, List.set_cons_succ]
      refine wpAnyH_ready (rs := [3]) (by kernel_rfl) (by simp) ?_
      refine (AllReadyH.cons (o := _) (by simp only [List.getElem?_toArray, List.getElem?_cons_succ, List.getElem?_cons_zero]; rfl) (fun K hK => ?_) AllReadyH.nil)
      go_simp
      refine (HC1.out (W.drew)).mono ?_
      rintro e wx ⟨rfl, rfl⟩
      have p_B0_0 := (cell_of_row (W.drew) _ 0 _ _ _ B0.out).trans (show _ = some (Value.slice a ss.length cap) from rfl)
      have p_B0_1 := (cell_of_row (W.drew) _ 1 _ _ _ B0.out).trans (show _ = some (Value.int .i64 now) from rfl)
      refine hK.out _ _ ⟨p_B0_0, p_B0_1⟩ (fun hHeld => ?_)
      clear p_B0_0 p_B0_1
      clear hK K
      try simp only [Act.put, List.setIfInBounds_toArray, List.set_cons_zero, List.set_cons_succ]
      refine take_runs (i := 4) (v := ?_) (by simp only [List.getElem?_toArray, List.getElem?_cons_succ, List.getElem?_cons_zero]; rfl) (by kernel_rfl) (by kernel_rfl) (by kernel_rfl) rfl (by exact fun _ _ _ h => h) (by rfl) ?_ (by assumption) ?_
      rotate_left
      · intro w hSw; (try dsimp only at hSw); go_simp; try (with_reducible rfl)
      try simp only [Act.put, List.setIfInBounds_toArray, List.set_cons_zero, List.set_cons_succ]
      refine take_runs (i := 5) (v := ?_) (by simp only [List.getElem?_toArray, List.getElem?_cons_succ, List.getElem?_cons_zero]; rfl) (by kernel_rfl) (by kernel_rfl) (by kernel_rfl) rfl (by exact fun _ _ _ h => h) (by rfl) ?_ (by assumption) ?_
      rotate_left
      · intro w hSw; (try dsimp only at hSw); go_simp; try (with_reducible rfl)
      try simp only [Act.put, List.setIfInBounds_toArray, List.set_cons_zero, List.set_cons_succ]
      refine take_runs (i := 6) (v := ?_) (by simp only [List.getElem?_toArray, List.getElem?_cons_succ, List.getElem?_cons_zero]; rfl) (by kernel_rfl) (by kernel_rfl) (by kernel_rfl) rfl (by exact fun _ _ _ h => h) (by rfl) ?_ (by assumption) ?_
      rotate_left
      · intro w hSw; (try dsimp only at hSw); go_simp; try (with_reducible rfl)
      try simp only [Act.put, List.setIfInBounds_toArray, List.set_cons_zero, List.set_cons_succ]
      refine wpAnyH_ready (rs := [7]) (by kernel_rfl) (by simp) ?_
      refine (AllReadyH.cons (o := _) (by simp only [List.getElem?_toArray, List.getElem?_cons_succ, List.getElem?_cons_zero]; rfl) (fun K hK => ?_) AllReadyH.nil)
      go_simp
      refine (HC2.out (W.drew)).mono ?_
      rintro e wx ⟨rfl, rfl⟩
      have p_B0_0 := (cell_of_row (W.drew) _ 0 _ _ _ B0.out).trans (show _ = some (Value.slice a ss.length cap) from rfl)
      have p_B0_1 := (cell_of_row (W.drew) _ 1 _ _ _ B0.out).trans (show _ = some (Value.int .i64 now) from rfl)
      refine hK.out _ _ ⟨p_B0_0, p_B0_1⟩ (fun hHeld => ?_)
      clear p_B0_0 p_B0_1
      clear hK K
      try simp only [Act.put, List.setIfInBounds_toArray, List.set_cons_zero, List.set_cons_succ]
      refine take_runs (i := 8) (v := ?_) (by simp only [List.getElem?_toArray, List.getElem?_cons_succ, List.getElem?_cons_zero]; rfl) (by kernel_rfl) (by kernel_rfl) (by kernel_rfl) rfl (by exact fun _ _ _ h => h) (by rfl) ?_ (by assumption) ?_
      rotate_left
      · intro w hSw; (try dsimp only at hSw); go_simp; try (with_reducible rfl)
      try simp only [Act.put, List.setIfInBounds_toArray, List.set_cons_zero, List.set_cons_succ]
      refine take_runs (i := 9) (v := ?_) (by simp only [List.getElem?_toArray, List.getElem?_cons_succ, List.getElem?_cons_zero]; rfl) (by kernel_rfl) (by kernel_rfl) (by kernel_rfl) rfl (by exact fun _ _ _ h => h) (by rfl) ?_ (by assumption) ?_
      rotate_left
      · intro w hSw; (try dsimp only at hSw); go_simp; try (with_reducible rfl)
      try simp only [Act.put, List.setIfInBounds_toArray, List.set_cons_zero, List.set_cons_succ]
      refine take_runs (i := 10) (v := ?_) (by simp only [List.getElem?_toArray, List.getElem?_cons_succ, List.getElem?_cons_zero]; rfl) (by kernel_rfl) (by kernel_rfl) (by kernel_rfl) rfl (by exact fun _ _ _ h => h) (by rfl) ?_ (by assumption) ?_
      rotate_left
      · intro w hSw; (try dsimp only at hSw); go_simp; try (with_reducible rfl)
      try simp only [Act.put, List.setIfInBounds_toArray, List.set_cons_zero, List.set_cons_succ]
      refine take_runs (i := 11) (v := ?_) (by simp only [List.getElem?_toArray, List.getElem?_cons_succ, List.getElem?_cons_zero]; rfl) (by kernel_rfl) (by kernel_rfl) (by kernel_rfl) rfl (by exact fun _ _ _ h => h) (by rfl) ?_ (by assumption) ?_
      rotate_left
      · intro w hSw; (try dsimp only at hSw); go_simp; try (with_reducible rfl)
      try simp only [Act.put, List.setIfInBounds_toArray, List.set_cons_zero, List.set_cons_succ]
      refine take_runs (i := 13) (v := ?_) (by simp only [List.getElem?_toArray, List.getElem?_cons_succ, List.getElem?_cons_zero]; rfl) (by kernel_rfl) (by kernel_rfl) (by kernel_rfl) rfl (by exact fun _ _ _ h => h) (by rfl) ?_ (by assumption) ?_
      rotate_left
      · intro w hSw; (try dsimp only at hSw); go_simp; try (with_reducible rfl)
      try simp only [Act.put, List.setIfInBounds_toArray, List.set_cons_zero, List.set_cons_succ]
      refine take_runs (i := 14) (v := ?_) (by simp only [List.getElem?_toArray, List.getElem?_cons_succ, List.getElem?_cons_zero]; rfl) (by kernel_rfl) (by kernel_rfl) (by kernel_rfl) rfl (by exact fun _ _ _ h => h) (by rfl) ?_ (by assumption) ?_
      rotate_left
      · intro w hSw; (try dsimp only at hSw); go_simp; try (with_reducible rfl)
      try simp only [Act.put, List.setIfInBounds_toArray, List.set_cons_zero, List.set_cons_succ]
      refine wpAnyH_ready (rs := [12]) (by kernel_rfl) (by simp) ?_
      refine (AllReadyH.cons (o := _) (by simp only [List.getElem?_toArray, List.getElem?_cons_succ, List.getElem?_cons_zero]; rfl) (fun K hK => ?_) AllReadyH.nil)
      go_simp
      refine (HTB.out (W.drew) (lsR_below HLS.out d.out)).mono ?_
      rintro e w5 ⟨g, bs, rfl, ht, c5⟩
      have HT5 := Lib.hid ht
      replace B0 := Lib.hid ((c5.block w.heap.size (Array.getElem?_eq_some_iff.1 B0.out).1).trans B0.out)
      replace d := Lib.hid (d.out.trans (c5.mono d.out.size))
      have Z_w5 := Lib.hid (show W.heap.size ≤ w5.heap.size from c5.size)
      clear c5 ht
      have p_B0_0 := (cell_of_row w5 _ 0 _ _ _ B0.out).trans (show _ = some (Value.slice a ss.length cap) from rfl)
      have p_B0_1 := (cell_of_row w5 _ 1 _ _ _ B0.out).trans (show _ = some (Value.int .i64 now) from rfl)
      refine hK.out _ _ ⟨p_B0_0, p_B0_1⟩ (fun hHeld => ?_)
      clear p_B0_0 p_B0_1
      clear hK K
      try simp only [Act.put, List.setIfInBounds_toArray, List.set_cons_zero, List.set_cons_succ]
      refine wpAnyH_ready (rs := [15]) (by kernel_rfl) (by simp) ?_
      refine (AllReadyH.cons (o := _) (by simp only [List.getElem?_toArray, List.getElem?_cons_succ, List.getElem?_cons_zero]; rfl) (fun K hK => ?_) AllReadyH.nil)
      go_simp
      refine (HPS.out _ g bs w5 HT5.out (segsR_below HSR.out d.out)).mono ?_
      rintro e w6 ⟨rfl, c6⟩
      replace B0 := Lib.hid ((c6.block w.heap.size (Array.getElem?_eq_some_iff.1 B0.out).1).trans B0.out)
      replace d := Lib.hid (d.out.trans (c6.mono d.out.size))
      have Z_w6 := Lib.hid (show w5.heap.size ≤ w6.heap.size from c6.size)
      clear c6
      have p_B0_0 := (cell_of_row w6 _ 0 _ _ _ B0.out).trans (show _ = some (Value.slice a ss.length cap) from rfl)
      have p_B0_1 := (cell_of_row w6 _ 1 _ _ _ B0.out).trans (show _ = some (Value.int .i64 now) from rfl)
      refine hK.out _ _ ⟨p_B0_0, p_B0_1⟩ (fun hHeld => ?_)
      clear p_B0_0 p_B0_1
      clear hK K
      try simp only [Act.put, List.setIfInBounds_toArray, List.set_cons_zero, List.set_cons_succ]
      refine take_runs (i := 16) (v := ?_) (by simp only [List.getElem?_toArray, List.getElem?_cons_succ, List.getElem?_cons_zero]; rfl) (by kernel_rfl) (by kernel_rfl) (by kernel_rfl) rfl (by exact fun _ _ _ h => h) (by rfl) ?_ (by assumption) ?_
      rotate_left
      · intro w hSw; (try dsimp only at hSw); go_simp; try (with_reducible rfl)
      try simp only [Act.put, List.setIfInBounds_toArray, List.set_cons_zero, List.set_cons_succ]
      refine take_runs (i := 17) (v := ?_) (by simp only [List.getElem?_toArray, List.getElem?_cons_succ, List.getElem?_cons_zero]; rfl) (by kernel_rfl) (by kernel_rfl) (by kernel_rfl) rfl (by exact fun _ _ _ h => h) (by rfl) ?_ (by assumption) ?_
      rotate_left
      · intro w hSw; (try dsimp only at hSw); go_simp; try (with_reducible rfl)
      try simp only [Act.put, List.setIfInBounds_toArray, List.set_cons_zero, List.set_cons_succ]
      refine wpAnyH_done (by kernel_rfl) ?_ _
      clear hHeld
      go_wp2
      go_ret
      exact ⟨rfl, d.out⟩
set_option maxHeartbeats 8000000 in
set_option maxRecDepth 100000 in
theorem implCountVersions (sv : Value) (ss : List (List VerD)) (now : Int) (w : World) (h : SlR tVersionS w sv ss) (hs : zL tVersionS ss ≤ 1048576) :
    Calls Try.prog 44 #[.agg #[sv, .int .i64 now]] w (fun e w' => e = .returned (.int .i64 ss.flatten.length) ∧ Below w.heap.size w w') := by
  obtain ⟨us, hls, hsr⟩ := slR_ls h
  have HUL := Lib.hid hsr.1
  obtain ⟨a, cap, rfl⟩ := slR_len h
  have hlen := zL_len hs
  have HSS := Lib.hid hs
  have H := Lib.hid h
  have HLS := Lib.hid hls
  have HSR := Lib.hid hsr
  have d0 := Lib.hid (show Below w.heap.size w (w.alloc (.cells #[.slice a ss.length cap, .int .i64 now] 45)) from (Below.refl _ _).alloc (Nat.le_refl _) _)
  have B0 : Hid ((w.alloc (.cells #[.slice a ss.length cap, .int .i64 now] 45)).heap[w.heap.size]? = some (.cells #[.slice a ss.length cap, .int .i64 now] 45 (0, 0))) := Lib.hid (heap_alloc_new w _)
  have Y0 : Hid (w.heap.size < (w.alloc (.cells #[.slice a ss.length cap, .int .i64 now] 45)).heap.size) := Lib.hid (by simp [World.size_alloc])
  have HFL : Hid (ss.flatten.length ≤ 1048576) := Lib.hid (by have h1 := zL_all ss; have h2 := zL_len (T := tVersion) (xs := ss.flatten) (M := 1048576) (by omega); omega)
  clear hls hsr h hs
  go_enter Try.func44, Try.ntmps44
  go_wp2
  generalize w.alloc (.cells #[.slice a ss.length cap, .int .i64 now] 45) = W at *
  go_loopw [3, 9] (fun c i wr => ∃ k : Nat, k ≤ ss.length ∧ i = .int .i64 k ∧ c = .int .i64 ((cat ss k).length : Int) ∧ Below w.heap.size w wr) (fun _ i _ => ss.length - (intOf i).toNat)
  case atStart => exact ⟨0, Nat.zero_le _, rfl, by rw [cat_zero]; rfl, d0.out⟩
  case round =>
    obtain ⟨k, hk, rfl, rfl, hbel⟩ := hrel
    by_cases hlt : k < ss.length
    · have i1 : (0 : Int) ≤ (k : Int) := by omega
      have i2 : (k : Int) < (ss.length : Int) := by omega
      obtain ⟨b, off, cap', cs, hv, hbl, hcs, hR⟩ := slR_at H.out hlt
      simp only [Value.slice.injEq] at hv
      obtain ⟨rfl, _, rfl⟩ := hv
      obtain ⟨u, rfl, hU⟩ := hR
      change SlR tVersion w u (ss.getD k []) at hU
      have pe : w.cell? ⟨b, off + k, none⟩ = some u := by have := hcs 0 Nat.one_pos; rw [show tVersionS.n = 1 from rfl, Nat.mul_one, Nat.add_zero] at this; exact this
      have he := (hbel.cell (p := ⟨b, off + k, none⟩) hbl).trans pe
      have HCL := Lib.hid (cat_len hlt)
      have hcf := cat_le ss (k + 1)
      have hfl := HFL.out
      have hcl := HCL.out
      obtain ⟨ua, uc, rfl⟩ := slR_len hU
      have HB := Lib.hid hbel
      clear hcs pe hU hbel
      generalize (ss.getD k []).length = m at *
      have h0 : ((cat ss k).length : Int) + (m : Int) ≤ 1048576 := by omega
      generalize (cat ss k).length = q at *
      clear hcf hfl hcl
      go_wp2
      go_roundw
      case rel => exact ⟨k + 1, by omega, by go_num, by rw [HCL.out]; go_num, HB.out⟩
      case measure => simp [intOf]; omega
    · obtain rfl : k = ss.length := by omega
      have HCA : Hid (cat ss ss.length = ss.flatten) := Lib.hid (cat_all ss)
      rw [HCA.out]
      go_wp2
      go_ret
      exact ⟨rfl, hbel⟩
end Go.Proofs.Ytginjmnohnidiaa
namespace Go.Proofs.Ytginjmnohnidiaa
open Go.RowKit
set_option linter.unusedVariables false
set_option linter.unusedSimpArgs false
set_option maxHeartbeats 32000000 in
set_option maxRecDepth 100000 in
theorem law_fnExactCountVersions (a0_1 : Int) (v0_0 : Value) (x0_0 : List (List (Int × List Int × Int × Int))) (r0 : Int) (w : World) (h0_0 : SlR tVersionS w v0_0 x0_0) (o0_0 : tVersionSS.ok x0_0) 
    (hspec : ∀ (v0_0 : Value) (w : World), SlR tVersionS w v0_0 x0_0 → zL tVersionS x0_0 ≤ 1048576 → Calls Try.prog 43 #[.agg #[v0_0, .int .i64 a0_1]] w (fun e w' => e = .returned (.int .i64 r0) ∧ Below w.heap.size w w'))
    (himpl : ∀ (v0_0 : Value) (w : World), SlR tVersionS w v0_0 x0_0 → zL tVersionS x0_0 ≤ 1048576 → Calls Try.prog 44 #[.agg #[v0_0, .int .i64 a0_1]] w (fun e w' => e = .returned (.int .i64 r0) ∧ Below w.heap.size w w')) :
    Calls Try.prog 10 #[.agg #[v0_0, .int .i64 a0_1]] w fun e w' => e = .returned (.bool true) ∧ Below w.heap.size w w' := by
  obtain ⟨c0_0, k0_0, rfl⟩ := slR_len h0_0
  have HB0 : Hid (Below w.heap.size w (w.alloc (.cells #[.slice c0_0 x0_0.length k0_0, .int .i64 a0_1] 53))) := Lib.hid ((Below.refl _ w).alloc (Nat.le_refl _) _)
  have B0 : Hid ((w.alloc (.cells #[.slice c0_0 x0_0.length k0_0, .int .i64 a0_1] 53)).heap[w.heap.size]? = some (.cells #[.slice c0_0 x0_0.length k0_0, .int .i64 a0_1] 53 (0, 0))) := Lib.hid (by have := heap_alloc_new w (.cells #[.slice c0_0 x0_0.length k0_0, .int .i64 a0_1] 53); simpa only [World.size_alloc] using this)
  have A0_0 : Hid (SlR tVersionS (w.alloc (.cells #[.slice c0_0 x0_0.length k0_0, .int .i64 a0_1] 53)) (.slice c0_0 x0_0.length k0_0) x0_0) := Lib.hid (slR_below tVersionS_law h0_0 HB0.out)
  have O0_0 := Lib.hid o0_0
  clear h0_0 o0_0
  have HSP := Lib.hid hspec
  have HIM := Lib.hid himpl
  clear hspec himpl
  by_cases c0 : ((zL tVersionS x0_0 : Nat) : Int) ≤ (1048576 : Int)
  ·
    have HZ0 : Hid (((zL tVersionS x0_0 : Nat) : Int) ≤ (1048576 : Int)) := Lib.hid c0
    have HK0 : Hid ((1048576 : Int) ≤ 1048576) := Lib.hid (by omega)
    have hn0 : ¬ (1048576 : Int) - ((zL tVersionS x0_0 : Nat) : Int) < 0 := by omega
    have HT : Hid (zL tVersionS x0_0 ≤ 1048576) := Lib.hid (by omega)
    have S0_0 : Hid (zL tVersionS x0_0 ≤ 1048576) := Lib.hid (by omega)
    have N0_0 := ndL_le tVersionS_law (by decide) x0_0
    clear N0_0
    have e0 : (r0 != r0) = false := by simp
    clear c0
    go_enter Try.func10, Try.ntmps10
    go_wp2_with fail
    have Y_W : Hid (w.heap.size + 1 ≤ (w.alloc (.cells #[.slice c0_0 x0_0.length k0_0, .int .i64 a0_1] 53)).heap.size) := Lib.hid (by simp [World.size_alloc])
    generalize (w.alloc (.cells #[.slice c0_0 x0_0.length k0_0, .int .i64 a0_1] 53)) = W at *
    have d := Lib.hid (Below.refl W.heap.size W)
    refine (szStore_Y a0_1 (.slice c0_0 x0_0.length k0_0) x0_0 ((1048576 : Int)) W (slR_below tVersionS_law A0_0.out d.out) HZ0.out HK0.out).mono ?_
    rintro e v1 ⟨rfl, c1⟩
    replace B0 := Lib.hid ((c1.block w.heap.size (Array.getElem?_eq_some_iff.1 B0.out).1).trans B0.out)
    replace d := Lib.hid (d.out.trans (c1.mono d.out.size))
    have Z_v1 := Lib.hid (show W.heap.size ≤ v1.heap.size from c1.size)
    clear c1
    have p_B0_0 := (cell_of_row v1 _ 0 _ _ _ B0.out).trans (show _ = some (Value.slice c0_0 x0_0.length k0_0) from rfl)
    have p_B0_1 := (cell_of_row v1 _ 1 _ _ _ B0.out).trans (show _ = some (Value.int .i64 a0_1) from rfl)
    go_wp2_with fail
    clear p_B0_0 p_B0_1
    refine (toStore_T a0_1 (.slice c0_0 x0_0.length k0_0) x0_0 v1 (slR_below tVersionS_law A0_0.out d.out) S0_0.out).mono ?_
    rintro e v2 ⟨cs, rfl, ow, c2⟩
    replace B0 := Lib.hid ((c2.block w.heap.size (Array.getElem?_eq_some_iff.1 B0.out).1).trans B0.out)
    replace d := Lib.hid (d.out.trans (c2.mono d.out.size))
    have Z_v2 := Lib.hid (show v1.heap.size ≤ v2.heap.size from c2.size)
    clear c2
    replace ow := tStore_law.lt ow
    obtain ⟨y2_0, K2_0, rfl, p2_0, w2_0⟩ := tStore_O ow
    obtain ⟨ya2_0, yc2_0, rfl⟩ := slO_len p2_0
    have P2_0 := Lib.hid p2_0
    have Q2_0 := Lib.hid (fun b h => (show v1.heap.size ≤ b ∧ b < v2.heap.size from w2_0 b h))
    clear p2_0 w2_0 ow
    go_wp2_with fail
    refine (HSP.out (.slice ya2_0 x0_0.length yc2_0) v2 (slO_reads tVersionS_law P2_0.out) HT.out ).mono ?_
    rintro e v3 ⟨rfl, c3⟩
    replace B0 := Lib.hid ((c3.block w.heap.size (Array.getElem?_eq_some_iff.1 B0.out).1).trans B0.out)
    replace P2_0 := Lib.hid (slO_fresh tVersionS_law P2_0.out c3)
    replace d := Lib.hid (d.out.trans (c3.mono d.out.size))
    have Z_v3 := Lib.hid (show v2.heap.size ≤ v3.heap.size from c3.size)
    clear c3
    have p_B0_0 := (cell_of_row v3 _ 0 _ _ _ B0.out).trans (show _ = some (Value.slice c0_0 x0_0.length k0_0) from rfl)
    have p_B0_1 := (cell_of_row v3 _ 1 _ _ _ B0.out).trans (show _ = some (Value.int .i64 a0_1) from rfl)
    go_wp2_with fail
    clear p_B0_0 p_B0_1
    refine (toStore_T a0_1 (.slice c0_0 x0_0.length k0_0) x0_0 v3 (slR_below tVersionS_law A0_0.out d.out) S0_0.out).mono ?_
    rintro e v4 ⟨cs, rfl, ow, c4⟩
    replace B0 := Lib.hid ((c4.block w.heap.size (Array.getElem?_eq_some_iff.1 B0.out).1).trans B0.out)
    replace P2_0 := Lib.hid (slO_fresh tVersionS_law P2_0.out c4)
    replace d := Lib.hid (d.out.trans (c4.mono d.out.size))
    have Z_v4 := Lib.hid (show v3.heap.size ≤ v4.heap.size from c4.size)
    clear c4
    replace ow := tStore_law.lt ow
    obtain ⟨y4_0, K4_0, rfl, p4_0, w4_0⟩ := tStore_O ow
    obtain ⟨ya4_0, yc4_0, rfl⟩ := slO_len p4_0
    have P4_0 := Lib.hid p4_0
    have Q4_0 := Lib.hid (fun b h => (show v3.heap.size ≤ b ∧ b < v4.heap.size from w4_0 b h))
    clear p4_0 w4_0 ow
    have hal : Below v4.heap.size v4 (v4.alloc (.cells #[.slice ya4_0 x0_0.length yc4_0, .int .i64 a0_1] 45)) := (Below.refl _ _).alloc (Nat.le_refl _) _
    have X1 := Lib.hid (heap_alloc_new v4 (.cells #[.slice ya4_0 x0_0.length yc4_0, .int .i64 a0_1] 45))
    have Y_X1 := Lib.hid (show v4.heap.size < (v4.alloc (.cells #[.slice ya4_0 x0_0.length yc4_0, .int .i64 a0_1] 45)).heap.size by simp [World.size_alloc])
    replace B0 := Lib.hid ((hal.block w.heap.size (Array.getElem?_eq_some_iff.1 B0.out).1).trans B0.out)
    replace P2_0 := Lib.hid (slO_fresh tVersionS_law P2_0.out hal)
    replace P4_0 := Lib.hid (slO_fresh tVersionS_law P4_0.out hal)
    replace d := Lib.hid (d.out.trans (hal.mono d.out.size))
    clear hal
    have p_X1_0 := (cell_of_row (v4.alloc (.cells #[.slice ya4_0 x0_0.length yc4_0, .int .i64 a0_1] 45)) _ 0 _ _ _ X1.out).trans (show _ = some (Value.slice ya4_0 x0_0.length yc4_0) from rfl)
    have p_X1_1 := (cell_of_row (v4.alloc (.cells #[.slice ya4_0 x0_0.length yc4_0, .int .i64 a0_1] 45)) _ 1 _ _ _ X1.out).trans (show _ = some (Value.int .i64 a0_1) from rfl)
    go_wp2_with fail
    clear p_X1_0 p_X1_1
    generalize (v4.alloc (.cells #[.slice ya4_0 x0_0.length yc4_0, .int .i64 a0_1] 45)) = u5 at *
    refine (HIM.out (.slice ya4_0 x0_0.length yc4_0) u5 (slO_reads tVersionS_law P4_0.out) HT.out ).mono ?_
    rintro e v6 ⟨rfl, c6⟩
    replace B0 := Lib.hid ((c6.block w.heap.size (Array.getElem?_eq_some_iff.1 B0.out).1).trans B0.out)
    replace X1 := Lib.hid ((c6.block v4.heap.size (Array.getElem?_eq_some_iff.1 X1.out).1).trans X1.out)
    replace P2_0 := Lib.hid (slO_fresh tVersionS_law P2_0.out c6)
    replace P4_0 := Lib.hid (slO_fresh tVersionS_law P4_0.out c6)
    replace d := Lib.hid (d.out.trans (c6.mono d.out.size))
    have Z_v6 := Lib.hid (show u5.heap.size ≤ v6.heap.size from c6.size)
    clear c6
    go_wp2
    have p_B0_0 := (cell_of_row v6 _ 0 _ _ _ B0.out).trans (show _ = some (Value.slice c0_0 x0_0.length k0_0) from rfl)
    have p_B0_1 := (cell_of_row v6 _ 1 _ _ _ B0.out).trans (show _ = some (Value.int .i64 a0_1) from rfl)
    have p_X1_0 := (cell_of_row v6 _ 0 _ _ _ X1.out).trans (show _ = some (Value.slice ya4_0 x0_0.length yc4_0) from rfl)
    have p_X1_1 := (cell_of_row v6 _ 1 _ _ _ X1.out).trans (show _ = some (Value.int .i64 a0_1) from rfl)
    refine wp_region_held_drew (S := fun w' => w'.cell? ⟨w.heap.size, 0, none⟩ = some (Value.slice c0_0 x0_0.length k0_0) ∧ w'.cell? ⟨w.heap.size, 1, none⟩ = some (Value.int .i64 a0_1) ∧ w'.cell? ⟨v4.heap.size, 0, none⟩ = some (Value.slice ya4_0 x0_0.length yc4_0) ∧ w'.cell? ⟨v4.heap.size, 1, none⟩ = some (Value.int .i64 a0_1)) (by kernel_rfl) ⟨p_B0_0, p_B0_1, p_X1_0, p_X1_1⟩ (fun hHeld => ?_)
    clear p_B0_0 p_B0_1 p_X1_0 p_X1_1
    have cd7 : Below v6.heap.size v6 v6.drew := below_drew (Below.refl _ _)
    replace B0 := Lib.hid ((cd7.block w.heap.size (Array.getElem?_eq_some_iff.1 B0.out).1).trans B0.out)
    replace X1 := Lib.hid ((cd7.block v4.heap.size (Array.getElem?_eq_some_iff.1 X1.out).1).trans X1.out)
    replace P2_0 := Lib.hid (slO_fresh tVersionS_law P2_0.out cd7)
    replace P4_0 := Lib.hid (slO_fresh tVersionS_law P4_0.out cd7)
    replace d := Lib.hid (d.out.trans (cd7.mono d.out.size))
    clear cd7
    refine take_runs (i := 0) (v := ?_) (by simp only [List.getElem?_toArray, List.getElem?_cons_succ, List.getElem?_cons_zero]; rfl) (by kernel_rfl) (by kernel_rfl) (by kernel_rfl) rfl (by exact fun _ _ _ h => h) (by rfl) ?_ (by assumption) ?_
    rotate_left
    · intro w hSw; (try dsimp only at hSw); go_simp; try (with_reducible rfl)
    try simp only [Act.put, List.setIfInBounds_toArray, List.set_cons_zero, List.set_cons_succ]
    refine take_runs (i := 1) (v := ?_) (by simp only [List.getElem?_toArray, List.getElem?_cons_succ, List.getElem?_cons_zero]; rfl) (by kernel_rfl) (by kernel_rfl) (by kernel_rfl) rfl (by exact fun _ _ _ h => h) (by rfl) ?_ (by assumption) ?_
    rotate_left
    · intro w hSw; (try dsimp only at hSw); go_simp; try (with_reducible rfl)
    try simp only [Act.put, List.setIfInBounds_toArray, List.set_cons_zero, List.set_cons_succ]
    refine wpAnyH_ready (rs := [2]) (by kernel_rfl) (by simp) ?_
    refine AllReadyH.cons (o := _) (by simp only [List.getElem?_toArray, List.getElem?_cons_succ, List.getElem?_cons_zero]; rfl) (fun K hK => ?_) AllReadyH.nil
    go_simp
    refine (toStore_T a0_1 (.slice c0_0 x0_0.length k0_0) x0_0 (v6.drew) (slR_below tVersionS_law A0_0.out d.out) S0_0.out).mono ?_
    rintro e v8 ⟨cs, rfl, ow, c8⟩
    replace B0 := Lib.hid ((c8.block w.heap.size (Array.getElem?_eq_some_iff.1 B0.out).1).trans B0.out)
    replace X1 := Lib.hid ((c8.block v4.heap.size (Array.getElem?_eq_some_iff.1 X1.out).1).trans X1.out)
    replace P2_0 := Lib.hid (slO_fresh tVersionS_law P2_0.out c8)
    replace P4_0 := Lib.hid (slO_fresh tVersionS_law P4_0.out c8)
    replace d := Lib.hid (d.out.trans (c8.mono d.out.size))
    have Z_v8 := Lib.hid (show v6.heap.size ≤ v8.heap.size from c8.size)
    clear c8
    replace ow := tStore_law.lt ow
    obtain ⟨y8_0, K8_0, rfl, p8_0, w8_0⟩ := tStore_O ow
    obtain ⟨ya8_0, yc8_0, rfl⟩ := slO_len p8_0
    have P8_0 := Lib.hid p8_0
    have Q8_0 := Lib.hid (fun b h => (show (v6.drew).heap.size ≤ b ∧ b < v8.heap.size from w8_0 b h))
    clear p8_0 w8_0 ow
    have p_B0_0 := (cell_of_row v8 _ 0 _ _ _ B0.out).trans (show _ = some (Value.slice c0_0 x0_0.length k0_0) from rfl)
    have p_B0_1 := (cell_of_row v8 _ 1 _ _ _ B0.out).trans (show _ = some (Value.int .i64 a0_1) from rfl)
    have p_X1_0 := (cell_of_row v8 _ 0 _ _ _ X1.out).trans (show _ = some (Value.slice ya4_0 x0_0.length yc4_0) from rfl)
    have p_X1_1 := (cell_of_row v8 _ 1 _ _ _ X1.out).trans (show _ = some (Value.int .i64 a0_1) from rfl)
    refine hK.out _ _ ⟨p_B0_0, p_B0_1, p_X1_0, p_X1_1⟩ (fun hHeld => ?_)
    clear p_B0_0 p_B0_1 p_X1_0 p_X1_1
    clear hK K
    try simp only [Act.put, List.setIfInBounds_toArray, List.set_cons_zero, List.set_cons_succ]
    refine wpAnyH_ready (rs := [3]) (by kernel_rfl) (by simp) ?_
    refine AllReadyH.cons (o := _) (by simp only [List.getElem?_toArray, List.getElem?_cons_succ, List.getElem?_cons_zero]; rfl) (fun K hK => ?_) AllReadyH.nil
    go_simp
    refine (eqStore_T a0_1 (.slice ya4_0 x0_0.length yc4_0) x0_0 (.slice ya8_0 x0_0.length yc8_0) v8 (slO_reads tVersionS_law P4_0.out) (slO_reads tVersionS_law P8_0.out) S0_0.out).mono ?_
    rintro e v9 ⟨rfl, c9⟩
    replace B0 := Lib.hid ((c9.block w.heap.size (Array.getElem?_eq_some_iff.1 B0.out).1).trans B0.out)
    replace X1 := Lib.hid ((c9.block v4.heap.size (Array.getElem?_eq_some_iff.1 X1.out).1).trans X1.out)
    replace P2_0 := Lib.hid (slO_fresh tVersionS_law P2_0.out c9)
    replace P4_0 := Lib.hid (slO_fresh tVersionS_law P4_0.out c9)
    replace P8_0 := Lib.hid (slO_fresh tVersionS_law P8_0.out c9)
    replace d := Lib.hid (d.out.trans (c9.mono d.out.size))
    have Z_v9 := Lib.hid (show v8.heap.size ≤ v9.heap.size from c9.size)
    clear c9
    clear P8_0
    have p_B0_0 := (cell_of_row v9 _ 0 _ _ _ B0.out).trans (show _ = some (Value.slice c0_0 x0_0.length k0_0) from rfl)
    have p_B0_1 := (cell_of_row v9 _ 1 _ _ _ B0.out).trans (show _ = some (Value.int .i64 a0_1) from rfl)
    have p_X1_0 := (cell_of_row v9 _ 0 _ _ _ X1.out).trans (show _ = some (Value.slice ya4_0 x0_0.length yc4_0) from rfl)
    have p_X1_1 := (cell_of_row v9 _ 1 _ _ _ X1.out).trans (show _ = some (Value.int .i64 a0_1) from rfl)
    refine hK.out _ _ ⟨p_B0_0, p_B0_1, p_X1_0, p_X1_1⟩ (fun hHeld => ?_)
    clear p_B0_0 p_B0_1 p_X1_0 p_X1_1
    clear hK K
    try simp only [Act.put, List.setIfInBounds_toArray, List.set_cons_zero, List.set_cons_succ]
    refine take_runs (i := 4) (v := ?_) (by simp only [List.getElem?_toArray, List.getElem?_cons_succ, List.getElem?_cons_zero]; rfl) (by kernel_rfl) (by kernel_rfl) (by kernel_rfl) rfl (by exact fun _ _ _ h => h) (by rfl) ?_ (by assumption) ?_
    rotate_left
    · intro w hSw; (try dsimp only at hSw); go_simp; try (with_reducible rfl)
    try simp only [Act.put, List.setIfInBounds_toArray, List.set_cons_zero, List.set_cons_succ]
    refine wpAnyH_done (by kernel_rfl) ?_ _
    clear hHeld
    go_wp2
    go_ret
    exact ⟨rfl, HB0.out.trans (d.out.mono HB0.out.size)⟩
  ·
    have HZ0 : Hid ((1048576 : Int) < ((zL tVersionS x0_0 : Nat) : Int)) := Lib.hid (by omega)
    have HP0 : Hid (0 ≤ (1048576 : Int)) := Lib.hid (by omega)
    have HK0 : Hid ((1048576 : Int) ≤ 1048576) := Lib.hid (by omega)
    clear c0
    go_enter Try.func10, Try.ntmps10
    go_wp2_with fail
    have Y_W : Hid (w.heap.size + 1 ≤ (w.alloc (.cells #[.slice c0_0 x0_0.length k0_0, .int .i64 a0_1] 53)).heap.size) := Lib.hid (by simp [World.size_alloc])
    generalize (w.alloc (.cells #[.slice c0_0 x0_0.length k0_0, .int .i64 a0_1] 53)) = W at *
    have d := Lib.hid (Below.refl W.heap.size W)
    refine (szStore_N a0_1 (.slice c0_0 x0_0.length k0_0) x0_0 ((1048576 : Int)) W (slR_below tVersionS_law A0_0.out d.out) HZ0.out HK0.out HP0.out O0_0.out).mono ?_
    rintro e v1 ⟨rfl, c1⟩
    replace B0 := Lib.hid ((c1.block w.heap.size (Array.getElem?_eq_some_iff.1 B0.out).1).trans B0.out)
    replace d := Lib.hid (d.out.trans (c1.mono d.out.size))
    have Z_v1 := Lib.hid (show W.heap.size ≤ v1.heap.size from c1.size)
    clear c1
    go_wp2
    go_ret
    exact ⟨rfl, HB0.out.trans (d.out.mono HB0.out.size)⟩
end Go.Proofs.Ytginjmnohnidiaa
namespace Go.Proofs.Ytginjmnohnidiaa
open Go.ChangeShapes Go.WideShapes Go.ChangeAt Go.WideMaps Go.WideElems Go.RowKit
set_option linter.unusedVariables false
theorem opn_VersionS : Opn tVersionS 134 := opn_slice tVersion_law _ opn_Version Try.underlying134 (by kernel_rfl)
end Go.Proofs.Ytginjmnohnidiaa
namespace Go.Proofs.Ytginjmnohnidiaa
open Go.ChangeShapes Go.WideShapes Go.ChangeAt Go.WideMaps Go.WideElems Go.RowKit
set_option linter.unusedVariables false
theorem opn_VersionSS : Opn tVersionSS 51 := opn_slice tVersionS_law _ opn_VersionS Try.underlying51 (by kernel_rfl)
end Go.Proofs.Ytginjmnohnidiaa
namespace Go.Proofs.Ytginjmnohnidiaa
open Go.ChangeShapes Go.WideShapes Go.ChangeAt Go.WideMaps Go.WideElems Go.RowKit
set_option linter.unusedVariables false
theorem recT_Store : Try.prog.readableRec 53 = true := by kernel_rfl
theorem rowT_Store : 53 < Try.prog.types.size := of_decide_eq_true (by kernel_rfl)
set_option maxRecDepth 100000 in
theorem opn_Store : Opn tStore 53 := by
  intro H enc W held fuel cs x h
  obtain ⟨xs, n, _, _, hl, hlen, hf⟩ := DataW.trod_struct Try.underlying53 h
  have hl2 : cs.length = 2 := hl.trans (by kernel_rfl)
  have hn : xs.length = 2 := hlen
  have f0 : DataW.trod enc Try.prog W 0 (fun _ => true) held n 51 ((cs.drop 0).take (Try.prog.cellsOf 51)) = xs[0]? := hf 0 _ rfl
  rw [show Try.prog.cellsOf 51 = 1 from by kernel_rfl] at f0
  obtain ⟨d0, r0, o0⟩ := opn_cast (opn_VersionSS) (by rw [List.getElem?_eq_getElem (by omega)]; rfl) f0
  have f1 : DataW.trod enc Try.prog W 0 (fun _ => true) held n 3 ((cs.drop 1).take (Try.prog.cellsOf 3)) = xs[1]? := hf 1 _ rfl
  rw [show Try.prog.cellsOf 3 = 1 from by kernel_rfl] at f1
  obtain ⟨d1, r1, o1⟩ := opn_cast (opn_int) (by rw [List.getElem?_eq_getElem (by omega)]; rfl) f1
  exact ⟨(d0, d1), ⟨(cs.drop 0).take 1, cs.drop 1, (List.take_append_drop 1 cs).symm, r0, (by have e := List.take_of_length_le (l := cs.drop 1) (i := 1) (by rw [List.length_drop]; omega); rw [e] at r1; exact r1)⟩, ⟨o0, o1⟩⟩
set_option maxRecDepth 100000 in
theorem shut_Store {H : Type} {enc : TypeId × Value → H} {W W' : World} {v : Value} {d : DataW H} {ps : List MemPlace} (h : DataW.Trod enc Try.prog W 0 (fun _ => true) true 53 v d ps) (hb : Below W.heap.size W W') (hlt : ∀ x ∈ ps, x.block < W.heap.size) :
    DataW.Trod enc Try.prog W' 0 (fun b => decide (b < W.heap.size)) true 53 v d ps := Below.trod laidOutP recT_Store rowT_Store h hb hlt
end Go.Proofs.Ytginjmnohnidiaa
namespace Go.Proofs.Ytginjmnohnidiaa
open Go.RowKit
set_option linter.unusedVariables false
set_option linter.unusedSimpArgs false
set_option maxHeartbeats 2000000 in
set_option maxRecDepth 100000 in
theorem equalInts (v u : Value) (xs ys : List Int) (w : World) (h : Ints w v xs) (g : Ints w u ys) (hn : xs.length ≤ 1048576) (hm : ys.length ≤ 1048576) :
    Calls Try.prog 148 #[v, u] w fun e w' => e = .returned (.bool (decide (xs = ys))) ∧ Below w.heap.size w w' := by
  have H := Lib.hid h
  have G := Lib.hid g
  obtain ⟨a, cap, rfl⟩ := ints_len h
  obtain ⟨a2, cap2, rfl⟩ := ints_len g
  clear h g
  by_cases hl : xs.length = ys.length
  · have HL := Lib.hid hl
    have hne : ((xs.length : Int) != (ys.length : Int)) = false := by rw [hl]; simp
    clear hl
    go_enter Try.func148, Try.ntmps148
    go_wp2
    clear hne
    go_loopw [13] (fun i wr => ∃ k : Nat, k ≤ xs.length ∧ i = .int .i64 k ∧ Hid (∀ j, j < k → xs.getD j 0 = ys.getD j 0) ∧ Below w.heap.size w wr) (fun i _ => xs.length - (intOf i).toNat)
    case atStart => exact ⟨0, Nat.zero_le _, rfl, Lib.hid (fun j hj => by omega), Below.refl _ _⟩
    case round =>
      obtain ⟨k, hk, rfl, hall, hbel⟩ := hrel
      by_cases hlt : k < xs.length
      · obtain ⟨b, off, cap', hv, hbl, hc⟩ := ints_cell H.out (by omega)
        simp only [Value.slice.injEq] at hv
        obtain ⟨rfl, _, rfl⟩ := hv
        obtain ⟨b2, off2, cap2', hv2, hbl2, hc2⟩ := ints_cell G.out (by have := HL.out; omega)
        simp only [Value.slice.injEq] at hv2
        obtain ⟨rfl, _, rfl⟩ := hv2
        have hcell := (hbel.cell (p := ⟨b, off + k, none⟩) hbl).trans (hc k hlt)
        have hcell2 := (hbel.cell (p := ⟨b2, off2 + k, none⟩) hbl2).trans (hc2 k (by have := HL.out; omega))
        have i1 : (0 : Int) ≤ (k : Int) := by omega
        have i2 : (k : Int) < (xs.length : Int) := by omega
        have i3 : (k : Int) < (ys.length : Int) := by have := HL.out; omega
        clear hc hc2
        by_cases he : xs.getD k 0 = ys.getD k 0
        · have HA : Hid (∀ j, j < k + 1 → xs.getD j 0 = ys.getD j 0) := Lib.hid (fun j hj => by
            by_cases e : j = k
            · exact e ▸ he
            · exact hall.out j (by omega))
          rw [← he] at hcell2
          clear he hall
          generalize xs.getD k 0 = y at hcell hcell2
          go_wp2
          go_quiet (fail)
          go_wp2
          go_roundw
          case rel => exact ⟨k + 1, by omega, by go_num, HA, below_dn hbel _⟩
          case measure => simp [intOf]; omega
        · have HF := Lib.hid (decide_eq_false (list_ne_at hlt he))
          have heq : (xs.getD k 0 != ys.getD k 0) = true := by rw [bne_iff_ne]; exact he
          clear he hall
          generalize xs.getD k 0 = y at hcell heq
          generalize ys.getD k 0 = z at hcell2 heq
          go_wp2
          go_quiet (fail)
          go_wp2
          go_ret
          exact ⟨ret_b HF.out.symm, below_dn hbel _⟩
      · obtain rfl : k = xs.length := by omega
        have HT := Lib.hid (decide_eq_true (list_eq_all HL.out hall.out))
        clear hall
        go_wp2
        go_ret
        exact ⟨ret_b HT.out.symm, hbel⟩
  · have HF := Lib.hid (decide_eq_false (show ¬ xs = ys from fun e => hl (by rw [e])))
    have hne : ((xs.length : Int) != (ys.length : Int)) = true := by rw [bne_iff_ne]; omega
    clear hl
    go_enter Try.func148, Try.ntmps148
    go_wp2
    go_ret
    exact ⟨ret_b HF.out.symm, Below.refl _ _⟩
theorem ints_zero {w : World} {a : Option Addr} {n cap : Nat} (h : n = 0) : Ints w (.slice a n cap) [] := by subst h; exact Or.inl ⟨rfl, _, _, rfl⟩
theorem beyond_ints {W w : World} {b off cap : Nat} {xs : List Int} (hb : Below W.heap.size W w) (h2 : xs.length ≤ cap) (h3 : b < W.heap.size) (H : ∀ (j : Nat), j < xs.length → W.cell? ⟨b, off + j, none⟩ = some (.int .i64 (xs.getD j 0))) :
    Ints w (.slice (some ⟨b, off + (min 3 (xs.length : Int)).toNat, none⟩) (xs.length - (min 3 (xs.length : Int)).toNat) (cap - (min 3 (xs.length : Int)).toNat)) (xs.drop 3) := by
  by_cases hl : xs.length ≤ 3
  · have e : xs.drop 3 = [] := List.drop_eq_nil_of_le hl
    have e2 : xs.length - (min 3 (xs.length : Int)).toNat = 0 := by omega
    rw [e, e2]
    exact Or.inl ⟨rfl, _, _, rfl⟩
  · have e2 : (min 3 (xs.length : Int)).toNat = 3 := by omega
    rw [e2]
    refine Or.inr ⟨b, off + 3, cap - 3, by rw [List.length_drop], by rw [List.length_drop]; omega, Nat.lt_of_lt_of_le h3 hb.size, fun j hj => ?_⟩
    rw [List.length_drop] at hj
    have := (hb.cell (p := ⟨b, off + (3 + j), none⟩) h3).trans (H (3 + j) (by omega))
    rw [← Nat.add_assoc] at this
    rw [this]
    congr 2
    simp [List.getD, List.getElem?_drop]
set_option maxHeartbeats 4000000 in
set_option maxRecDepth 100000 in
theorem valuesBeyond_any (id : Int) (vv : Value) (xs : List Int) (w : World) (h : Ints w vv xs) (hn : xs.length ≤ 1048576) :
    Calls Try.prog 149 #[.agg #[.int .i64 id, vv]] w fun e w' => ∃ u, e = .returned u ∧ Ints w' u (xs.drop 3) ∧ Below w.heap.size w w' := by
  rcases h with ⟨rfl, a, cap, rfl⟩ | ⟨b, off, cap, rfl, h2, h3, h4⟩
  · go_enter Try.func149, Try.ntmps149
    go_wp2
    all_goals
      go_ret
      exact ⟨_, rfl, Or.inl ⟨rfl, _, _, rfl⟩, (Below.refl _ w).alloc (Nat.le_refl _) _⟩
  · have H := Lib.hid h4
    clear h4
    go_enter Try.func149, Try.ntmps149
    go_wp2
    · go_ret
      have e : xs.drop 3 = [] := List.drop_eq_nil_of_le (by omega)
      have e2 : xs.length - (min 3 (xs.length : Int)).toNat = 0 := by omega
      refine ⟨_, rfl, ?_, (Below.refl _ w).alloc (Nat.le_refl _) _⟩
      rw [e]
      exact ints_zero e2
    · go_ret
      exact ⟨_, rfl, beyond_ints ((Below.refl _ w).alloc (Nat.le_refl _) _) h2 h3 H.out, (Below.refl _ w).alloc (Nat.le_refl _) _⟩
theorem row_eq_parts (id id2 : Int) (xs ys : List Int) : decide (((id, xs) : RowD) = (id2, ys)) = ((id == id2 && (xs.length : Int) == (ys.length : Int) && (xs.getD 0 0 == ys.getD 0 0 && xs.getD 1 0 == ys.getD 1 0 && xs.getD 2 0 == ys.getD 2 0)) && decide (xs.drop 3 = ys.drop 3)) := by
  rw [Bool.eq_iff_iff]
  simp only [Bool.and_eq_true, decide_eq_true_eq, beq_iff_eq, Prod.mk.injEq]
  constructor
  · rintro ⟨rfl, rfl⟩
    exact ⟨⟨⟨rfl, rfl⟩, ⟨rfl, rfl⟩, rfl⟩, rfl⟩
  · rintro ⟨⟨⟨rfl, hl⟩, ⟨h0, h1⟩, h2⟩, h3⟩
    refine ⟨rfl, ?_⟩
    have hl' : xs.length = ys.length := by omega
    match xs, ys, hl', h0, h1, h2, h3 with
    | [], [], _, _, _, _, _ => rfl
    | [x], [y], _, h0, _, _, _ => simp at h0; rw [h0]
    | [x, x2], [y, y2], _, h0, h1, _, _ => simp at h0 h1; rw [h0, h1]
    | x :: x2 :: x3 :: r, y :: y2 :: y3 :: q, _, h0, h1, h2, h3 => simp at h0 h1 h2 h3; rw [h0, h1, h2, h3]
    | [], _ :: _, h, _, _, _, _ => simp at h
    | _ :: _, [], h, _, _, _, _ => simp at h
    | [_], _ :: _ :: _, h, _, _, _, _ => simp at h
    | _ :: _ :: _, [_], h, _, _, _, _ => simp at h
    | [_, _], _ :: _ :: _ :: _, h, _, _, _, _ => simp at h
    | _ :: _ :: _ :: _, [_, _], h, _, _, _, _ => simp at h
theorem box2 {W w : World} {g : Nat} {i j x y : Value} (g0 : W.heap[g]? = some (.cells #[i, x] 76 (0, 0))) (g1 : W.heap[g + 1]? = some (.cells #[j, y] 76 (0, 0))) (hz : g + 1 < W.heap.size) (hb : Below W.heap.size W w) :
    w.cell? ⟨g, 0, none⟩ = some i ∧ w.cell? ⟨g, 1, none⟩ = some x ∧ w.cell? ⟨g + 1, 0, none⟩ = some j ∧ w.cell? ⟨g + 1, 1, none⟩ = some y := by
  have h0 := (hb.block g (by omega)).trans g0
  have h1 := (hb.block (g + 1) hz).trans g1
  have a0 := cell_of_row w _ 0 _ _ _ h0
  have a1 := cell_of_row w _ 1 _ _ _ h0
  have a2 := cell_of_row w _ 0 _ _ _ h1
  have a3 := cell_of_row w _ 1 _ _ _ h1
  simp at a0 a1 a2 a3
  exact ⟨a0, a1, a2, a3⟩
set_option maxHeartbeats 8000000 in
set_option maxRecDepth 100000 in
theorem equalRow_any (id id2 : Int) (v u : Value) (xs ys : List Int) (w : World) (h : Ints w v xs) (g : Ints w u ys) (hn : xs.length ≤ 1048576) (hm : ys.length ≤ 1048576) :
    Calls Try.prog 138 #[.agg #[.int .i64 id, v], .agg #[.int .i64 id2, u]] w fun e w' => e = .returned (.bool (decide (((id, xs) : RowD) = (id2, ys)))) ∧ Below w.heap.size w w' := by
  have HP := Lib.hid (row_eq_parts id id2 xs ys)
  have HR1 := Lib.hid (fun w h => recordOf_any id v xs w h hn)
  have HR2 := Lib.hid (fun w h => recordOf_any id2 u ys w h hm)
  have HB1 := Lib.hid (fun w h => valuesBeyond_any id v xs w h hn)
  have HB2 := Lib.hid (fun w h => valuesBeyond_any id2 u ys w h hm)
  have HE := Lib.hid (fun w p q h g => equalInts p q (xs.drop 3) (ys.drop 3) w h g (by rw [List.length_drop]; omega) (by rw [List.length_drop]; omega))
  have HQ := Lib.hid (fun w => eql_rec id xs.length (xs.getD 0 0) (xs.getD 1 0) (xs.getD 2 0) id2 ys.length (ys.getD 0 0) (ys.getD 1 0) (ys.getD 2 0) w)
  have hgd := fun (o1 o2 : Operand) (xs ys : Array Value) (w : World) => guard_rec o1 o2 xs ys w
  have HV := Lib.hid h
  have HU := Lib.hid g
  unfold recV at HR1 HR2
  obtain ⟨a, cap, rfl⟩ := ints_len h
  obtain ⟨a2, cap2, rfl⟩ := ints_len g
  clear h g hn hm
  generalize xs.getD 0 0 = x0 at *
  generalize xs.getD 1 0 = x1 at *
  generalize xs.getD 2 0 = x2 at *
  generalize ys.getD 0 0 = y0 at *
  generalize ys.getD 1 0 = y1 at *
  generalize ys.getD 2 0 = y2 at *
  generalize decide (((id, xs) : RowD) = (id2, ys)) = r at *
  generalize decide (xs.drop 3 = ys.drop 3) = r2 at *
  generalize (id == id2 && (xs.length : Int) == (ys.length : Int) && (x0 == y0 && x1 == y1 && x2 == y2)) = r1 at *
  have hq := HQ.out
  clear HQ
  cases r1 with
  | false =>
    have HF : Hid (r = false) := Lib.hid (by rw [HP.out]; simp)
    clear HP
    go_enter Try.func138, Try.ntmps138
    go_wp2
    have hh : Below w.heap.size w ((w.alloc (.cells #[.int .i64 id, .slice a xs.length cap] 76)).alloc (.cells #[.int .i64 id2, .slice a2 ys.length cap2] 76)) := ((Below.refl _ w).alloc (Nat.le_refl _) _).alloc (by simp) _
    have g1 : ((w.alloc (.cells #[.int .i64 id, .slice a xs.length cap] 76)).alloc (.cells #[.int .i64 id2, .slice a2 ys.length cap2] 76)).heap[w.heap.size + 1]? = some (.cells #[.int .i64 id2, .slice a2 ys.length cap2] 76 (0, 0)) := by
      have := heap_alloc_new (w.alloc (.cells #[.int .i64 id, .slice a xs.length cap] 76)) (.cells #[.int .i64 id2, .slice a2 ys.length cap2] 76)
      simpa only [World.size_alloc] using this
    have g0 : ((w.alloc (.cells #[.int .i64 id, .slice a xs.length cap] 76)).alloc (.cells #[.int .i64 id2, .slice a2 ys.length cap2] 76)).heap[w.heap.size]? = some (.cells #[.int .i64 id, .slice a xs.length cap] 76 (0, 0)) := by
      rw [Below.heap_alloc _ _ _ (by simp)]
      exact heap_alloc_new w _
    have hz1 : w.heap.size + 1 < ((w.alloc (.cells #[.int .i64 id, .slice a xs.length cap] 76)).alloc (.cells #[.int .i64 id2, .slice a2 ys.length cap2] 76)).heap.size := by simp
    generalize ((w.alloc (.cells #[.int .i64 id, .slice a xs.length cap] 76)).alloc (.cells #[.int .i64 id2, .slice a2 ys.length cap2] 76)) = W at *
    have z1 := box2 g0 g1 hz1 (Below.refl _ W)
    refine wp_region_held_drew (S := fun w' => w'.cell? ⟨w.heap.size, 0, none⟩ = some (.int .i64 id) ∧ w'.cell? ⟨w.heap.size, 1, none⟩ = some (.slice a xs.length cap) ∧ w'.cell? ⟨w.heap.size + 1, 0, none⟩ = some (.int .i64 id2) ∧ w'.cell? ⟨w.heap.size + 1, 1, none⟩ = some (.slice a2 ys.length cap2)) (by kernel_rfl) ⟨z1.1, z1.2.1, z1.2.2.1, z1.2.2.2⟩ (fun hHeld => ?_)
    have cD : Below W.heap.size W W.drew := below_drew (Below.refl _ W)
    refine take_runs (i := 0) (v := ?_) (by simp only [List.getElem?_toArray, List.getElem?_cons_succ, List.getElem?_cons_zero]; rfl) (by kernel_rfl) (by kernel_rfl) (by kernel_rfl) rfl (by exact fun _ _ _ h => h) (by rfl) ?_ (by assumption) ?_
    rotate_left
    · intro w hSw; (try dsimp only at hSw); go_simp; try (with_reducible rfl)
    try simp only [Act.put, List.setIfInBounds_toArray, List.set_cons_zero, List.set_cons_succ]
    refine take_runs (i := 2) (v := ?_) (by simp only [List.getElem?_toArray, List.getElem?_cons_succ, List.getElem?_cons_zero]; rfl) (by kernel_rfl) (by kernel_rfl) (by kernel_rfl) rfl (by exact fun _ _ _ h => h) (by rfl) ?_ (by assumption) ?_
    rotate_left
    · intro w hSw; (try dsimp only at hSw); go_simp; try (with_reducible rfl)
    try simp only [Act.put, List.setIfInBounds_toArray, List.set_cons_zero, List.set_cons_succ]
    refine wpAnyH_ready (rs := [1]) (by kernel_rfl) (by simp) ?_
    refine AllReadyH.cons (o := _) (by simp only [List.getElem?_toArray, List.getElem?_cons_succ, List.getElem?_cons_zero]; rfl) (fun K hK => ?_) AllReadyH.nil
    go_simp
    refine (HR1.out _ (ints_below HV.out (hh.trans (cD.mono hh.size)))).mono ?_
    rintro e w1 ⟨rfl, bw1⟩
    have cw1 := cD.trans (bw1.mono cD.size)
    have z2 := box2 g0 g1 hz1 cw1
    refine hK.out _ _ ⟨z2.1, z2.2.1, z2.2.2.1, z2.2.2.2⟩ (fun hHeld => ?_)
    clear hK K
    try simp only [Act.put, List.setIfInBounds_toArray, List.set_cons_zero, List.set_cons_succ]
    refine wpAnyH_ready (rs := [3]) (by kernel_rfl) (by simp) ?_
    refine AllReadyH.cons (o := _) (by simp only [List.getElem?_toArray, List.getElem?_cons_succ, List.getElem?_cons_zero]; rfl) (fun K hK => ?_) AllReadyH.nil
    go_simp
    refine (HR2.out _ (ints_below HU.out (hh.trans (cw1.mono hh.size)))).mono ?_
    rintro e w2 ⟨rfl, bw2⟩
    have cw2 := cw1.trans (bw2.mono cw1.size)
    have z3 := box2 g0 g1 hz1 cw2
    refine hK.out _ _ ⟨z3.1, z3.2.1, z3.2.2.1, z3.2.2.2⟩ (fun hHeld => ?_)
    clear hK K
    try simp only [Act.put, List.setIfInBounds_toArray, List.set_cons_zero, List.set_cons_succ]
    refine take_runs (i := 4) (v := ?_) (by simp only [List.getElem?_toArray, List.getElem?_cons_succ, List.getElem?_cons_zero]; rfl) (by kernel_rfl) (by kernel_rfl) (by kernel_rfl) rfl (by exact fun _ _ _ h => h) (by rfl) ?_ (by assumption) ?_
    rotate_left
    · intro w hSw; (try dsimp only at hSw); go_simp; try (with_reducible rfl)
    try simp only [Act.put, List.setIfInBounds_toArray, List.set_cons_zero, List.set_cons_succ]
    refine take_runs (i := 5) (v := ?_) (by simp only [List.getElem?_toArray, List.getElem?_cons_succ, List.getElem?_cons_zero]; rfl) (by kernel_rfl) (by kernel_rfl) (by kernel_rfl) rfl (by exact fun _ _ _ h => h) (by rfl) ?_ (by assumption) ?_
    rotate_left
    · intro w hSw; (try dsimp only at hSw); go_simp; try (with_reducible rfl)
    try simp only [Act.put, List.setIfInBounds_toArray, List.set_cons_zero, List.set_cons_succ]
    refine take_over (i := 6) (by simp only [List.getElem?_toArray, List.getElem?_cons_succ, List.getElem?_cons_zero]; rfl) (by kernel_rfl) (by kernel_rfl) (by kernel_rfl) rfl (by exact fun _ _ _ h => h) (by rfl) (by assumption) ?_
    try simp only [Act.put, List.setIfInBounds_toArray, List.set_cons_zero, List.set_cons_succ]
    refine take_over (i := 7) (by simp only [List.getElem?_toArray, List.getElem?_cons_succ, List.getElem?_cons_zero]; rfl) (by kernel_rfl) (by kernel_rfl) (by kernel_rfl) rfl (by exact fun _ _ _ h => h) (by rfl) (by assumption) ?_
    try simp only [Act.put, List.setIfInBounds_toArray, List.set_cons_zero, List.set_cons_succ]
    refine take_over (i := 8) (by simp only [List.getElem?_toArray, List.getElem?_cons_succ, List.getElem?_cons_zero]; rfl) (by kernel_rfl) (by kernel_rfl) (by kernel_rfl) rfl (by exact fun _ _ _ h => h) (by rfl) (by assumption) ?_
    try simp only [Act.put, List.setIfInBounds_toArray, List.set_cons_zero, List.set_cons_succ]
    refine take_over (i := 9) (by simp only [List.getElem?_toArray, List.getElem?_cons_succ, List.getElem?_cons_zero]; rfl) (by kernel_rfl) (by kernel_rfl) (by kernel_rfl) rfl (by exact fun _ _ _ h => h) (by rfl) (by assumption) ?_
    try simp only [Act.put, List.setIfInBounds_toArray, List.set_cons_zero, List.set_cons_succ]
    refine take_over (i := 10) (by simp only [List.getElem?_toArray, List.getElem?_cons_succ, List.getElem?_cons_zero]; rfl) (by kernel_rfl) (by kernel_rfl) (by kernel_rfl) rfl (by exact fun _ _ _ h => h) (by rfl) (by assumption) ?_
    try simp only [Act.put, List.setIfInBounds_toArray, List.set_cons_zero, List.set_cons_succ]
    refine take_runs (i := 11) (v := ?_) (by simp only [List.getElem?_toArray, List.getElem?_cons_succ, List.getElem?_cons_zero]; rfl) (by kernel_rfl) (by kernel_rfl) (by kernel_rfl) rfl (by exact fun _ _ _ h => h) (by rfl) ?_ (by assumption) ?_
    rotate_left
    · intro w hSw; (try dsimp only at hSw); go_simp; try (with_reducible rfl)
    try simp only [Act.put, List.setIfInBounds_toArray, List.set_cons_zero, List.set_cons_succ]
    refine take_runs (i := 12) (v := ?_) (by simp only [List.getElem?_toArray, List.getElem?_cons_succ, List.getElem?_cons_zero]; rfl) (by kernel_rfl) (by kernel_rfl) (by kernel_rfl) rfl (by exact fun _ _ _ h => h) (by rfl) ?_ (by assumption) ?_
    rotate_left
    · intro w hSw; (try dsimp only at hSw); go_simp; try (with_reducible rfl)
    try simp only [Act.put, List.setIfInBounds_toArray, List.set_cons_zero, List.set_cons_succ]
    refine wpAnyH_done (by kernel_rfl) ?_ _
    have b11 := hh.trans (cw2.mono hh.size)
    go_wp2
    go_ret
    exact ⟨ret_b HF.out.symm, b11⟩
  | true =>
    have HF : Hid (r = r2) := Lib.hid (by rw [HP.out]; simp)
    clear HP
    go_enter Try.func138, Try.ntmps138
    go_wp2
    have hh : Below w.heap.size w ((w.alloc (.cells #[.int .i64 id, .slice a xs.length cap] 76)).alloc (.cells #[.int .i64 id2, .slice a2 ys.length cap2] 76)) := ((Below.refl _ w).alloc (Nat.le_refl _) _).alloc (by simp) _
    have g1 : ((w.alloc (.cells #[.int .i64 id, .slice a xs.length cap] 76)).alloc (.cells #[.int .i64 id2, .slice a2 ys.length cap2] 76)).heap[w.heap.size + 1]? = some (.cells #[.int .i64 id2, .slice a2 ys.length cap2] 76 (0, 0)) := by
      have := heap_alloc_new (w.alloc (.cells #[.int .i64 id, .slice a xs.length cap] 76)) (.cells #[.int .i64 id2, .slice a2 ys.length cap2] 76)
      simpa only [World.size_alloc] using this
    have g0 : ((w.alloc (.cells #[.int .i64 id, .slice a xs.length cap] 76)).alloc (.cells #[.int .i64 id2, .slice a2 ys.length cap2] 76)).heap[w.heap.size]? = some (.cells #[.int .i64 id, .slice a xs.length cap] 76 (0, 0)) := by
      rw [Below.heap_alloc _ _ _ (by simp)]
      exact heap_alloc_new w _
    have hz1 : w.heap.size + 1 < ((w.alloc (.cells #[.int .i64 id, .slice a xs.length cap] 76)).alloc (.cells #[.int .i64 id2, .slice a2 ys.length cap2] 76)).heap.size := by simp
    generalize ((w.alloc (.cells #[.int .i64 id, .slice a xs.length cap] 76)).alloc (.cells #[.int .i64 id2, .slice a2 ys.length cap2] 76)) = W at *
    have z1 := box2 g0 g1 hz1 (Below.refl _ W)
    refine wp_region_held_drew (S := fun w' => w'.cell? ⟨w.heap.size, 0, none⟩ = some (.int .i64 id) ∧ w'.cell? ⟨w.heap.size, 1, none⟩ = some (.slice a xs.length cap) ∧ w'.cell? ⟨w.heap.size + 1, 0, none⟩ = some (.int .i64 id2) ∧ w'.cell? ⟨w.heap.size + 1, 1, none⟩ = some (.slice a2 ys.length cap2)) (by kernel_rfl) ⟨z1.1, z1.2.1, z1.2.2.1, z1.2.2.2⟩ (fun hHeld => ?_)
    have cD : Below W.heap.size W W.drew := below_drew (Below.refl _ W)
    refine take_runs (i := 0) (v := ?_) (by simp only [List.getElem?_toArray, List.getElem?_cons_succ, List.getElem?_cons_zero]; rfl) (by kernel_rfl) (by kernel_rfl) (by kernel_rfl) rfl (by exact fun _ _ _ h => h) (by rfl) ?_ (by assumption) ?_
    rotate_left
    · intro w hSw; (try dsimp only at hSw); go_simp; try (with_reducible rfl)
    try simp only [Act.put, List.setIfInBounds_toArray, List.set_cons_zero, List.set_cons_succ]
    refine take_runs (i := 2) (v := ?_) (by simp only [List.getElem?_toArray, List.getElem?_cons_succ, List.getElem?_cons_zero]; rfl) (by kernel_rfl) (by kernel_rfl) (by kernel_rfl) rfl (by exact fun _ _ _ h => h) (by rfl) ?_ (by assumption) ?_
    rotate_left
    · intro w hSw; (try dsimp only at hSw); go_simp; try (with_reducible rfl)
    try simp only [Act.put, List.setIfInBounds_toArray, List.set_cons_zero, List.set_cons_succ]
    refine wpAnyH_ready (rs := [1]) (by kernel_rfl) (by simp) ?_
    refine AllReadyH.cons (o := _) (by simp only [List.getElem?_toArray, List.getElem?_cons_succ, List.getElem?_cons_zero]; rfl) (fun K hK => ?_) AllReadyH.nil
    go_simp
    refine (HR1.out _ (ints_below HV.out (hh.trans (cD.mono hh.size)))).mono ?_
    rintro e w1 ⟨rfl, bw1⟩
    have cw1 := cD.trans (bw1.mono cD.size)
    have z2 := box2 g0 g1 hz1 cw1
    refine hK.out _ _ ⟨z2.1, z2.2.1, z2.2.2.1, z2.2.2.2⟩ (fun hHeld => ?_)
    clear hK K
    try simp only [Act.put, List.setIfInBounds_toArray, List.set_cons_zero, List.set_cons_succ]
    refine wpAnyH_ready (rs := [3]) (by kernel_rfl) (by simp) ?_
    refine AllReadyH.cons (o := _) (by simp only [List.getElem?_toArray, List.getElem?_cons_succ, List.getElem?_cons_zero]; rfl) (fun K hK => ?_) AllReadyH.nil
    go_simp
    refine (HR2.out _ (ints_below HU.out (hh.trans (cw1.mono hh.size)))).mono ?_
    rintro e w2 ⟨rfl, bw2⟩
    have cw2 := cw1.trans (bw2.mono cw1.size)
    have z3 := box2 g0 g1 hz1 cw2
    refine hK.out _ _ ⟨z3.1, z3.2.1, z3.2.2.1, z3.2.2.2⟩ (fun hHeld => ?_)
    clear hK K
    try simp only [Act.put, List.setIfInBounds_toArray, List.set_cons_zero, List.set_cons_succ]
    refine take_runs (i := 4) (v := ?_) (by simp only [List.getElem?_toArray, List.getElem?_cons_succ, List.getElem?_cons_zero]; rfl) (by kernel_rfl) (by kernel_rfl) (by kernel_rfl) rfl (by exact fun _ _ _ h => h) (by rfl) ?_ (by assumption) ?_
    rotate_left
    · intro w hSw; (try dsimp only at hSw); go_simp; try (with_reducible rfl)
    try simp only [Act.put, List.setIfInBounds_toArray, List.set_cons_zero, List.set_cons_succ]
    refine take_runs (i := 5) (v := ?_) (by simp only [List.getElem?_toArray, List.getElem?_cons_succ, List.getElem?_cons_zero]; rfl) (by kernel_rfl) (by kernel_rfl) (by kernel_rfl) rfl (by exact fun _ _ _ h => h) (by rfl) ?_ (by assumption) ?_
    rotate_left
    · intro w hSw; (try dsimp only at hSw); go_simp; try (with_reducible rfl)
    try simp only [Act.put, List.setIfInBounds_toArray, List.set_cons_zero, List.set_cons_succ]
    refine take_runs (i := 6) (v := ?_) (by simp only [List.getElem?_toArray, List.getElem?_cons_succ, List.getElem?_cons_zero]; rfl) (by kernel_rfl) (by kernel_rfl) (by kernel_rfl) rfl (by exact fun _ _ _ h => h) (by rfl) ?_ (by assumption) ?_
    rotate_left
    · intro w hSw; (try dsimp only at hSw); go_simp; try (with_reducible rfl)
    try simp only [Act.put, List.setIfInBounds_toArray, List.set_cons_zero, List.set_cons_succ]
    refine take_runs (i := 8) (v := ?_) (by simp only [List.getElem?_toArray, List.getElem?_cons_succ, List.getElem?_cons_zero]; rfl) (by kernel_rfl) (by kernel_rfl) (by kernel_rfl) rfl (by exact fun _ _ _ h => h) (by rfl) ?_ (by assumption) ?_
    rotate_left
    · intro w hSw; (try dsimp only at hSw); go_simp; try (with_reducible rfl)
    try simp only [Act.put, List.setIfInBounds_toArray, List.set_cons_zero, List.set_cons_succ]
    refine wpAnyH_ready (rs := [7]) (by kernel_rfl) (by simp) ?_
    refine AllReadyH.cons (o := _) (by simp only [List.getElem?_toArray, List.getElem?_cons_succ, List.getElem?_cons_zero]; rfl) (fun K hK => ?_) AllReadyH.nil
    go_simp
    refine (HB1.out _ (ints_below HV.out (hh.trans (cw2.mono hh.size)))).mono ?_
    rintro e w3 ⟨xw3, rfl, iw3, bw3⟩
    have cw3 := cw2.trans (bw3.mono cw2.size)
    have z4 := box2 g0 g1 hz1 cw3
    refine hK.out _ _ ⟨z4.1, z4.2.1, z4.2.2.1, z4.2.2.2⟩ (fun hHeld => ?_)
    clear hK K
    try simp only [Act.put, List.setIfInBounds_toArray, List.set_cons_zero, List.set_cons_succ]
    refine wpAnyH_ready (rs := [9]) (by kernel_rfl) (by simp) ?_
    refine AllReadyH.cons (o := _) (by simp only [List.getElem?_toArray, List.getElem?_cons_succ, List.getElem?_cons_zero]; rfl) (fun K hK => ?_) AllReadyH.nil
    go_simp
    refine (HB2.out _ (ints_below HU.out (hh.trans (cw3.mono hh.size)))).mono ?_
    rintro e w4 ⟨xw4, rfl, iw4, bw4⟩
    have cw4 := cw3.trans (bw4.mono cw3.size)
    have z5 := box2 g0 g1 hz1 cw4
    refine hK.out _ _ ⟨z5.1, z5.2.1, z5.2.2.1, z5.2.2.2⟩ (fun hHeld => ?_)
    clear hK K
    try simp only [Act.put, List.setIfInBounds_toArray, List.set_cons_zero, List.set_cons_succ]
    refine wpAnyH_ready (rs := [10]) (by kernel_rfl) (by simp) ?_
    refine AllReadyH.cons (o := _) (by simp only [List.getElem?_toArray, List.getElem?_cons_succ, List.getElem?_cons_zero]; rfl) (fun K hK => ?_) AllReadyH.nil
    go_simp
    refine (HE.out _ xw3 xw4 (ints_below iw3 bw4) iw4).mono ?_
    rintro e w5 ⟨rfl, bw5⟩
    have cw5 := cw4.trans (bw5.mono cw4.size)
    have z6 := box2 g0 g1 hz1 cw5
    refine hK.out _ _ ⟨z6.1, z6.2.1, z6.2.2.1, z6.2.2.2⟩ (fun hHeld => ?_)
    clear hK K
    try simp only [Act.put, List.setIfInBounds_toArray, List.set_cons_zero, List.set_cons_succ]
    refine take_runs (i := 11) (v := ?_) (by simp only [List.getElem?_toArray, List.getElem?_cons_succ, List.getElem?_cons_zero]; rfl) (by kernel_rfl) (by kernel_rfl) (by kernel_rfl) rfl (by exact fun _ _ _ h => h) (by rfl) ?_ (by assumption) ?_
    rotate_left
    · intro w hSw; (try dsimp only at hSw); go_simp; try (with_reducible rfl)
    try simp only [Act.put, List.setIfInBounds_toArray, List.set_cons_zero, List.set_cons_succ]
    refine take_runs (i := 12) (v := ?_) (by simp only [List.getElem?_toArray, List.getElem?_cons_succ, List.getElem?_cons_zero]; rfl) (by kernel_rfl) (by kernel_rfl) (by kernel_rfl) rfl (by exact fun _ _ _ h => h) (by rfl) ?_ (by assumption) ?_
    rotate_left
    · intro w hSw; (try dsimp only at hSw); go_simp; try (with_reducible rfl)
    try simp only [Act.put, List.setIfInBounds_toArray, List.set_cons_zero, List.set_cons_succ]
    refine wpAnyH_done (by kernel_rfl) ?_ _
    have b11 := hh.trans (cw5.mono hh.size)
    go_wp2
    go_ret
    exact ⟨ret_b HF.out.symm, b11⟩
end Go.Proofs.Ytginjmnohnidiaa
namespace Go.Proofs.Ytginjmnohnidiaa
open Go.RowKit
set_option linter.unusedVariables false
set_option linter.unusedSimpArgs false
set_option maxHeartbeats 8000000 in
set_option maxRecDepth 100000 in
theorem equalVersion_any (id id2 born born2 died died2 : Int) (v u : Value) (xs ys : List Int) (w : World) (h : Ints w v xs) (g : Ints w u ys) (hn : xs.length ≤ 1048576) (hm : ys.length ≤ 1048576) :
    Calls Try.prog 117 #[.agg #[.int .i64 id, v, .int .i64 born, .int .i64 died], .agg #[.int .i64 id2, u, .int .i64 born2, .int .i64 died2]] w fun e w' => e = .returned (.bool (decide (((id, xs, born, died) : VerD) = (id2, ys, born2, died2)))) ∧ Below w.heap.size w w' := by
  obtain ⟨xa, xc, rfl⟩ := ints_len h
  obtain ⟨ya, yc, rfl⟩ := ints_len g
  have HER := Lib.hid (fun W h g => equalRow_any id id2 (.slice xa xs.length xc) (.slice ya ys.length yc) xs ys W h g hn hm)
  have HR1 := Lib.hid (verRow_any id born died xa xs.length xc)
  have HR2 := Lib.hid (verRow_any id2 born2 died2 ya ys.length yc)
  have d := Lib.hid (show Below w.heap.size w ((w.alloc (.cells #[.int .i64 id, .slice xa xs.length xc, .int .i64 born, .int .i64 died] 62)).alloc (.cells #[.int .i64 id2, .slice ya ys.length yc, .int .i64 born2, .int .i64 died2] 62)) from ((Below.refl _ _).alloc (Nat.le_refl _) _).alloc (by simp) _)
  have B1 : Hid (((w.alloc (.cells #[.int .i64 id, .slice xa xs.length xc, .int .i64 born, .int .i64 died] 62)).alloc (.cells #[.int .i64 id2, .slice ya ys.length yc, .int .i64 born2, .int .i64 died2] 62)).heap[w.heap.size + 1]? = some (.cells #[.int .i64 id2, .slice ya ys.length yc, .int .i64 born2, .int .i64 died2] 62 (0, 0))) := Lib.hid (by
    have := heap_alloc_new (w.alloc (.cells #[.int .i64 id, .slice xa xs.length xc, .int .i64 born, .int .i64 died] 62)) (.cells #[.int .i64 id2, .slice ya ys.length yc, .int .i64 born2, .int .i64 died2] 62)
    simpa only [World.size_alloc] using this)
  have B0 : Hid (((w.alloc (.cells #[.int .i64 id, .slice xa xs.length xc, .int .i64 born, .int .i64 died] 62)).alloc (.cells #[.int .i64 id2, .slice ya ys.length yc, .int .i64 born2, .int .i64 died2] 62)).heap[w.heap.size]? = some (.cells #[.int .i64 id, .slice xa xs.length xc, .int .i64 born, .int .i64 died] 62 (0, 0))) := Lib.hid (by
    rw [Below.heap_alloc _ _ _ (by simp)]
    exact heap_alloc_new w _)
  have HX := Lib.hid h
  have HY := Lib.hid g
  clear h g hn hm
  by_cases q2 : born = born2
  rotate_left
  · have e1 : (born == born2) = false := by simp [q2]
    have HD : Hid (decide (((id, xs, born, died) : VerD) = (id2, ys, born2, died2)) = false) := Lib.hid (decide_eq_false (fun e => q2 (Prod.mk.inj (Prod.mk.inj (Prod.mk.inj e).2).2).1))
    rw [HD.out]
    clear q2
    go_enter Try.func117, Try.ntmps117
    go_wp2
    generalize ((w.alloc (.cells #[.int .i64 id, .slice xa xs.length xc, .int .i64 born, .int .i64 died] 62)).alloc (.cells #[.int .i64 id2, .slice ya ys.length yc, .int .i64 born2, .int .i64 died2] 62)) = W at *
    have p_B0_0 := (cell_of_row W _ 0 _ _ _ B0.out).trans (show _ = some (Value.int .i64 id) from rfl)
    have p_B0_1 := (cell_of_row W _ 1 _ _ _ B0.out).trans (show _ = some (Value.slice xa xs.length xc) from rfl)
    have p_B0_2 := (cell_of_row W _ 2 _ _ _ B0.out).trans (show _ = some (Value.int .i64 born) from rfl)
    have p_B0_3 := (cell_of_row W _ 3 _ _ _ B0.out).trans (show _ = some (Value.int .i64 died) from rfl)
    have p_B1_0 := (cell_of_row W _ 0 _ _ _ B1.out).trans (show _ = some (Value.int .i64 id2) from rfl)
    have p_B1_1 := (cell_of_row W _ 1 _ _ _ B1.out).trans (show _ = some (Value.slice ya ys.length yc) from rfl)
    have p_B1_2 := (cell_of_row W _ 2 _ _ _ B1.out).trans (show _ = some (Value.int .i64 born2) from rfl)
    have p_B1_3 := (cell_of_row W _ 3 _ _ _ B1.out).trans (show _ = some (Value.int .i64 died2) from rfl)
    refine wp_region_held_drew (S := fun w' => w'.cell? ⟨w.heap.size, 0, none⟩ = some (Value.int .i64 id) ∧ w'.cell? ⟨w.heap.size, 1, none⟩ = some (Value.slice xa xs.length xc) ∧ w'.cell? ⟨w.heap.size, 2, none⟩ = some (Value.int .i64 born) ∧ w'.cell? ⟨w.heap.size, 3, none⟩ = some (Value.int .i64 died) ∧ w'.cell? ⟨(w.heap.size + 1), 0, none⟩ = some (Value.int .i64 id2) ∧ w'.cell? ⟨(w.heap.size + 1), 1, none⟩ = some (Value.slice ya ys.length yc) ∧ w'.cell? ⟨(w.heap.size + 1), 2, none⟩ = some (Value.int .i64 born2) ∧ w'.cell? ⟨(w.heap.size + 1), 3, none⟩ = some (Value.int .i64 died2)) (by kernel_rfl) ⟨p_B0_0, p_B0_1, p_B0_2, p_B0_3, p_B1_0, p_B1_1, p_B1_2, p_B1_3⟩ (fun hHeld => ?_)
    clear p_B0_0 p_B0_1 p_B0_2 p_B0_3 p_B1_0 p_B1_1 p_B1_2 p_B1_3
    have cdr : Below W.heap.size W W.drew := below_drew (Below.refl _ _)
    replace B0 := Lib.hid ((cdr.block w.heap.size (Array.getElem?_eq_some_iff.1 B0.out).1).trans B0.out)
    replace B1 := Lib.hid ((cdr.block (w.heap.size + 1) (Array.getElem?_eq_some_iff.1 B1.out).1).trans B1.out)
    replace d := Lib.hid (d.out.trans (cdr.mono d.out.size))
    clear cdr
    refine take_runs (i := 0) (v := ?_) (by simp only [List.getElem?_toArray, List.getElem?_cons_succ, List.getElem?_cons_zero]; rfl) (by kernel_rfl) (by kernel_rfl) (by kernel_rfl) rfl (by exact fun _ _ _ h => h) (by rfl) ?_ (by assumption) ?_
    rotate_left
    · intro w hSw; (try dsimp only at hSw); go_simp; try (with_reducible rfl)
    try simp only [Act.put, List.setIfInBounds_toArray, List.set_cons_zero, List.set_cons_succ]
    refine take_runs (i := 1) (v := ?_) (by simp only [List.getElem?_toArray, List.getElem?_cons_succ, List.getElem?_cons_zero]; rfl) (by kernel_rfl) (by kernel_rfl) (by kernel_rfl) rfl (by exact fun _ _ _ h => h) (by rfl) ?_ (by assumption) ?_
    rotate_left
    · intro w hSw; (try dsimp only at hSw); go_simp; try (with_reducible rfl)
    try simp only [Act.put, List.setIfInBounds_toArray, List.set_cons_zero, List.set_cons_succ]
    refine take_runs (i := 2) (v := ?_) (by simp only [List.getElem?_toArray, List.getElem?_cons_succ, List.getElem?_cons_zero]; rfl) (by kernel_rfl) (by kernel_rfl) (by kernel_rfl) rfl (by exact fun _ _ _ h => h) (by rfl) ?_ (by assumption) ?_
    rotate_left
    · intro w hSw; (try dsimp only at hSw); go_simp; try (with_reducible rfl)
    try simp only [Act.put, List.setIfInBounds_toArray, List.set_cons_zero, List.set_cons_succ]
    refine take_runs (i := 3) (v := ?_) (by simp only [List.getElem?_toArray, List.getElem?_cons_succ, List.getElem?_cons_zero]; rfl) (by kernel_rfl) (by kernel_rfl) (by kernel_rfl) rfl (by exact fun _ _ _ h => h) (by rfl) ?_ (by assumption) ?_
    rotate_left
    · intro w hSw; (try dsimp only at hSw); go_simp; try (with_reducible rfl)
    try simp only [Act.put, List.setIfInBounds_toArray, List.set_cons_zero, List.set_cons_succ]
    refine take_runs (i := 4) (v := .bool false) (by simp only [List.getElem?_toArray, List.getElem?_cons_succ, List.getElem?_cons_zero]; rfl) (by kernel_rfl) (by kernel_rfl) (by kernel_rfl) rfl (by exact fun _ _ _ h => h) (by rfl) ?_ (by assumption) ?_
    · intro w hSw; (try dsimp only at hSw); go_simp; all_goals first | (with_reducible rfl) | (rw [e1]; done) | (simpa using e1) | (simp [e1]; done) | (simp; omega)
    try simp only [Act.put, List.setIfInBounds_toArray, List.set_cons_zero, List.set_cons_succ]
    refine take_runs (i := 5) (v := ?_) (by simp only [List.getElem?_toArray, List.getElem?_cons_succ, List.getElem?_cons_zero]; rfl) (by kernel_rfl) (by kernel_rfl) (by kernel_rfl) rfl (by exact fun _ _ _ h => h) (by rfl) ?_ (by assumption) ?_
    rotate_left
    · intro w hSw; (try dsimp only at hSw); go_simp; try (with_reducible rfl)
    try simp only [Act.put, List.setIfInBounds_toArray, List.set_cons_zero, List.set_cons_succ]
    refine take_over (i := 6) (by simp only [List.getElem?_toArray, List.getElem?_cons_succ, List.getElem?_cons_zero]; rfl) (by kernel_rfl) (by kernel_rfl) (by kernel_rfl) rfl (by exact fun _ _ _ h => h) (by rfl) (by assumption) ?_
    try simp only [Act.put, List.setIfInBounds_toArray, List.set_cons_zero, List.set_cons_succ]
    refine take_over (i := 7) (by simp only [List.getElem?_toArray, List.getElem?_cons_succ, List.getElem?_cons_zero]; rfl) (by kernel_rfl) (by kernel_rfl) (by kernel_rfl) rfl (by exact fun _ _ _ h => h) (by rfl) (by assumption) ?_
    try simp only [Act.put, List.setIfInBounds_toArray, List.set_cons_zero, List.set_cons_succ]
    refine take_over (i := 8) (by simp only [List.getElem?_toArray, List.getElem?_cons_succ, List.getElem?_cons_zero]; rfl) (by kernel_rfl) (by kernel_rfl) (by kernel_rfl) rfl (by exact fun _ _ _ h => h) (by rfl) (by assumption) ?_
    try simp only [Act.put, List.setIfInBounds_toArray, List.set_cons_zero, List.set_cons_succ]
    refine take_over (i := 9) (by simp only [List.getElem?_toArray, List.getElem?_cons_succ, List.getElem?_cons_zero]; rfl) (by kernel_rfl) (by kernel_rfl) (by kernel_rfl) rfl (by exact fun _ _ _ h => h) (by rfl) (by assumption) ?_
    try simp only [Act.put, List.setIfInBounds_toArray, List.set_cons_zero, List.set_cons_succ]
    refine take_over (i := 10) (by simp only [List.getElem?_toArray, List.getElem?_cons_succ, List.getElem?_cons_zero]; rfl) (by kernel_rfl) (by kernel_rfl) (by kernel_rfl) rfl (by exact fun _ _ _ h => h) (by rfl) (by assumption) ?_
    try simp only [Act.put, List.setIfInBounds_toArray, List.set_cons_zero, List.set_cons_succ]
    refine take_runs (i := 11) (v := ?_) (by simp only [List.getElem?_toArray, List.getElem?_cons_succ, List.getElem?_cons_zero]; rfl) (by kernel_rfl) (by kernel_rfl) (by kernel_rfl) rfl (by exact fun _ _ _ h => h) (by rfl) ?_ (by assumption) ?_
    rotate_left
    · intro w hSw; (try dsimp only at hSw); go_simp; try (with_reducible rfl)
    try simp only [Act.put, List.setIfInBounds_toArray, List.set_cons_zero, List.set_cons_succ]
    refine take_runs (i := 12) (v := ?_) (by simp only [List.getElem?_toArray, List.getElem?_cons_succ, List.getElem?_cons_zero]; rfl) (by kernel_rfl) (by kernel_rfl) (by kernel_rfl) rfl (by exact fun _ _ _ h => h) (by rfl) ?_ (by assumption) ?_
    rotate_left
    · intro w hSw; (try dsimp only at hSw); go_simp; try (with_reducible rfl)
    try simp only [Act.put, List.setIfInBounds_toArray, List.set_cons_zero, List.set_cons_succ]
    refine take_over (i := 13) (by simp only [List.getElem?_toArray, List.getElem?_cons_succ, List.getElem?_cons_zero]; rfl) (by kernel_rfl) (by kernel_rfl) (by kernel_rfl) rfl (by exact fun _ _ _ h => h) (by rfl) (by assumption) ?_
    try simp only [Act.put, List.setIfInBounds_toArray, List.set_cons_zero, List.set_cons_succ]
    refine take_over (i := 14) (by simp only [List.getElem?_toArray, List.getElem?_cons_succ, List.getElem?_cons_zero]; rfl) (by kernel_rfl) (by kernel_rfl) (by kernel_rfl) rfl (by exact fun _ _ _ h => h) (by rfl) (by assumption) ?_
    try simp only [Act.put, List.setIfInBounds_toArray, List.set_cons_zero, List.set_cons_succ]
    refine take_over (i := 15) (by simp only [List.getElem?_toArray, List.getElem?_cons_succ, List.getElem?_cons_zero]; rfl) (by kernel_rfl) (by kernel_rfl) (by kernel_rfl) rfl (by exact fun _ _ _ h => h) (by rfl) (by assumption) ?_
    try simp only [Act.put, List.setIfInBounds_toArray, List.set_cons_zero, List.set_cons_succ]
    refine take_over (i := 16) (by simp only [List.getElem?_toArray, List.getElem?_cons_succ, List.getElem?_cons_zero]; rfl) (by kernel_rfl) (by kernel_rfl) (by kernel_rfl) rfl (by exact fun _ _ _ h => h) (by rfl) (by assumption) ?_
    try simp only [Act.put, List.setIfInBounds_toArray, List.set_cons_zero, List.set_cons_succ]
    refine take_over (i := 17) (by simp only [List.getElem?_toArray, List.getElem?_cons_succ, List.getElem?_cons_zero]; rfl) (by kernel_rfl) (by kernel_rfl) (by kernel_rfl) rfl (by exact fun _ _ _ h => h) (by rfl) (by assumption) ?_
    try simp only [Act.put, List.setIfInBounds_toArray, List.set_cons_zero, List.set_cons_succ]
    refine take_runs (i := 18) (v := ?_) (by simp only [List.getElem?_toArray, List.getElem?_cons_succ, List.getElem?_cons_zero]; rfl) (by kernel_rfl) (by kernel_rfl) (by kernel_rfl) rfl (by exact fun _ _ _ h => h) (by rfl) ?_ (by assumption) ?_
    rotate_left
    · intro w hSw; (try dsimp only at hSw); go_simp; try (with_reducible rfl)
    try simp only [Act.put, List.setIfInBounds_toArray, List.set_cons_zero, List.set_cons_succ]
    refine take_runs (i := 19) (v := ?_) (by simp only [List.getElem?_toArray, List.getElem?_cons_succ, List.getElem?_cons_zero]; rfl) (by kernel_rfl) (by kernel_rfl) (by kernel_rfl) rfl (by exact fun _ _ _ h => h) (by rfl) ?_ (by assumption) ?_
    rotate_left
    · intro w hSw; (try dsimp only at hSw); go_simp; try (with_reducible rfl)
    try simp only [Act.put, List.setIfInBounds_toArray, List.set_cons_zero, List.set_cons_succ]
    refine wpAnyH_done (by kernel_rfl) ?_ _
    clear hHeld
    go_wp2
    go_ret
    exact ⟨rfl, d.out⟩
  have e1 : (born == born2) = true := by simp [q2]
  have Q2 := Lib.hid q2
  clear q2
  by_cases q3 : died = died2
  rotate_left
  · have e2 : (died == died2) = false := by simp [q3]
    have HD : Hid (decide (((id, xs, born, died) : VerD) = (id2, ys, born2, died2)) = false) := Lib.hid (decide_eq_false (fun e => q3 (Prod.mk.inj (Prod.mk.inj (Prod.mk.inj e).2).2).2))
    rw [HD.out]
    clear q3
    go_enter Try.func117, Try.ntmps117
    go_wp2
    generalize ((w.alloc (.cells #[.int .i64 id, .slice xa xs.length xc, .int .i64 born, .int .i64 died] 62)).alloc (.cells #[.int .i64 id2, .slice ya ys.length yc, .int .i64 born2, .int .i64 died2] 62)) = W at *
    have p_B0_0 := (cell_of_row W _ 0 _ _ _ B0.out).trans (show _ = some (Value.int .i64 id) from rfl)
    have p_B0_1 := (cell_of_row W _ 1 _ _ _ B0.out).trans (show _ = some (Value.slice xa xs.length xc) from rfl)
    have p_B0_2 := (cell_of_row W _ 2 _ _ _ B0.out).trans (show _ = some (Value.int .i64 born) from rfl)
    have p_B0_3 := (cell_of_row W _ 3 _ _ _ B0.out).trans (show _ = some (Value.int .i64 died) from rfl)
    have p_B1_0 := (cell_of_row W _ 0 _ _ _ B1.out).trans (show _ = some (Value.int .i64 id2) from rfl)
    have p_B1_1 := (cell_of_row W _ 1 _ _ _ B1.out).trans (show _ = some (Value.slice ya ys.length yc) from rfl)
    have p_B1_2 := (cell_of_row W _ 2 _ _ _ B1.out).trans (show _ = some (Value.int .i64 born2) from rfl)
    have p_B1_3 := (cell_of_row W _ 3 _ _ _ B1.out).trans (show _ = some (Value.int .i64 died2) from rfl)
    refine wp_region_held_drew (S := fun w' => w'.cell? ⟨w.heap.size, 0, none⟩ = some (Value.int .i64 id) ∧ w'.cell? ⟨w.heap.size, 1, none⟩ = some (Value.slice xa xs.length xc) ∧ w'.cell? ⟨w.heap.size, 2, none⟩ = some (Value.int .i64 born) ∧ w'.cell? ⟨w.heap.size, 3, none⟩ = some (Value.int .i64 died) ∧ w'.cell? ⟨(w.heap.size + 1), 0, none⟩ = some (Value.int .i64 id2) ∧ w'.cell? ⟨(w.heap.size + 1), 1, none⟩ = some (Value.slice ya ys.length yc) ∧ w'.cell? ⟨(w.heap.size + 1), 2, none⟩ = some (Value.int .i64 born2) ∧ w'.cell? ⟨(w.heap.size + 1), 3, none⟩ = some (Value.int .i64 died2)) (by kernel_rfl) ⟨p_B0_0, p_B0_1, p_B0_2, p_B0_3, p_B1_0, p_B1_1, p_B1_2, p_B1_3⟩ (fun hHeld => ?_)
    clear p_B0_0 p_B0_1 p_B0_2 p_B0_3 p_B1_0 p_B1_1 p_B1_2 p_B1_3
    have cdr : Below W.heap.size W W.drew := below_drew (Below.refl _ _)
    replace B0 := Lib.hid ((cdr.block w.heap.size (Array.getElem?_eq_some_iff.1 B0.out).1).trans B0.out)
    replace B1 := Lib.hid ((cdr.block (w.heap.size + 1) (Array.getElem?_eq_some_iff.1 B1.out).1).trans B1.out)
    replace d := Lib.hid (d.out.trans (cdr.mono d.out.size))
    clear cdr
    refine take_runs (i := 0) (v := ?_) (by simp only [List.getElem?_toArray, List.getElem?_cons_succ, List.getElem?_cons_zero]; rfl) (by kernel_rfl) (by kernel_rfl) (by kernel_rfl) rfl (by exact fun _ _ _ h => h) (by rfl) ?_ (by assumption) ?_
    rotate_left
    · intro w hSw; (try dsimp only at hSw); go_simp; try (with_reducible rfl)
    try simp only [Act.put, List.setIfInBounds_toArray, List.set_cons_zero, List.set_cons_succ]
    refine take_runs (i := 1) (v := ?_) (by simp only [List.getElem?_toArray, List.getElem?_cons_succ, List.getElem?_cons_zero]; rfl) (by kernel_rfl) (by kernel_rfl) (by kernel_rfl) rfl (by exact fun _ _ _ h => h) (by rfl) ?_ (by assumption) ?_
    rotate_left
    · intro w hSw; (try dsimp only at hSw); go_simp; try (with_reducible rfl)
    try simp only [Act.put, List.setIfInBounds_toArray, List.set_cons_zero, List.set_cons_succ]
    refine take_runs (i := 2) (v := ?_) (by simp only [List.getElem?_toArray, List.getElem?_cons_succ, List.getElem?_cons_zero]; rfl) (by kernel_rfl) (by kernel_rfl) (by kernel_rfl) rfl (by exact fun _ _ _ h => h) (by rfl) ?_ (by assumption) ?_
    rotate_left
    · intro w hSw; (try dsimp only at hSw); go_simp; try (with_reducible rfl)
    try simp only [Act.put, List.setIfInBounds_toArray, List.set_cons_zero, List.set_cons_succ]
    refine take_runs (i := 3) (v := ?_) (by simp only [List.getElem?_toArray, List.getElem?_cons_succ, List.getElem?_cons_zero]; rfl) (by kernel_rfl) (by kernel_rfl) (by kernel_rfl) rfl (by exact fun _ _ _ h => h) (by rfl) ?_ (by assumption) ?_
    rotate_left
    · intro w hSw; (try dsimp only at hSw); go_simp; try (with_reducible rfl)
    try simp only [Act.put, List.setIfInBounds_toArray, List.set_cons_zero, List.set_cons_succ]
    refine take_runs (i := 4) (v := .bool true) (by simp only [List.getElem?_toArray, List.getElem?_cons_succ, List.getElem?_cons_zero]; rfl) (by kernel_rfl) (by kernel_rfl) (by kernel_rfl) rfl (by exact fun _ _ _ h => h) (by rfl) ?_ (by assumption) ?_
    · intro w hSw; (try dsimp only at hSw); go_simp; all_goals first | (with_reducible rfl) | (rw [e1]; done) | (simpa using e1) | (simp [e1]; done) | (simp; omega)
    try simp only [Act.put, List.setIfInBounds_toArray, List.set_cons_zero, List.set_cons_succ]
    refine take_runs (i := 5) (v := ?_) (by simp only [List.getElem?_toArray, List.getElem?_cons_succ, List.getElem?_cons_zero]; rfl) (by kernel_rfl) (by kernel_rfl) (by kernel_rfl) rfl (by exact fun _ _ _ h => h) (by rfl) ?_ (by assumption) ?_
    rotate_left
    · intro w hSw; (try dsimp only at hSw); go_simp; try (with_reducible rfl)
    try simp only [Act.put, List.setIfInBounds_toArray, List.set_cons_zero, List.set_cons_succ]
    refine take_runs (i := 6) (v := ?_) (by simp only [List.getElem?_toArray, List.getElem?_cons_succ, List.getElem?_cons_zero]; rfl) (by kernel_rfl) (by kernel_rfl) (by kernel_rfl) rfl (by exact fun _ _ _ h => h) (by rfl) ?_ (by assumption) ?_
    rotate_left
    · intro w hSw; (try dsimp only at hSw); go_simp; try (with_reducible rfl)
    try simp only [Act.put, List.setIfInBounds_toArray, List.set_cons_zero, List.set_cons_succ]
    refine take_runs (i := 7) (v := ?_) (by simp only [List.getElem?_toArray, List.getElem?_cons_succ, List.getElem?_cons_zero]; rfl) (by kernel_rfl) (by kernel_rfl) (by kernel_rfl) rfl (by exact fun _ _ _ h => h) (by rfl) ?_ (by assumption) ?_
    rotate_left
    · intro w hSw; (try dsimp only at hSw); go_simp; try (with_reducible rfl)
    try simp only [Act.put, List.setIfInBounds_toArray, List.set_cons_zero, List.set_cons_succ]
    refine take_runs (i := 8) (v := ?_) (by simp only [List.getElem?_toArray, List.getElem?_cons_succ, List.getElem?_cons_zero]; rfl) (by kernel_rfl) (by kernel_rfl) (by kernel_rfl) rfl (by exact fun _ _ _ h => h) (by rfl) ?_ (by assumption) ?_
    rotate_left
    · intro w hSw; (try dsimp only at hSw); go_simp; try (with_reducible rfl)
    try simp only [Act.put, List.setIfInBounds_toArray, List.set_cons_zero, List.set_cons_succ]
    refine take_runs (i := 9) (v := ?_) (by simp only [List.getElem?_toArray, List.getElem?_cons_succ, List.getElem?_cons_zero]; rfl) (by kernel_rfl) (by kernel_rfl) (by kernel_rfl) rfl (by exact fun _ _ _ h => h) (by rfl) ?_ (by assumption) ?_
    rotate_left
    · intro w hSw; (try dsimp only at hSw); go_simp; try (with_reducible rfl)
    try simp only [Act.put, List.setIfInBounds_toArray, List.set_cons_zero, List.set_cons_succ]
    refine take_runs (i := 10) (v := .bool false) (by simp only [List.getElem?_toArray, List.getElem?_cons_succ, List.getElem?_cons_zero]; rfl) (by kernel_rfl) (by kernel_rfl) (by kernel_rfl) rfl (by exact fun _ _ _ h => h) (by rfl) ?_ (by assumption) ?_
    · intro w hSw; (try dsimp only at hSw); go_simp; all_goals first | (with_reducible rfl) | (rw [e2]; done) | (simpa using e2) | (simp [e2]; done) | (simp; omega)
    try simp only [Act.put, List.setIfInBounds_toArray, List.set_cons_zero, List.set_cons_succ]
    refine take_runs (i := 11) (v := ?_) (by simp only [List.getElem?_toArray, List.getElem?_cons_succ, List.getElem?_cons_zero]; rfl) (by kernel_rfl) (by kernel_rfl) (by kernel_rfl) rfl (by exact fun _ _ _ h => h) (by rfl) ?_ (by assumption) ?_
    rotate_left
    · intro w hSw; (try dsimp only at hSw); go_simp; try (with_reducible rfl)
    try simp only [Act.put, List.setIfInBounds_toArray, List.set_cons_zero, List.set_cons_succ]
    refine take_runs (i := 12) (v := ?_) (by simp only [List.getElem?_toArray, List.getElem?_cons_succ, List.getElem?_cons_zero]; rfl) (by kernel_rfl) (by kernel_rfl) (by kernel_rfl) rfl (by exact fun _ _ _ h => h) (by rfl) ?_ (by assumption) ?_
    rotate_left
    · intro w hSw; (try dsimp only at hSw); go_simp; try (with_reducible rfl)
    try simp only [Act.put, List.setIfInBounds_toArray, List.set_cons_zero, List.set_cons_succ]
    refine take_over (i := 13) (by simp only [List.getElem?_toArray, List.getElem?_cons_succ, List.getElem?_cons_zero]; rfl) (by kernel_rfl) (by kernel_rfl) (by kernel_rfl) rfl (by exact fun _ _ _ h => h) (by rfl) (by assumption) ?_
    try simp only [Act.put, List.setIfInBounds_toArray, List.set_cons_zero, List.set_cons_succ]
    refine take_over (i := 14) (by simp only [List.getElem?_toArray, List.getElem?_cons_succ, List.getElem?_cons_zero]; rfl) (by kernel_rfl) (by kernel_rfl) (by kernel_rfl) rfl (by exact fun _ _ _ h => h) (by rfl) (by assumption) ?_
    try simp only [Act.put, List.setIfInBounds_toArray, List.set_cons_zero, List.set_cons_succ]
    refine take_over (i := 15) (by simp only [List.getElem?_toArray, List.getElem?_cons_succ, List.getElem?_cons_zero]; rfl) (by kernel_rfl) (by kernel_rfl) (by kernel_rfl) rfl (by exact fun _ _ _ h => h) (by rfl) (by assumption) ?_
    try simp only [Act.put, List.setIfInBounds_toArray, List.set_cons_zero, List.set_cons_succ]
    refine take_over (i := 16) (by simp only [List.getElem?_toArray, List.getElem?_cons_succ, List.getElem?_cons_zero]; rfl) (by kernel_rfl) (by kernel_rfl) (by kernel_rfl) rfl (by exact fun _ _ _ h => h) (by rfl) (by assumption) ?_
    try simp only [Act.put, List.setIfInBounds_toArray, List.set_cons_zero, List.set_cons_succ]
    refine take_over (i := 17) (by simp only [List.getElem?_toArray, List.getElem?_cons_succ, List.getElem?_cons_zero]; rfl) (by kernel_rfl) (by kernel_rfl) (by kernel_rfl) rfl (by exact fun _ _ _ h => h) (by rfl) (by assumption) ?_
    try simp only [Act.put, List.setIfInBounds_toArray, List.set_cons_zero, List.set_cons_succ]
    refine take_runs (i := 18) (v := ?_) (by simp only [List.getElem?_toArray, List.getElem?_cons_succ, List.getElem?_cons_zero]; rfl) (by kernel_rfl) (by kernel_rfl) (by kernel_rfl) rfl (by exact fun _ _ _ h => h) (by rfl) ?_ (by assumption) ?_
    rotate_left
    · intro w hSw; (try dsimp only at hSw); go_simp; try (with_reducible rfl)
    try simp only [Act.put, List.setIfInBounds_toArray, List.set_cons_zero, List.set_cons_succ]
    refine take_runs (i := 19) (v := ?_) (by simp only [List.getElem?_toArray, List.getElem?_cons_succ, List.getElem?_cons_zero]; rfl) (by kernel_rfl) (by kernel_rfl) (by kernel_rfl) rfl (by exact fun _ _ _ h => h) (by rfl) ?_ (by assumption) ?_
    rotate_left
    · intro w hSw; (try dsimp only at hSw); go_simp; try (with_reducible rfl)
    try simp only [Act.put, List.setIfInBounds_toArray, List.set_cons_zero, List.set_cons_succ]
    refine wpAnyH_done (by kernel_rfl) ?_ _
    clear hHeld
    go_wp2
    go_ret
    exact ⟨rfl, d.out⟩
  have e2 : (died == died2) = true := by simp [q3]
  have HD : Hid (decide (((id, xs, born, died) : VerD) = (id2, ys, born2, died2)) = decide (((id, xs) : RowD) = (id2, ys))) := Lib.hid (by
    have := Q2.out
    subst this; subst q3
    simp)
  rw [HD.out]
  generalize decide (((id, xs) : RowD) = (id2, ys)) = r at *
  clear q3
  go_enter Try.func117, Try.ntmps117
  go_wp2
  generalize ((w.alloc (.cells #[.int .i64 id, .slice xa xs.length xc, .int .i64 born, .int .i64 died] 62)).alloc (.cells #[.int .i64 id2, .slice ya ys.length yc, .int .i64 born2, .int .i64 died2] 62)) = W at *
  have p_B0_0 := (cell_of_row W _ 0 _ _ _ B0.out).trans (show _ = some (Value.int .i64 id) from rfl)
  have p_B0_1 := (cell_of_row W _ 1 _ _ _ B0.out).trans (show _ = some (Value.slice xa xs.length xc) from rfl)
  have p_B0_2 := (cell_of_row W _ 2 _ _ _ B0.out).trans (show _ = some (Value.int .i64 born) from rfl)
  have p_B0_3 := (cell_of_row W _ 3 _ _ _ B0.out).trans (show _ = some (Value.int .i64 died) from rfl)
  have p_B1_0 := (cell_of_row W _ 0 _ _ _ B1.out).trans (show _ = some (Value.int .i64 id2) from rfl)
  have p_B1_1 := (cell_of_row W _ 1 _ _ _ B1.out).trans (show _ = some (Value.slice ya ys.length yc) from rfl)
  have p_B1_2 := (cell_of_row W _ 2 _ _ _ B1.out).trans (show _ = some (Value.int .i64 born2) from rfl)
  have p_B1_3 := (cell_of_row W _ 3 _ _ _ B1.out).trans (show _ = some (Value.int .i64 died2) from rfl)
  refine wp_region_held_drew (S := fun w' => w'.cell? ⟨w.heap.size, 0, none⟩ = some (Value.int .i64 id) ∧ w'.cell? ⟨w.heap.size, 1, none⟩ = some (Value.slice xa xs.length xc) ∧ w'.cell? ⟨w.heap.size, 2, none⟩ = some (Value.int .i64 born) ∧ w'.cell? ⟨w.heap.size, 3, none⟩ = some (Value.int .i64 died) ∧ w'.cell? ⟨(w.heap.size + 1), 0, none⟩ = some (Value.int .i64 id2) ∧ w'.cell? ⟨(w.heap.size + 1), 1, none⟩ = some (Value.slice ya ys.length yc) ∧ w'.cell? ⟨(w.heap.size + 1), 2, none⟩ = some (Value.int .i64 born2) ∧ w'.cell? ⟨(w.heap.size + 1), 3, none⟩ = some (Value.int .i64 died2)) (by kernel_rfl) ⟨p_B0_0, p_B0_1, p_B0_2, p_B0_3, p_B1_0, p_B1_1, p_B1_2, p_B1_3⟩ (fun hHeld => ?_)
  clear p_B0_0 p_B0_1 p_B0_2 p_B0_3 p_B1_0 p_B1_1 p_B1_2 p_B1_3
  have cdr : Below W.heap.size W W.drew := below_drew (Below.refl _ _)
  replace B0 := Lib.hid ((cdr.block w.heap.size (Array.getElem?_eq_some_iff.1 B0.out).1).trans B0.out)
  replace B1 := Lib.hid ((cdr.block (w.heap.size + 1) (Array.getElem?_eq_some_iff.1 B1.out).1).trans B1.out)
  replace d := Lib.hid (d.out.trans (cdr.mono d.out.size))
  clear cdr
  refine take_runs (i := 0) (v := ?_) (by simp only [List.getElem?_toArray, List.getElem?_cons_succ, List.getElem?_cons_zero]; rfl) (by kernel_rfl) (by kernel_rfl) (by kernel_rfl) rfl (by exact fun _ _ _ h => h) (by rfl) ?_ (by assumption) ?_
  rotate_left
  · intro w hSw; (try dsimp only at hSw); go_simp; try (with_reducible rfl)
  try simp only [Act.put, List.setIfInBounds_toArray, List.set_cons_zero, List.set_cons_succ]
  refine take_runs (i := 1) (v := ?_) (by simp only [List.getElem?_toArray, List.getElem?_cons_succ, List.getElem?_cons_zero]; rfl) (by kernel_rfl) (by kernel_rfl) (by kernel_rfl) rfl (by exact fun _ _ _ h => h) (by rfl) ?_ (by assumption) ?_
  rotate_left
  · intro w hSw; (try dsimp only at hSw); go_simp; try (with_reducible rfl)
  try simp only [Act.put, List.setIfInBounds_toArray, List.set_cons_zero, List.set_cons_succ]
  refine take_runs (i := 2) (v := ?_) (by simp only [List.getElem?_toArray, List.getElem?_cons_succ, List.getElem?_cons_zero]; rfl) (by kernel_rfl) (by kernel_rfl) (by kernel_rfl) rfl (by exact fun _ _ _ h => h) (by rfl) ?_ (by assumption) ?_
  rotate_left
  · intro w hSw; (try dsimp only at hSw); go_simp; try (with_reducible rfl)
  try simp only [Act.put, List.setIfInBounds_toArray, List.set_cons_zero, List.set_cons_succ]
  refine take_runs (i := 3) (v := ?_) (by simp only [List.getElem?_toArray, List.getElem?_cons_succ, List.getElem?_cons_zero]; rfl) (by kernel_rfl) (by kernel_rfl) (by kernel_rfl) rfl (by exact fun _ _ _ h => h) (by rfl) ?_ (by assumption) ?_
  rotate_left
  · intro w hSw; (try dsimp only at hSw); go_simp; try (with_reducible rfl)
  try simp only [Act.put, List.setIfInBounds_toArray, List.set_cons_zero, List.set_cons_succ]
  refine take_runs (i := 4) (v := .bool true) (by simp only [List.getElem?_toArray, List.getElem?_cons_succ, List.getElem?_cons_zero]; rfl) (by kernel_rfl) (by kernel_rfl) (by kernel_rfl) rfl (by exact fun _ _ _ h => h) (by rfl) ?_ (by assumption) ?_
  · intro w hSw; (try dsimp only at hSw); go_simp; all_goals first | (with_reducible rfl) | (rw [e1]; done) | (simpa using e1) | (simp [e1]; done) | (simp; omega)
  try simp only [Act.put, List.setIfInBounds_toArray, List.set_cons_zero, List.set_cons_succ]
  refine take_runs (i := 5) (v := ?_) (by simp only [List.getElem?_toArray, List.getElem?_cons_succ, List.getElem?_cons_zero]; rfl) (by kernel_rfl) (by kernel_rfl) (by kernel_rfl) rfl (by exact fun _ _ _ h => h) (by rfl) ?_ (by assumption) ?_
  rotate_left
  · intro w hSw; (try dsimp only at hSw); go_simp; try (with_reducible rfl)
  try simp only [Act.put, List.setIfInBounds_toArray, List.set_cons_zero, List.set_cons_succ]
  refine take_runs (i := 6) (v := ?_) (by simp only [List.getElem?_toArray, List.getElem?_cons_succ, List.getElem?_cons_zero]; rfl) (by kernel_rfl) (by kernel_rfl) (by kernel_rfl) rfl (by exact fun _ _ _ h => h) (by rfl) ?_ (by assumption) ?_
  rotate_left
  · intro w hSw; (try dsimp only at hSw); go_simp; try (with_reducible rfl)
  try simp only [Act.put, List.setIfInBounds_toArray, List.set_cons_zero, List.set_cons_succ]
  refine take_runs (i := 7) (v := ?_) (by simp only [List.getElem?_toArray, List.getElem?_cons_succ, List.getElem?_cons_zero]; rfl) (by kernel_rfl) (by kernel_rfl) (by kernel_rfl) rfl (by exact fun _ _ _ h => h) (by rfl) ?_ (by assumption) ?_
  rotate_left
  · intro w hSw; (try dsimp only at hSw); go_simp; try (with_reducible rfl)
  try simp only [Act.put, List.setIfInBounds_toArray, List.set_cons_zero, List.set_cons_succ]
  refine take_runs (i := 8) (v := ?_) (by simp only [List.getElem?_toArray, List.getElem?_cons_succ, List.getElem?_cons_zero]; rfl) (by kernel_rfl) (by kernel_rfl) (by kernel_rfl) rfl (by exact fun _ _ _ h => h) (by rfl) ?_ (by assumption) ?_
  rotate_left
  · intro w hSw; (try dsimp only at hSw); go_simp; try (with_reducible rfl)
  try simp only [Act.put, List.setIfInBounds_toArray, List.set_cons_zero, List.set_cons_succ]
  refine take_runs (i := 9) (v := ?_) (by simp only [List.getElem?_toArray, List.getElem?_cons_succ, List.getElem?_cons_zero]; rfl) (by kernel_rfl) (by kernel_rfl) (by kernel_rfl) rfl (by exact fun _ _ _ h => h) (by rfl) ?_ (by assumption) ?_
  rotate_left
  · intro w hSw; (try dsimp only at hSw); go_simp; try (with_reducible rfl)
  try simp only [Act.put, List.setIfInBounds_toArray, List.set_cons_zero, List.set_cons_succ]
  refine take_runs (i := 10) (v := .bool true) (by simp only [List.getElem?_toArray, List.getElem?_cons_succ, List.getElem?_cons_zero]; rfl) (by kernel_rfl) (by kernel_rfl) (by kernel_rfl) rfl (by exact fun _ _ _ h => h) (by rfl) ?_ (by assumption) ?_
  · intro w hSw; (try dsimp only at hSw); go_simp; all_goals first | (with_reducible rfl) | (rw [e2]; done) | (simpa using e2) | (simp [e2]; done) | (simp; omega)
  try simp only [Act.put, List.setIfInBounds_toArray, List.set_cons_zero, List.set_cons_succ]
  refine take_runs (i := 11) (v := ?_) (by simp only [List.getElem?_toArray, List.getElem?_cons_succ, List.getElem?_cons_zero]; rfl) (by kernel_rfl) (by kernel_rfl) (by kernel_rfl) rfl (by exact fun _ _ _ h => h) (by rfl) ?_ (by assumption) ?_
  rotate_left
  · intro w hSw; (try dsimp only at hSw); go_simp; try (with_reducible rfl)
  try simp only [Act.put, List.setIfInBounds_toArray, List.set_cons_zero, List.set_cons_succ]
  refine take_runs (i := 12) (v := ?_) (by simp only [List.getElem?_toArray, List.getElem?_cons_succ, List.getElem?_cons_zero]; rfl) (by kernel_rfl) (by kernel_rfl) (by kernel_rfl) rfl (by exact fun _ _ _ h => h) (by rfl) ?_ (by assumption) ?_
  rotate_left
  · intro w hSw; (try dsimp only at hSw); go_simp; try (with_reducible rfl)
  try simp only [Act.put, List.setIfInBounds_toArray, List.set_cons_zero, List.set_cons_succ]
  refine take_runs (i := 13) (v := ?_) (by simp only [List.getElem?_toArray, List.getElem?_cons_succ, List.getElem?_cons_zero]; rfl) (by kernel_rfl) (by kernel_rfl) (by kernel_rfl) rfl (by exact fun _ _ _ h => h) (by rfl) ?_ (by assumption) ?_
  rotate_left
  · intro w hSw; (try dsimp only at hSw); go_simp; try (with_reducible rfl)
  try simp only [Act.put, List.setIfInBounds_toArray, List.set_cons_zero, List.set_cons_succ]
  refine take_runs (i := 15) (v := ?_) (by simp only [List.getElem?_toArray, List.getElem?_cons_succ, List.getElem?_cons_zero]; rfl) (by kernel_rfl) (by kernel_rfl) (by kernel_rfl) rfl (by exact fun _ _ _ h => h) (by rfl) ?_ (by assumption) ?_
  rotate_left
  · intro w hSw; (try dsimp only at hSw); go_simp; try (with_reducible rfl)
  try simp only [Act.put, List.setIfInBounds_toArray, List.set_cons_zero, List.set_cons_succ]
  refine wpAnyH_ready (rs := [14]) (by kernel_rfl) (by simp) ?_
  refine (AllReadyH.cons (o := _) (by simp only [List.getElem?_toArray, List.getElem?_cons_succ, List.getElem?_cons_zero]; rfl) (fun K hK => ?_) AllReadyH.nil)
  go_simp
  refine (HR1.out (W.drew)).mono ?_
  rintro e w5 ⟨rfl, c5⟩
  replace B0 := Lib.hid ((c5.block w.heap.size (Array.getElem?_eq_some_iff.1 B0.out).1).trans B0.out)
  replace B1 := Lib.hid ((c5.block (w.heap.size + 1) (Array.getElem?_eq_some_iff.1 B1.out).1).trans B1.out)
  replace d := Lib.hid (d.out.trans (c5.mono d.out.size))
  have Z_w5 := Lib.hid (show W.heap.size ≤ w5.heap.size from c5.size)
  clear c5
  have p_B0_0 := (cell_of_row w5 _ 0 _ _ _ B0.out).trans (show _ = some (Value.int .i64 id) from rfl)
  have p_B0_1 := (cell_of_row w5 _ 1 _ _ _ B0.out).trans (show _ = some (Value.slice xa xs.length xc) from rfl)
  have p_B0_2 := (cell_of_row w5 _ 2 _ _ _ B0.out).trans (show _ = some (Value.int .i64 born) from rfl)
  have p_B0_3 := (cell_of_row w5 _ 3 _ _ _ B0.out).trans (show _ = some (Value.int .i64 died) from rfl)
  have p_B1_0 := (cell_of_row w5 _ 0 _ _ _ B1.out).trans (show _ = some (Value.int .i64 id2) from rfl)
  have p_B1_1 := (cell_of_row w5 _ 1 _ _ _ B1.out).trans (show _ = some (Value.slice ya ys.length yc) from rfl)
  have p_B1_2 := (cell_of_row w5 _ 2 _ _ _ B1.out).trans (show _ = some (Value.int .i64 born2) from rfl)
  have p_B1_3 := (cell_of_row w5 _ 3 _ _ _ B1.out).trans (show _ = some (Value.int .i64 died2) from rfl)
  refine hK.out _ _ ⟨p_B0_0, p_B0_1, p_B0_2, p_B0_3, p_B1_0, p_B1_1, p_B1_2, p_B1_3⟩ (fun hHeld => ?_)
  clear p_B0_0 p_B0_1 p_B0_2 p_B0_3 p_B1_0 p_B1_1 p_B1_2 p_B1_3
  clear hK K
  try simp only [Act.put, List.setIfInBounds_toArray, List.set_cons_zero, List.set_cons_succ]
  refine wpAnyH_ready (rs := [16]) (by kernel_rfl) (by simp) ?_
  refine (AllReadyH.cons (o := _) (by simp only [List.getElem?_toArray, List.getElem?_cons_succ, List.getElem?_cons_zero]; rfl) (fun K hK => ?_) AllReadyH.nil)
  go_simp
  refine (HR2.out w5).mono ?_
  rintro e w6 ⟨rfl, c6⟩
  replace B0 := Lib.hid ((c6.block w.heap.size (Array.getElem?_eq_some_iff.1 B0.out).1).trans B0.out)
  replace B1 := Lib.hid ((c6.block (w.heap.size + 1) (Array.getElem?_eq_some_iff.1 B1.out).1).trans B1.out)
  replace d := Lib.hid (d.out.trans (c6.mono d.out.size))
  have Z_w6 := Lib.hid (show w5.heap.size ≤ w6.heap.size from c6.size)
  clear c6
  have p_B0_0 := (cell_of_row w6 _ 0 _ _ _ B0.out).trans (show _ = some (Value.int .i64 id) from rfl)
  have p_B0_1 := (cell_of_row w6 _ 1 _ _ _ B0.out).trans (show _ = some (Value.slice xa xs.length xc) from rfl)
  have p_B0_2 := (cell_of_row w6 _ 2 _ _ _ B0.out).trans (show _ = some (Value.int .i64 born) from rfl)
  have p_B0_3 := (cell_of_row w6 _ 3 _ _ _ B0.out).trans (show _ = some (Value.int .i64 died) from rfl)
  have p_B1_0 := (cell_of_row w6 _ 0 _ _ _ B1.out).trans (show _ = some (Value.int .i64 id2) from rfl)
  have p_B1_1 := (cell_of_row w6 _ 1 _ _ _ B1.out).trans (show _ = some (Value.slice ya ys.length yc) from rfl)
  have p_B1_2 := (cell_of_row w6 _ 2 _ _ _ B1.out).trans (show _ = some (Value.int .i64 born2) from rfl)
  have p_B1_3 := (cell_of_row w6 _ 3 _ _ _ B1.out).trans (show _ = some (Value.int .i64 died2) from rfl)
  refine hK.out _ _ ⟨p_B0_0, p_B0_1, p_B0_2, p_B0_3, p_B1_0, p_B1_1, p_B1_2, p_B1_3⟩ (fun hHeld => ?_)
  clear p_B0_0 p_B0_1 p_B0_2 p_B0_3 p_B1_0 p_B1_1 p_B1_2 p_B1_3
  clear hK K
  try simp only [Act.put, List.setIfInBounds_toArray, List.set_cons_zero, List.set_cons_succ]
  refine wpAnyH_ready (rs := [17]) (by kernel_rfl) (by simp) ?_
  refine (AllReadyH.cons (o := _) (by simp only [List.getElem?_toArray, List.getElem?_cons_succ, List.getElem?_cons_zero]; rfl) (fun K hK => ?_) AllReadyH.nil)
  go_simp
  refine (HER.out w6 (ints_below HX.out d.out) (ints_below HY.out d.out)).mono ?_
  rintro e w7 ⟨rfl, c7⟩
  replace B0 := Lib.hid ((c7.block w.heap.size (Array.getElem?_eq_some_iff.1 B0.out).1).trans B0.out)
  replace B1 := Lib.hid ((c7.block (w.heap.size + 1) (Array.getElem?_eq_some_iff.1 B1.out).1).trans B1.out)
  replace d := Lib.hid (d.out.trans (c7.mono d.out.size))
  have Z_w7 := Lib.hid (show w6.heap.size ≤ w7.heap.size from c7.size)
  clear c7
  have p_B0_0 := (cell_of_row w7 _ 0 _ _ _ B0.out).trans (show _ = some (Value.int .i64 id) from rfl)
  have p_B0_1 := (cell_of_row w7 _ 1 _ _ _ B0.out).trans (show _ = some (Value.slice xa xs.length xc) from rfl)
  have p_B0_2 := (cell_of_row w7 _ 2 _ _ _ B0.out).trans (show _ = some (Value.int .i64 born) from rfl)
  have p_B0_3 := (cell_of_row w7 _ 3 _ _ _ B0.out).trans (show _ = some (Value.int .i64 died) from rfl)
  have p_B1_0 := (cell_of_row w7 _ 0 _ _ _ B1.out).trans (show _ = some (Value.int .i64 id2) from rfl)
  have p_B1_1 := (cell_of_row w7 _ 1 _ _ _ B1.out).trans (show _ = some (Value.slice ya ys.length yc) from rfl)
  have p_B1_2 := (cell_of_row w7 _ 2 _ _ _ B1.out).trans (show _ = some (Value.int .i64 born2) from rfl)
  have p_B1_3 := (cell_of_row w7 _ 3 _ _ _ B1.out).trans (show _ = some (Value.int .i64 died2) from rfl)
  refine hK.out _ _ ⟨p_B0_0, p_B0_1, p_B0_2, p_B0_3, p_B1_0, p_B1_1, p_B1_2, p_B1_3⟩ (fun hHeld => ?_)
  clear p_B0_0 p_B0_1 p_B0_2 p_B0_3 p_B1_0 p_B1_1 p_B1_2 p_B1_3
  clear hK K
  try simp only [Act.put, List.setIfInBounds_toArray, List.set_cons_zero, List.set_cons_succ]
  refine take_runs (i := 18) (v := ?_) (by simp only [List.getElem?_toArray, List.getElem?_cons_succ, List.getElem?_cons_zero]; rfl) (by kernel_rfl) (by kernel_rfl) (by kernel_rfl) rfl (by exact fun _ _ _ h => h) (by rfl) ?_ (by assumption) ?_
  rotate_left
  · intro w hSw; (try dsimp only at hSw); go_simp; try (with_reducible rfl)
  try simp only [Act.put, List.setIfInBounds_toArray, List.set_cons_zero, List.set_cons_succ]
  refine take_runs (i := 19) (v := ?_) (by simp only [List.getElem?_toArray, List.getElem?_cons_succ, List.getElem?_cons_zero]; rfl) (by kernel_rfl) (by kernel_rfl) (by kernel_rfl) rfl (by exact fun _ _ _ h => h) (by rfl) ?_ (by assumption) ?_
  rotate_left
  · intro w hSw; (try dsimp only at hSw); go_simp; try (with_reducible rfl)
  try simp only [Act.put, List.setIfInBounds_toArray, List.set_cons_zero, List.set_cons_succ]
  refine wpAnyH_done (by kernel_rfl) ?_ _
  clear hHeld
  go_wp2
  go_ret
  exact ⟨rfl, d.out⟩
set_option maxHeartbeats 8000000 in
set_option maxRecDepth 100000 in
theorem equalVers_any (v u : Value) (l m : List VerD) (w : World) (h : SlR tVersion w v l) (g : SlR tVersion w u m) (hs : zL tVersion l ≤ 1048576) (ht : zL tVersion m ≤ 1048576) :
    Calls Try.prog 116 #[v, u, .func (.func 117) #[] #[]] w fun e w' => e = .returned (.bool (decide (l = m))) ∧ Below w.heap.size w w' := by
  have H := Lib.hid h
  have G := Lib.hid g
  have HS := Lib.hid hs
  have HT := Lib.hid ht
  have hlen := zL_len hs
  have hlen2 := zL_len ht
  obtain ⟨a, cap, rfl⟩ := slR_len h
  obtain ⟨a2, cap2, rfl⟩ := slR_len g
  clear h g hs ht
  by_cases hl : l.length = m.length
  · have HL := Lib.hid hl
    have hne : ((l.length : Int) != (m.length : Int)) = false := by rw [hl]; simp
    clear hl
    go_enter Try.func116, Try.ntmps116
    go_wp2
    clear hne
    go_loopw [17] (fun i wr => ∃ k : Nat, k ≤ l.length ∧ i = .int .i64 k ∧ Hid (∀ j, j < k → l.getD j v0D = m.getD j v0D) ∧ Below w.heap.size w wr) (fun i _ => l.length - (intOf i).toNat)
    case atStart => exact ⟨0, Nat.zero_le _, rfl, Lib.hid (fun j hj => by omega), Below.refl _ _⟩
    case round =>
      obtain ⟨k, hk, rfl, hall, hbel⟩ := hrel
      by_cases hlt : k < l.length
      · have hlt2 : k < m.length := by have := HL.out; omega
        obtain ⟨b, off, cap', xa, xc, hv, hbl, c0, c1, c2, c3, hx⟩ := verR_at (slR_below tVersion_law H.out hbel) hlt
        simp only [Value.slice.injEq] at hv
        obtain ⟨rfl, _, rfl⟩ := hv
        obtain ⟨b2, off2, cap2', ya, yc, hv, hbl2, y0, y1, y2, y3, hy⟩ := verR_at (slR_below tVersion_law G.out hbel) hlt2
        simp only [Value.slice.injEq] at hv
        obtain ⟨rfl, _, rfl⟩ := hv
        have hxl := ver_len HS.out hlt
        have hyl := ver_len HT.out hlt2
        have i1 : (0 : Int) ≤ (k : Int) := by omega
        have i2 : (k : Int) < (l.length : Int) := by omega
        have i3 : (k : Int) < (m.length : Int) := by omega
        have HNE := Lib.hid (fun e => decide_eq_false (vers_ne_at (l := l) (m := m) (k := k) e))
        have HALL : Hid (l.getD k v0D = m.getD k v0D → ∀ j, j < k + 1 → l.getD j v0D = m.getD j v0D) := Lib.hid (fun he j hj => by
          by_cases e : j = k
          · exact e ▸ he
          · exact hall.out j (by omega))
        clear hall
        generalize l.getD k v0D = r at *
        generalize m.getD k v0D = q at *
        obtain ⟨id, xs, born, died⟩ := r
        obtain ⟨id2, ys, born2, died2⟩ := q
        simp only at c0 c1 c2 c3 y0 y1 y2 y3 hxl hyl
        have HX : Hid (Ints wr (.slice xa xs.length xc) xs) := Lib.hid hx
        have HY : Hid (Ints wr (.slice ya ys.length yc) ys) := Lib.hid hy
        have HSM := Lib.hid (fun w h g => equalVersion_any id id2 born born2 died died2 (.slice xa xs.length xc) (.slice ya ys.length yc) xs ys w h g hxl hyl)
        have bb := Lib.hid (((Below.refl wr.heap.size wr).alloc (Nat.le_refl _) (.cells #[.int .i64 id, .slice xa xs.length xc, .int .i64 born, .int .i64 died] 62)).alloc (by simp) (.cells #[.int .i64 id2, .slice ya ys.length yc, .int .i64 born2, .int .i64 died2] 62))
        have z0 := (((Below.refl wr.heap.size wr).alloc (Nat.le_refl _) (.cells #[.int .i64 id, .slice xa xs.length xc, .int .i64 born, .int .i64 died] 62)).cell (p := ⟨b2, off2 + k * 4, none⟩) hbl2).trans y0
        have z1 := (((Below.refl wr.heap.size wr).alloc (Nat.le_refl _) (.cells #[.int .i64 id, .slice xa xs.length xc, .int .i64 born, .int .i64 died] 62)).cell (p := ⟨b2, off2 + k * 4 + 1, none⟩) hbl2).trans y1
        have z2 := (((Below.refl wr.heap.size wr).alloc (Nat.le_refl _) (.cells #[.int .i64 id, .slice xa xs.length xc, .int .i64 born, .int .i64 died] 62)).cell (p := ⟨b2, off2 + k * 4 + 2, none⟩) hbl2).trans y2
        have z3 := (((Below.refl wr.heap.size wr).alloc (Nat.le_refl _) (.cells #[.int .i64 id, .slice xa xs.length xc, .int .i64 born, .int .i64 died] 62)).cell (p := ⟨b2, off2 + k * 4 + 3, none⟩) hbl2).trans y3
        have HB := Lib.hid hbel
        clear hx hy hxl hyl hbel
        by_cases he : ((id, xs, born, died) : VerD) = (id2, ys, born2, died2)
        · have HA := Lib.hid (HALL.out he)
          rw [decide_eq_true he] at HSM
          clear he HNE HALL
          go_wp2_with fail
          refine (HSM.out _ (ints_below HX.out bb.out) (ints_below HY.out bb.out)).mono ?_
          rintro e w8 ⟨rfl, b9⟩
          have b11 := HB.out.trans ((bb.out.trans (b9.mono bb.out.size)).mono HB.out.size)
          clear b9 bb z0 z1 z2 z3 c0 c1 c2 c3 y0 y1 y2 y3
          go_wp2
          go_roundw
          case rel => exact ⟨k + 1, by omega, by go_num, HA, b11⟩
          case measure => simp [intOf]; omega
        · have HF := Lib.hid (HNE.out he)
          rw [decide_eq_false he] at HSM
          clear he HNE HALL
          go_wp2_with fail
          refine (HSM.out _ (ints_below HX.out bb.out) (ints_below HY.out bb.out)).mono ?_
          rintro e w8 ⟨rfl, b9⟩
          have b11 := HB.out.trans ((bb.out.trans (b9.mono bb.out.size)).mono HB.out.size)
          clear b9 bb z0 z1 z2 z3 c0 c1 c2 c3 y0 y1 y2 y3
          go_wp2
          go_ret
          exact ⟨ret_b HF.out.symm, b11⟩
      · obtain rfl : k = l.length := by omega
        have HE := Lib.hid (decide_eq_true (vers_eq_all HL.out hall.out))
        clear hall
        go_wp2
        go_ret
        exact ⟨ret_b HE.out.symm, hbel⟩
  · have HF := Lib.hid (decide_eq_false (show ¬ l = m from fun e => hl (by rw [e])))
    have hne : ((l.length : Int) != (m.length : Int)) = true := by rw [bne_iff_ne]; omega
    clear hl
    go_enter Try.func116, Try.ntmps116
    go_wp2
    go_ret
    exact ⟨ret_b HF.out.symm, Below.refl _ _⟩
set_option maxHeartbeats 8000000 in
set_option maxRecDepth 100000 in
theorem equalVersions_any (v u : Value) (l m : List VerD) (w : World) (h : SlR tVersion w v l) (g : SlR tVersion w u m) (hs : zL tVersion l ≤ 1048576) (ht : zL tVersion m ≤ 1048576) :
    Calls Try.prog 90 #[v, u] w fun e w' => e = .returned (.bool (decide (l = m))) ∧ Below w.heap.size w w' := by
  have HC := Lib.hid (equalVers_any v u l m w h g hs ht)
  clear h g hs ht
  generalize decide (l = m) = r at *
  go_enter Try.func90, Try.ntmps90
  go_wp2_with fail
  refine HC.out.mono ?_
  rintro e w1 ⟨rfl, b1⟩
  go_wp2
  go_ret
  exact ⟨rfl, b1⟩
set_option maxHeartbeats 8000000 in
set_option maxRecDepth 100000 in
theorem equalSegs_any (v u : Value) (l m : List (List VerD)) (w : World) (h : SlR tVersionS w v l) (g : SlR tVersionS w u m) (hs : zL tVersionS l ≤ 1048576) (ht : zL tVersionS m ≤ 1048576) :
    Calls Try.prog 89 #[v, u, .func (.func 90) #[] #[]] w fun e w' => e = .returned (.bool (decide (l = m))) ∧ Below w.heap.size w w' := by
  have H := Lib.hid h
  have G := Lib.hid g
  have HS := Lib.hid hs
  have HT := Lib.hid ht
  have hlen := zL_len hs
  have hlen2 := zL_len ht
  obtain ⟨a, cap, rfl⟩ := slR_len h
  obtain ⟨a2, cap2, rfl⟩ := slR_len g
  clear h g hs ht
  by_cases hl : l.length = m.length
  · have HL := Lib.hid hl
    have hne : ((l.length : Int) != (m.length : Int)) = false := by rw [hl]; simp
    clear hl
    go_enter Try.func89, Try.ntmps89
    go_wp2
    clear hne
    go_loopw [17] (fun i wr => ∃ k : Nat, k ≤ l.length ∧ i = .int .i64 k ∧ Hid (∀ j, j < k → l.getD j [] = m.getD j []) ∧ Below w.heap.size w wr) (fun i _ => l.length - (intOf i).toNat)
    case atStart => exact ⟨0, Nat.zero_le _, rfl, Lib.hid (fun j hj => by omega), Below.refl _ _⟩
    case round =>
      obtain ⟨k, hk, rfl, hall, hbel⟩ := hrel
      by_cases hlt : k < l.length
      · have hlt2 : k < m.length := by have := HL.out; omega
        obtain ⟨b, off, cap', cs, hv, hbl, hcs, hR⟩ := slR_at (slR_below tVersionS_law H.out hbel) hlt
        simp only [Value.slice.injEq] at hv
        obtain ⟨rfl, _, rfl⟩ := hv
        obtain ⟨u1, rfl, hU⟩ := hR
        obtain ⟨b2, off2, cap2', cs2, hv, hbl2, hcs2, hR2⟩ := slR_at (slR_below tVersionS_law G.out hbel) hlt2
        simp only [Value.slice.injEq] at hv
        obtain ⟨rfl, _, rfl⟩ := hv
        obtain ⟨u2, rfl, hU2⟩ := hR2
        have pe : wr.cell? ⟨b, off + k, none⟩ = some u1 := by have := hcs 0 Nat.one_pos; rw [show tVersionS.n = 1 from rfl, Nat.mul_one, Nat.add_zero] at this; exact this
        have pe2 : wr.cell? ⟨b2, off2 + k, none⟩ = some u2 := by have := hcs2 0 Nat.one_pos; rw [show tVersionS.n = 1 from rfl, Nat.mul_one, Nat.add_zero] at this; exact this
        have hz1 := Nat.le_trans (zL_seg hlt) HS.out
        have hz2 := Nat.le_trans (zL_seg hlt2) HT.out
        have i1 : (0 : Int) ≤ (k : Int) := by omega
        have i2 : (k : Int) < (l.length : Int) := by omega
        have i3 : (k : Int) < (m.length : Int) := by omega
        have HNE := Lib.hid (fun e => decide_eq_false (segs_ne_at (l := l) (m := m) (k := k) e))
        have HALL : Hid (l.getD k [] = m.getD k [] → ∀ j, j < k + 1 → l.getD j [] = m.getD j []) := Lib.hid (fun he j hj => by
          by_cases e : j = k
          · exact e ▸ he
          · exact hall.out j (by omega))
        change SlR tVersion wr u1 (l.getD k []) at hU
        change SlR tVersion wr u2 (m.getD k []) at hU2
        clear hall hcs hcs2
        generalize l.getD k [] = r at *
        generalize m.getD k [] = q at *
        have HSM := Lib.hid (equalVersions_any u1 u2 r q wr hU hU2 hz1 hz2)
        have HB := Lib.hid hbel
        obtain ⟨ua, uc, rfl⟩ := slR_len hU
        obtain ⟨ua2, uc2, rfl⟩ := slR_len hU2
        clear hU hU2 hz1 hz2 hbel
        by_cases he : r = q
        · have HA := Lib.hid (HALL.out he)
          rw [decide_eq_true he] at HSM
          clear he HNE HALL
          go_wp2_with fail
          refine HSM.out.mono ?_
          rintro e w8 ⟨rfl, b9⟩
          have b11 := HB.out.trans (b9.mono HB.out.size)
          clear b9 pe pe2
          go_wp2
          go_roundw
          case rel => exact ⟨k + 1, by omega, by go_num, HA, b11⟩
          case measure => simp [intOf]; omega
        · have HF := Lib.hid (HNE.out he)
          rw [decide_eq_false he] at HSM
          clear he HNE HALL
          go_wp2_with fail
          refine HSM.out.mono ?_
          rintro e w8 ⟨rfl, b9⟩
          have b11 := HB.out.trans (b9.mono HB.out.size)
          clear b9 pe pe2
          go_wp2
          go_ret
          exact ⟨ret_b HF.out.symm, b11⟩
      · obtain rfl : k = l.length := by omega
        have HE := Lib.hid (decide_eq_true (segs_eq_all HL.out hall.out))
        clear hall
        go_wp2
        go_ret
        exact ⟨ret_b HE.out.symm, hbel⟩
  · have HF := Lib.hid (decide_eq_false (show ¬ l = m from fun e => hl (by rw [e])))
    have hne : ((l.length : Int) != (m.length : Int)) = true := by rw [bne_iff_ne]; omega
    clear hl
    go_enter Try.func89, Try.ntmps89
    go_wp2
    go_ret
    exact ⟨ret_b HF.out.symm, Below.refl _ _⟩
set_option maxHeartbeats 8000000 in
set_option maxRecDepth 100000 in
theorem implEqualStores (sv tv : Value) (ss tt : List (List VerD)) (now now2 : Int) (w : World) (h : SlR tVersionS w sv ss) (g : SlR tVersionS w tv tt) (hs : zL tVersionS ss ≤ 1048576) (ht : zL tVersionS tt ≤ 1048576) :
    Calls Try.prog 46 #[.agg #[sv, .int .i64 now], .agg #[tv, .int .i64 now2]] w (fun e w' => e = .returned (.bool (decide ((ss, now) = (tt, now2)))) ∧ Below w.heap.size w w') := by
  obtain ⟨a, cap, rfl⟩ := slR_len h
  obtain ⟨a2, cap2, rfl⟩ := slR_len g
  have d0 := Lib.hid (show Below w.heap.size w ((w.alloc (.cells #[.slice a ss.length cap, .int .i64 now] 45)).alloc (.cells #[.slice a2 tt.length cap2, .int .i64 now2] 45)) from ((Below.refl _ _).alloc (Nat.le_refl _) _).alloc (by simp) _)
  have HC := Lib.hid (fun W h g => equalSegs_any (.slice a ss.length cap) (.slice a2 tt.length cap2) ss tt W h g hs ht)
  have H := Lib.hid (slR_below tVersionS_law h d0.out)
  have G := Lib.hid (slR_below tVersionS_law g d0.out)
  clear h g hs ht
  by_cases hn : now = now2
  rotate_left
  · have HF := Lib.hid (decide_eq_false (show ¬ (ss, now) = (tt, now2) from fun e => hn (Prod.mk.inj e).2))
    have hne2 : (now == now2) = false := by simp [hn]
    clear hn
    rw [HF.out]
    go_enter Try.func46, Try.ntmps46
    go_wp2
    go_ret
    exact ⟨rfl, d0.out⟩
  have hne2 : (now == now2) = true := by simp [hn]
  have HD : Hid (decide ((ss, now) = (tt, now2)) = decide (ss = tt)) := Lib.hid (by subst hn; simp)
  rw [HD.out]
  generalize decide (ss = tt) = r at *
  clear hn HD
  go_enter Try.func46, Try.ntmps46
  go_wp2_with fail
  generalize ((w.alloc (.cells #[.slice a ss.length cap, .int .i64 now] 45)).alloc (.cells #[.slice a2 tt.length cap2, .int .i64 now2] 45)) = W at *
  refine (HC.out W H.out G.out).mono ?_
  rintro e w1 ⟨rfl, b1⟩
  have D1 := d0.out.trans (b1.mono d0.out.size)
  go_wp2
  go_ret
  exact ⟨rfl, D1⟩
end Go.Proofs.Ytginjmnohnidiaa
