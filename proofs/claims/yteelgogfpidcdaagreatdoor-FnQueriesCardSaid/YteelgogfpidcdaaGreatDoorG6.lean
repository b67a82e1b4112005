/-
  Texts of the proof, merged: QueryParP, QueryChk, QueryLaw1, ProjSpec, RowMark1, ProjLaw, MatchLaw, QueryMatchP, RowLawSort, AnswerLaw, RowSortP, QueryImpl, RangeP.
-/
import Derived.Test.YteelgogfpidcdaaGreatDoorG5
import Derived.Test.YteelgogfpidcdaaGreatDoorSortShelf
namespace Go.Proofs.YteelgogfpidcdaaGreatDoor
open Go.RowKit
set_option linter.unusedVariables false
set_option linter.unusedSimpArgs false
/-- The library's bound on short texts is some number. -/
def TabM (w : World) : Prop := ∃ m, w.cell? ⟨0, 0, none⟩ = some (.int .i64 m)
theorem TabM.on {w w' : World} (h : TabM w) (hb : Below w.heap.size w w') : TabM w' := by
  obtain ⟨m, hm⟩ := h
  exact ⟨m, (hb.cell (p := ⟨_, 0, none⟩) (World.block_lt_of_cell? w _ hm)).trans hm⟩
theorem parPI (q : List UInt8) (w : World) (hq : q.length ≤ 1048576) (hT : Tab w) : Calls Tryz.prog 89 #[.string (strB q)] w fun e w' => e = .returned (.tuple #[.int .i64 (parI q).1, .bool (parI q).2]) ∧ Below w.heap.size w w' := implPar (strB q) w (by rw [strB_size]; exact hq) hT
theorem ret_2 {a b : Int} {c d : Bool} (h : a = b) (g : c = d) : Ending.returned (.tuple #[.int .i64 a, .bool c]) = .returned (.tuple #[.int .i64 b, .bool d]) := by rw [h, g]
theorem ret_3 {a b c d : Int} {e f : Bool} (h : a = b) (g : c = d) (k : e = f) : Ending.returned (.tuple #[.int .i64 a, .int .i64 c, .bool e]) = .returned (.tuple #[.int .i64 b, .int .i64 d, .bool f]) := by rw [h, g, k]
theorem prefix_one (s : List UInt8) (c : UInt8) : Lib.hasPrefix s [c] = decide (s.getD 0 0 = c ∧ 1 ≤ s.length) := by
  cases s with
  | nil => simp [Lib.hasPrefix]
  | cons d r =>
    by_cases h : d = c
    · simp [Lib.hasPrefix, h]
    · have h2 : (c == d) = false := beq_eq_false_iff_ne.2 (fun e => h e.symm)
      show (c == d && _) = _
      rw [h2]
      simp [h]
set_option maxHeartbeats 4000000 in
set_option maxRecDepth 100000 in
theorem parseTagged_any (s : List UInt8) (c : UInt8) (w : World) (hl : s.length ≤ 1048576) (hT : Tab w) :
    Calls Tryz.prog 64 #[.string (strB s), .string ⟨#[c]⟩] w fun e w' => e = .returned (.tuple #[.int .i64 (tagP c s).1, .bool (tagP c s).2]) ∧ Below w.heap.size w w' := by
  have HC := Lib.hid (Tryz.strings_CutPrefix (strB s) ⟨#[c]⟩ w)
  have es : (strB s).data.toList = s := rfl
  have ec : (⟨#[c]⟩ : ByteArray).data.toList = [c] := rfl
  rw [es, ec] at HC
  by_cases h : s.getD 0 0 = c ∧ 1 ≤ s.length
  · have hp : Lib.hasPrefix s [c] = true := by rw [prefix_one]; exact decide_eq_true h
    have ht : Lib.trimPrefix s [c] = s.drop 1 := by unfold Lib.trimPrefix; rw [if_pos hp]; rfl
    have HE : Hid (tagP c s = parI (s.drop 1)) := Lib.hid (if_pos h)
    rw [hp, ht] at HC
    have HP := Lib.hid (parPI (s.drop 1) w (by rw [List.length_drop]; omega) hT)
    clear h hp ht es ec hl hT
    rw [HE.out]
    obtain ⟨n, hn⟩ : ∃ n, (parI (s.drop 1)).1 = n := ⟨_, rfl⟩
    obtain ⟨b, hb⟩ : ∃ b, (parI (s.drop 1)).2 = b := ⟨_, rfl⟩
    rw [hn, hb] at HP ⊢
    clear hn hb HE
    have e2 : (⟨(s.drop 1).toArray⟩ : ByteArray) = strB (s.drop 1) := rfl
    rw [e2] at HC
    clear e2
    generalize strB (s.drop 1) = t at *
    generalize strB s = t0 at *
    go_enter Tryz.func64, Tryz.ntmps64
    go_wp2_with fail
    refine HC.out.mono ?_
    rintro e w1 ⟨rfl, rfl⟩
    go_wp2_with fail
    refine HP.out.mono ?_
    rintro e w2 ⟨rfl, b2⟩
    go_wp2
    go_ret2
    exact ⟨rfl, b2⟩
  · have hp : Lib.hasPrefix s [c] = false := by rw [prefix_one]; exact decide_eq_false h
    have HE : Hid (tagP c s = (0, false)) := Lib.hid (if_neg h)
    rw [hp] at HC
    clear h hp es ec hl hT
    generalize (⟨(Lib.trimPrefix s [c]).toArray⟩ : ByteArray) = t at *
    rw [HE.out]
    generalize strB s = t0 at *
    go_enter Tryz.func64, Tryz.ntmps64
    go_wp2_with fail
    refine HC.out.mono ?_
    rintro e w1 ⟨rfl, rfl⟩
    go_wp2
    go_ret2
    exact ⟨rfl, Below.refl _ _⟩
theorem cut_lens (s sep : List UInt8) : (Lib.cut s sep).1.length ≤ s.length ∧ (Lib.cut s sep).2.1.length ≤ s.length := by
  unfold Lib.cut
  split
  · exact ⟨by rw [List.length_take]; omega, by simp⟩
  · exact ⟨Nat.le_refl _, by simp⟩
set_option maxHeartbeats 4000000 in
set_option maxRecDepth 100000 in
theorem parseRange_any (s : List UInt8) (w : World) (hl : s.length ≤ 1048576) (hT : Tab w) (hM : TabM w) :
    Calls Tryz.prog 90 #[.string (strB s)] w fun e w' => e = .returned (.tuple #[.int .i64 (rngP s).1, .int .i64 (rngP s).2.1, .bool (rngP s).2.2]) ∧ Below w.heap.size w w' := by
  obtain ⟨m, hm⟩ := hM
  have HC := Lib.hid (Tryz.strings_Cut (strB s) ⟨#[46, 46]⟩ m w (by rw [strB_size]; omega) hm)
  have es : (strB s).data.toList = s := rfl
  have ec : (⟨#[46, 46]⟩ : ByteArray).data.toList = [46, 46] := rfl
  rw [es, ec] at HC
  have hls := cut_lens s [46, 46]
  have hR : rngP s = if (Lib.cut s [46, 46]).2.2 && ((parI (Lib.cut s [46, 46]).1).2 && (parI (Lib.cut s [46, 46]).2.1).2) then ((parI (Lib.cut s [46, 46]).1).1, (parI (Lib.cut s [46, 46]).2.1).1, true) else (0, 0, false) := rfl
  have HR := Lib.hid hR
  have HT := Lib.hid hT
  have HA := Lib.hid (fun w h => parPI (Lib.cut s [46, 46]).1 w (by omega) h)
  have HB := Lib.hid (fun w h => parPI (Lib.cut s [46, 46]).2.1 w (by omega) h)
  have e1 : (⟨(Lib.cut s [46, 46]).1.toArray⟩ : ByteArray) = strB (Lib.cut s [46, 46]).1 := rfl
  have e2 : (⟨(Lib.cut s [46, 46]).2.1.toArray⟩ : ByteArray) = strB (Lib.cut s [46, 46]).2.1 := rfl
  rw [e1, e2] at HC
  clear hR hls es ec hl hT hm e1 e2
  obtain ⟨f, hf⟩ : ∃ f, (Lib.cut s [46, 46]).2.2 = f := ⟨_, rfl⟩
  obtain ⟨na, hna⟩ : ∃ n, (parI (Lib.cut s [46, 46]).1).1 = n := ⟨_, rfl⟩
  obtain ⟨oa, hoa⟩ : ∃ n, (parI (Lib.cut s [46, 46]).1).2 = n := ⟨_, rfl⟩
  obtain ⟨nb, hnb⟩ : ∃ n, (parI (Lib.cut s [46, 46]).2.1).1 = n := ⟨_, rfl⟩
  obtain ⟨ob, hob⟩ : ∃ n, (parI (Lib.cut s [46, 46]).2.1).2 = n := ⟨_, rfl⟩
  rw [hf] at HC HR
  rw [hna, hoa] at HA HR
  rw [hnb, hob] at HB HR
  clear hf hna hoa hnb hob
  generalize strB (Lib.cut s [46, 46]).1 = ta at *
  generalize strB (Lib.cut s [46, 46]).2.1 = tb at *
  rw [HR.out]
  clear HR
  generalize strB s = t0 at *
  cases f with
  | false =>
    go_enter Tryz.func90, Tryz.ntmps90
    go_wp2_with fail
    refine HC.out.mono ?_
    rintro e w1 ⟨rfl, n1, hw1⟩
    have b1 : Below w.heap.size w w1 := by rw [hw1]; exact ⟨rfl, rfl, rfl, Nat.le_refl _, fun _ _ => rfl⟩
    clear hw1
    go_wp2_with fail
    refine (HA.out _ (HT.out.on b1)).mono ?_
    rintro e w2 ⟨rfl, b2⟩
    have c2 := b1.trans (b2.mono b1.size)
    go_wp2_with fail
    refine (HB.out _ (HT.out.on c2)).mono ?_
    rintro e w3 ⟨rfl, b3⟩
    have c3 := c2.trans (b3.mono c2.size)
    go_wp2
    go_ret3
    exact ⟨rfl, c3⟩
  | true =>
    cases oa with
    | false =>
      go_enter Tryz.func90, Tryz.ntmps90
      go_wp2_with fail
      refine HC.out.mono ?_
      rintro e w1 ⟨rfl, n1, hw1⟩
      have b1 : Below w.heap.size w w1 := by rw [hw1]; exact ⟨rfl, rfl, rfl, Nat.le_refl _, fun _ _ => rfl⟩
      clear hw1
      go_wp2_with fail
      refine (HA.out _ (HT.out.on b1)).mono ?_
      rintro e w2 ⟨rfl, b2⟩
      have c2 := b1.trans (b2.mono b1.size)
      go_wp2_with fail
      refine (HB.out _ (HT.out.on c2)).mono ?_
      rintro e w3 ⟨rfl, b3⟩
      have c3 := c2.trans (b3.mono c2.size)
      go_wp2
      go_ret3
      exact ⟨rfl, c3⟩
    | true =>
      cases ob with
      | false =>
        go_enter Tryz.func90, Tryz.ntmps90
        go_wp2_with fail
        refine HC.out.mono ?_
        rintro e w1 ⟨rfl, n1, hw1⟩
        have b1 : Below w.heap.size w w1 := by rw [hw1]; exact ⟨rfl, rfl, rfl, Nat.le_refl _, fun _ _ => rfl⟩
        clear hw1
        go_wp2_with fail
        refine (HA.out _ (HT.out.on b1)).mono ?_
        rintro e w2 ⟨rfl, b2⟩
        have c2 := b1.trans (b2.mono b1.size)
        go_wp2_with fail
        refine (HB.out _ (HT.out.on c2)).mono ?_
        rintro e w3 ⟨rfl, b3⟩
        have c3 := c2.trans (b3.mono c2.size)
        go_wp2
        go_ret3
        exact ⟨rfl, c3⟩
      | true =>
        go_enter Tryz.func90, Tryz.ntmps90
        go_wp2_with fail
        refine HC.out.mono ?_
        rintro e w1 ⟨rfl, n1, hw1⟩
        have b1 : Below w.heap.size w w1 := by rw [hw1]; exact ⟨rfl, rfl, rfl, Nat.le_refl _, fun _ _ => rfl⟩
        clear hw1
        go_wp2_with fail
        refine (HA.out _ (HT.out.on b1)).mono ?_
        rintro e w2 ⟨rfl, b2⟩
        have c2 := b1.trans (b2.mono b1.size)
        go_wp2_with fail
        refine (HB.out _ (HT.out.on c2)).mono ?_
        rintro e w3 ⟨rfl, b3⟩
        have c3 := c2.trans (b3.mono c2.size)
        go_wp2
        go_ret3
        exact ⟨rfl, c3⟩
theorem wpl_append_conds {w : World} {ops : Array Oper} {rest : List Oper} {o : Oper} {a : Act} {Q : Exit → Act → World → Prop} (hgd : o.guard = none) (s x : Operand)
    (ho : o.op = .call { callee := .builtin .append, args := #[s, x], argTypes := #[24, 24] })
    (B : Nat) (v u : Value) (cs ds : List CondD) (hs : a.eval s = v) (hx : a.eval x = u) (hown : OwnsC w B v cs) (hu : CondsR w u ds) (hB : B ≤ w.heap.size) (h63 : cs.length + ds.length ≤ 17592186044)
    (h : ∀ v' w', OwnsC w' B v' (cs ++ ds) → Below B w w' → wpList Tryz.prog ops Q rest (a.put o.dst v') w') : wpList Tryz.prog ops Q (o :: rest) a w := by
  refine wpList_plain hgd fun K hK => ?_
  obtain ⟨v', w', hr, h2, h3⟩ := run_append_conds o.type hown hu hB h63
  unfold Oper.wp
  simp [execOp, ho, resolve, invoke, builtin, hs, hx, hr, Result.andThen]
  exact hK _ _ (h v' w' h2 h3)
/-- What parseConds answers. -/
def CondsAns (w : World) (r : Option (List CondD)) (e : Ending) (w' : World) : Prop := ∃ v, e = .returned (.tuple #[v, .bool r.isSome]) ∧ OwnsC w' w.heap.size v (r.getD []) ∧ Below w.heap.size w w'
theorem condsAns_yes {w w' : World} {r : Option (List CondD)} {ys : List CondD} {v : Value} (h : r = some ys) (o : OwnsC w' w.heap.size v ys) (b : Below w.heap.size w w') : CondsAns w r (.returned (.tuple #[v, .bool true])) w' := ⟨v, by rw [h]; rfl, by rw [h]; exact o, b⟩
theorem condsAns_no {w w' : World} {r : Option (List CondD)} (h : r = none) (b : Below w.heap.size w w') : CondsAns w r (.returned (.tuple #[.slice none 0 0, .bool false])) w' := ⟨.slice none 0 0, by rw [h]; rfl, by rw [h]; exact ownsC_nil _ _, b⟩
set_option maxHeartbeats 8000000 in
set_option maxRecDepth 100000 in
theorem parseConds_any (b off cap : Nat) (P : List (List UInt8)) (w : World) (hc : ∀ j, j < P.length → w.cell? ⟨b, off + j, none⟩ = some (.string (strB (P.getD j [])))) (hbl : b < w.heap.size) (hn : P.length ≤ 1048577) (hq : ∀ j, (P.getD j []).length ≤ 1048576) (hT : Tab w) (hM : TabM w) :
    Calls Tryz.prog 65 #[.slice (some ⟨b, off, none⟩) P.length cap] w (CondsAns w (condsGo [] P)) := by
  have HC := Lib.hid hc
  have HN := Lib.hid hn
  have HQ := Lib.hid hq
  have HT := Lib.hid hT
  have HM := Lib.hid hM
  clear hc hq hT hM
  by_cases h2 : P.length % 2 = 0
  · obtain ⟨N, hN⟩ : ∃ N, P.length = 2 * N := ⟨P.length / 2, by omega⟩
    have r0 : ((P.length : Int) % 2 != 0) = false := by rw [bne_eq_false_iff_eq]; omega
    have HNN := Lib.hid hN
    clear hN h2
    go_enter Tryz.func65, Tryz.ntmps65
    go_wp2
    clear r0
    go_loopw [4, 5] (fun l i wr => ∃ (k m : Nat) (acc : List CondD), k ≤ N ∧ Hid (m = 2 * k) ∧ i = .int .i64 m ∧ acc.length = k ∧ Hid (condsGo acc (P.drop m) = condsGo [] P) ∧ OwnsC wr w.heap.size l acc ∧ Below w.heap.size w wr) (fun _ i _ => P.length - (intOf i).toNat)
    case atStart => exact ⟨0, 0, [], Nat.zero_le _, Lib.hid rfl, rfl, rfl, Lib.hid rfl, ownsC_nil _ _, Below.refl _ _⟩
    case round =>
      obtain ⟨k, m, acc, hk, hmk, rfl, hal, hgo, hown, hbel⟩ := hrel
      have HAL := Lib.hid hal
      clear hal
      by_cases hlt : k < N
      · have hml : m + 1 < P.length := by have := hmk.out; have := HNN.out; omega
        have c0 := (hbel.cell (p := ⟨b, off + m, none⟩) hbl).trans (HC.out m (by omega))
        have c1 := (hbel.cell (p := ⟨b, off + (m + 1), none⟩) hbl).trans (HC.out (m + 1) (by omega))
        have i1 : (0 : Int) ≤ (m : Int) := by omega
        have i2 : (m : Int) < (P.length : Int) := by omega
        have i3 : (0 : Int) ≤ (m : Int) + 1 := by omega
        have i4 : (m : Int) + 1 < (P.length : Int) := by omega
        have i5 : ((m : Int) + 1).toNat = m + 1 := by omega
        have i6 : m ≤ 1048576 := by have := HN.out; omega
        have wa : IntKind.i64.wrap ((m : Int) + 1) = (m : Int) + 1 := IntWalk.i64_in _ (by omega)
        have HHIT := Lib.hid (condsGo_hit (acc := acc) hml)
        have HMISS := Lib.hid (condsGo_miss (acc := acc) hml)
        rw [hgo.out] at HHIT HMISS
        have HA := Lib.hid (fun w h => parseTagged_any (P.getD m []) 102 w (HQ.out m) h)
        have HB := Lib.hid (fun w h h' => parseRange_any (P.getD (m + 1) []) w (HQ.out (m + 1)) h h')
        obtain ⟨ca, ccap, rfl⟩ := ownsC_len hown
        have HTK : Hid (∀ k', m + 2 = 2 * (k' + 1) ↔ k' = k) := Lib.hid (by intro k'; have := hmk.out; omega)
        have HM2 : Hid (m + 2 = 2 * (k + 1)) := Lib.hid (by have := hmk.out; omega)
        have HPD : Hid (P.length - (m + 2) < P.length - m) := Lib.hid (by omega)
        clear hgo hml HTK
        generalize P.getD m [] = pa at *
        generalize P.getD (m + 1) [] = pb at *
        obtain ⟨fa, hfa⟩ : ∃ x, (tagP 102 pa).1 = x := ⟨_, rfl⟩
        obtain ⟨ta, hta⟩ : ∃ x, (tagP 102 pa).2 = x := ⟨_, rfl⟩
        obtain ⟨lo, hlo⟩ : ∃ x, (rngP pb).1 = x := ⟨_, rfl⟩
        obtain ⟨hi, hhi⟩ : ∃ x, (rngP pb).2.1 = x := ⟨_, rfl⟩
        obtain ⟨tb, htb⟩ : ∃ x, (rngP pb).2.2 = x := ⟨_, rfl⟩
        rw [hfa, hta] at HA HHIT
        rw [hta, htb] at HMISS
        rw [hlo, hhi, htb] at HB
        rw [hlo, hhi, htb] at HHIT
        clear hfa hta hlo hhi htb
        generalize strB pa = sa at *
        generalize strB pb = sb at *
        cases ta with
        | false =>
          have HF := Lib.hid (HMISS.out rfl)
          clear HHIT HMISS
          go_wp2_with fail
          refine (HA.out _ (HT.out.on hbel)).mono ?_
          rintro e w1 ⟨rfl, b1⟩
          have d1 := hbel.trans (b1.mono hbel.size)
          have o1 := ownsC_below hown b1
          have c1' := (b1.cell (p := ⟨b, off + (m + 1), none⟩) (Nat.lt_of_lt_of_le hbl hbel.size)).trans c1
          clear hown c0 c1 b1 hbel
          go_wp2_with fail
          refine (HB.out _ (HT.out.on d1) (HM.out.on d1)).mono ?_
          rintro e w2 ⟨rfl, b2⟩
          have d2 := d1.trans (b2.mono d1.size)
          have o2 := ownsC_below o1 b2
          clear o1 c1' b2 d1
          go_wp2
          go_ret2
          exact condsAns_no HF.out d2
        | true =>
          cases tb with
          | false =>
            have HF := Lib.hid (HMISS.out rfl)
            clear HHIT HMISS
            go_wp2_with fail
            refine (HA.out _ (HT.out.on hbel)).mono ?_
            rintro e w1 ⟨rfl, b1⟩
            have d1 := hbel.trans (b1.mono hbel.size)
            have o1 := ownsC_below hown b1
            have c1' := (b1.cell (p := ⟨b, off + (m + 1), none⟩) (Nat.lt_of_lt_of_le hbl hbel.size)).trans c1
            clear hown c0 c1 b1 hbel
            go_wp2_with fail
            refine (HB.out _ (HT.out.on d1) (HM.out.on d1)).mono ?_
            rintro e w2 ⟨rfl, b2⟩
            have d2 := d1.trans (b2.mono d1.size)
            have o2 := ownsC_below o1 b2
            clear o1 c1' b2 d1
            go_wp2
            go_ret2
            exact condsAns_no HF.out d2
          | true =>
            have HG := Lib.hid (HHIT.out rfl rfl).symm
            clear HHIT HMISS
            go_wp2_with fail
            refine (HA.out _ (HT.out.on hbel)).mono ?_
            rintro e w1 ⟨rfl, b1⟩
            have d1 := hbel.trans (b1.mono hbel.size)
            have o1 := ownsC_below hown b1
            have c1' := (b1.cell (p := ⟨b, off + (m + 1), none⟩) (Nat.lt_of_lt_of_le hbl hbel.size)).trans c1
            clear hown c0 c1 b1 hbel
            go_wp2_with fail
            refine (HB.out _ (HT.out.on d1) (HM.out.on d1)).mono ?_
            rintro e w2 ⟨rfl, b2⟩
            have d2 := d1.trans (b2.mono d1.size)
            have o2 := ownsC_below o1 b2
            clear o1 c1' b2 d1
            have al : Below w2.heap.size w2 (w2.alloc (.cells #[.int .i64 fa, .int .i64 lo, .int .i64 hi] 67)) := (Below.refl _ _).alloc (Nat.le_refl _) _
            have q7 : (w2.alloc (.cells #[.int .i64 fa, .int .i64 lo, .int .i64 hi] 67)).cell? ⟨w2.heap.size, 0, none⟩ = some (.int .i64 fa) ∧ (w2.alloc (.cells #[.int .i64 fa, .int .i64 lo, .int .i64 hi] 67)).cell? ⟨w2.heap.size, 1, none⟩ = some (.int .i64 lo) ∧ (w2.alloc (.cells #[.int .i64 fa, .int .i64 lo, .int .i64 hi] 67)).cell? ⟨w2.heap.size, 2, none⟩ = some (.int .i64 hi) := ⟨(cell_lit w2 #[.int .i64 fa, .int .i64 lo, .int .i64 hi] 67 0).trans rfl, (cell_lit w2 #[.int .i64 fa, .int .i64 lo, .int .i64 hi] 67 1).trans rfl, (cell_lit w2 #[.int .i64 fa, .int .i64 lo, .int .i64 hi] 67 2).trans rfl⟩
            have l7 : w2.heap.size < (w2.alloc (.cells #[.int .i64 fa, .int .i64 lo, .int .i64 hi] 67)).heap.size := by simp
            have o3 := ownsC_below o2 al
            have d3 := d2.trans (al.mono d2.size)
            have HR7 := Lib.hid (conds_one q7 l7)
            clear o2 q7 l7 al d2
            go_wp2_with (at_builtin; refine wpl_append_conds rfl (.tmp 45) (.tmp 50) rfl w.heap.size _ _ acc [(fa, lo, hi)] rfl rfl o3 HR7.out d3.size (by have := HAL.out; have := HN.out; have := HNN.out; simp; omega) ?_; intro u4 w4 o4 b4)
            have d4 := d3.trans b4
            go_roundw
            case rel => exact ⟨k + 1, m + 2, acc ++ [(fa, lo, hi)], by omega, HM2, by go_num, by simp; exact HAL.out, HG, o4, d4⟩
            case measure => simp [intOf]; omega
      · obtain rfl : k = N := by omega
        have hm : m = P.length := by have := hmk.out; have := HNN.out; omega
        have HA : Hid (condsGo [] P = some acc) := Lib.hid (by rw [← hgo.out, hm, List.drop_length]; rfl)
        subst hm
        clear hgo
        go_wp2
        go_ret2
        exact condsAns_yes HA.out hown hbel
  · have r0 : ((P.length : Int) % 2 != 0) = true := by rw [bne_iff_ne]; omega
    have HF := Lib.hid (condsGo_odd P [] h2)
    clear h2
    go_enter Tryz.func65, Tryz.ntmps65
    go_wp2
    go_ret2
    exact condsAns_no HF.out (Below.refl _ _)
/-- What queryOf answers: a query in memory of its own, and whether the pieces are a query's. -/
def QueryAns (w : World) (r : Option QD) (e : Ending) (w' : World) : Prop :=
  ∃ (q : QD) (cv ov : Value), e = .returned (.tuple #[qV q.1 q.2.1 cv ov, .bool r.isSome]) ∧ OwnsC w' w.heap.size cv q.2.2.1 ∧ OwnsN w' w.heap.size ov q.2.2.2 ∧ (∀ b, cv.ownBlock = some b → ov.ownBlock ≠ some b) ∧ (∀ q', r = some q' → q' = q) ∧ q.2.2.1.length ≤ 1048576 ∧ q.2.2.2.length ≤ 1048576 ∧ Below w.heap.size w w'
theorem queryAns_zero {w w' : World} {r : Option QD} (h : r = none) (b : Below w.heap.size w w') : QueryAns w r (.returned (.tuple #[qV 0 0 (.slice none 0 0) (.slice none 0 0), .bool false])) w' :=
  ⟨q0D, .slice none 0 0, .slice none 0 0, by rw [h]; rfl, ownsC_nil _ _, ownsN_nil _ _, fun b hb => by simp [Value.ownBlock] at hb, fun q' hq => by rw [h] at hq; simp at hq, by simp [q0D], by simp [q0D], b⟩
theorem pQ_short {P : List (List UInt8)} (h : P.length < 4) : pQ P = none := by unfold pQ; rw [if_pos (Or.inl h)]
theorem pQ_word {P : List (List UInt8)} (h : P.getD (P.length - 2) [] ≠ [111, 117, 116]) : pQ P = none := by unfold pQ; rw [if_pos (Or.inr h)]
theorem pQ_go {P : List (List UInt8)} (h1 : ¬ P.length < 4) (h2 : P.getD (P.length - 2) [] = [111, 117, 116]) : pQ P = pickQ (tagP 113 (P.getD 0 [])) (tagP 116 (P.getD 1 [])) (condsGo [] ((P.drop 2).take (P.length - 4))) (intsGo [] (cutL 44 (P.getD (P.length - 1) []))) := by
  unfold pQ; rw [if_neg (fun g => g.elim h1 (fun g => g h2))]
theorem queryAns_any {w w' : World} {r : Option QD} {n0 n1 : Int} {cs : List CondD} {os : List Int} {cv ov : Value} {ok : Bool} (h1 : r.isSome = ok) (h2 : ∀ q, r = some q → q = (n0, n1, cs, os)) (o : OwnsC w' w.heap.size cv cs) (n : OwnsN w' w.heap.size ov os) (d : ∀ b, cv.ownBlock = some b → ov.ownBlock ≠ some b) (l1 : cs.length ≤ 1048576) (l2 : os.length ≤ 1048576) (b : Below w.heap.size w w') :
    QueryAns w r (.returned (.tuple #[qV n0 n1 cv ov, .bool ok])) w' := ⟨(n0, n1, cs, os), cv, ov, by rw [h1], o, n, d, h2, l1, l2, b⟩
theorem condsGo_len : ∀ (P : List (List UInt8)) (acc r : List CondD), condsGo acc P = some r → r.length ≤ acc.length + P.length
  | [], acc, r, h => by simp [condsGo] at h; rw [h]; simp
  | [_], acc, r, h => by simp [condsGo] at h
  | a :: b :: q, acc, r, h => by
    change (if _ then _ else _) = _ at h
    split at h
    · have := condsGo_len q _ r h
      simp at this ⊢; omega
    · simp at h
set_option maxHeartbeats 8000000 in
set_option maxRecDepth 100000 in
theorem queryOf_any (b : Nat) (cap : Nat) (P : List (List UInt8)) (w : World) (hc : ∀ j, j < P.length → w.cell? ⟨b, j, none⟩ = some (.string (strB (P.getD j [])))) (hbl : b < w.heap.size) (hn : P.length ≤ 1048577) (hcap : P.length ≤ cap) (hq : ∀ j, (P.getD j []).length ≤ 1048576) (hq2 : 4 ≤ P.length → ∀ j, (P.getD j []).length ≤ 1048575) (hT : Tab w) (hM : TabM w) :
    Calls Tryz.prog 34 #[.slice (some ⟨b, 0, none⟩) P.length cap] w (QueryAns w (pQ P)) := by
  have HC := Lib.hid hc
  have HN := Lib.hid hn
  have HQ := Lib.hid hq
  have HT := Lib.hid hT
  have HM := Lib.hid hM
  have HCAP := Lib.hid hcap
  clear hc hq hT hM
  have wa : IntKind.i64.wrap ((P.length : Int) - 2) = (P.length : Int) - 2 := IntWalk.i64_in _ (by omega)
  have hb0 : Below w.heap.size w (w.alloc (.cells #[.int .i64 0, .int .i64 0, .slice none 0 0, .slice none 0 0] 27)) := (Below.refl _ w).alloc (Nat.le_refl _) _
  have g0 := heap_alloc_new w (.cells #[.int .i64 0, .int .i64 0, .slice none 0 0, .slice none 0 0] 27)
  have hlt : w.heap.size < (w.alloc (.cells #[.int .i64 0, .int .i64 0, .slice none 0 0, .slice none 0 0] 27)).heap.size := by simp
  have z0 := (cell_of_row (w.alloc (.cells #[.int .i64 0, .int .i64 0, .slice none 0 0, .slice none 0 0] 27)) _ 0 _ _ _ g0).trans (show _ = some (Value.int .i64 0) from rfl)
  have z1 := (cell_of_row (w.alloc (.cells #[.int .i64 0, .int .i64 0, .slice none 0 0, .slice none 0 0] 27)) _ 1 _ _ _ g0).trans (show _ = some (Value.int .i64 0) from rfl)
  have z2 := (cell_of_row (w.alloc (.cells #[.int .i64 0, .int .i64 0, .slice none 0 0, .slice none 0 0] 27)) _ 2 _ _ _ g0).trans (show _ = some (Value.slice none 0 0) from rfl)
  have z3 := (cell_of_row (w.alloc (.cells #[.int .i64 0, .int .i64 0, .slice none 0 0, .slice none 0 0] 27)) _ 3 _ _ _ g0).trans (show _ = some (Value.slice none 0 0) from rfl)
  have f0 := frozen_of_row (w.alloc (.cells #[.int .i64 0, .int .i64 0, .slice none 0 0, .slice none 0 0] 27)) _ 0 _ _ g0
  have f1 := frozen_of_row (w.alloc (.cells #[.int .i64 0, .int .i64 0, .slice none 0 0, .slice none 0 0] 27)) _ 1 _ _ g0
  have f2 := frozen_of_row (w.alloc (.cells #[.int .i64 0, .int .i64 0, .slice none 0 0, .slice none 0 0] 27)) _ 2 _ _ g0
  have f3 := frozen_of_row (w.alloc (.cells #[.int .i64 0, .int .i64 0, .slice none 0 0, .slice none 0 0] 27)) _ 3 _ _ g0
  by_cases h4 : P.length < 4
  · have HF := Lib.hid (pQ_short h4)
    clear hq2
    have i0 : (P.length : Int) - 2 < 2 := by omega
    clear h4 hcap hn
    go_enter Tryz.func34, Tryz.ntmps34
    go_wp2
    generalize w.alloc (.cells #[.int .i64 0, .int .i64 0, .slice none 0 0, .slice none 0 0] 27) = W at *
    have e0 := cell_of_row W _ 0 _ _ _ g0
    have e1 := cell_of_row W _ 1 _ _ _ g0
    have e2 := cell_of_row W _ 2 _ _ _ g0
    have e3 := cell_of_row W _ 3 _ _ _ g0
    simp at e0 e1 e2 e3
    refine bodyPost_ret (v := .tuple #[qV 0 0 (.slice none 0 0) (.slice none 0 0), .bool false]) ?_ rfl ?_
    · simp [results, Tryz.f34, go_sem, e0, e1, e2, e3, qV]
    · exact queryAns_zero HF.out hb0
  obtain ⟨m, hm⟩ : ∃ m, P.length = m + 2 := ⟨P.length - 2, by omega⟩
  have hm2 : 2 ≤ m := by omega
  have wb : IntKind.i64.wrap ((P.length : Int) - 2) = (m : Int) := by rw [wa]; omega
  have we : (P.length : Int) - 2 = (m : Int) := by omega
  have j0 : (0 : Int) ≤ (m : Int) := by omega
  have j1 : (m : Int) < (P.length : Int) := by omega
  have j2 : ¬ (m : Int) < 2 := by omega
  have cm := (hb0.cell (p := ⟨b, m, none⟩) hbl).trans (HC.out m (by omega))
  have HMM := Lib.hid hm
  have hGO := pQ_go (P := P) h4
  rw [show P.length - 2 = m by omega] at hGO
  have hWD := pQ_word (P := P)
  rw [show P.length - 2 = m by omega] at hWD
  have HGO := Lib.hid hGO
  have HWD := Lib.hid hWD
  have em : (strB (P.getD m [])).toList = P.getD m [] := strB_toList _
  have HQ3 := hq2 (by omega)
  clear hm hGO hWD wa h4
  by_cases ho : P.getD m [] = [111, 117, 116]
  · have ho' : (!((strB (P.getD m [])).toList == [111, 117, 116])) = false := by rw [em, ho]; rfl
    have HG := Lib.hid (HGO.out ho)
    have HP4 : Hid (P.length - 4 = m - 2) := Lib.hid (by have := HMM.out; omega)
    rw [show P.length - 4 = m - 2 from HP4.out, show P.length - 1 = m + 1 by have := HMM.out; omega] at HG
    obtain ⟨P2, hP2⟩ : ∃ P2, (P.drop 2).take (m - 2) = P2 := ⟨_, rfl⟩
    have hl2 : P2.length = m - 2 := by rw [← hP2, List.length_take, List.length_drop]; have := HMM.out; omega
    have hg2 : ∀ j, j < P2.length → P2.getD j [] = P.getD (2 + j) [] := fun j hj => by
      rw [hl2] at hj
      rw [← hP2, List.getD, List.getD, List.getElem?_take, if_pos hj, List.getElem?_drop]
    have hq3 : ∀ j, (P2.getD j []).length ≤ 1048576 := fun j => by
      by_cases hj : j < P2.length
      · rw [hg2 j hj]; exact HQ.out _
      · rw [List.getD, List.getElem?_eq_none (by omega)]; simp
    have HCO : Hid (∀ cap' w', Below w.heap.size w w' → Calls Tryz.prog 65 #[.slice (some ⟨b, 2, none⟩) P2.length cap'] w' (CondsAns w' (condsGo [] P2))) := Lib.hid (fun cap' w' hb => parseConds_any b 2 cap' P2 w' (fun j hj => by
      rw [hg2 j hj]
      exact (hb.cell (p := ⟨b, 2 + j, none⟩) hbl).trans (HC.out (2 + j) (by have := HMM.out; omega))) (Nat.lt_of_lt_of_le hbl hb.size) (by have := HN.out; have := HMM.out; omega) hq3 (HT.out.on hb) (HM.out.on hb))
    have HCL : Hid (∀ cs, condsGo [] P2 = some cs → cs.length ≤ 1048576) := Lib.hid (fun cs h => by have := condsGo_len P2 [] cs h; simp at this; have := HN.out; have := HMM.out; omega)
    rw [hP2] at HG
    have HL2 := Lib.hid hl2
    rw [hl2] at HCO
    have HA := Lib.hid (fun w h => parseTagged_any (P.getD 0 []) 113 w (HQ.out 0) h)
    have HB := Lib.hid (fun w h => parseTagged_any (P.getD 1 []) 116 w (HQ.out 1) h)
    have HS := Lib.hid (fun w h => Comma.splitInts_any (P.getD (m + 1) []) w (HQ.out (m + 1)) h)
    have HIL : Hid (∀ os, intsGo [] (cutL 44 (P.getD (m + 1) [])) = some os → os.length ≤ 1048576) := Lib.hid (fun os h => by
      obtain ⟨_, e⟩ := intsGo_some _ _ _ h
      rw [e, List.nil_append, List.length_map]; have := cut_len 44 (P.getD (m + 1) []); have := HQ3 (m + 1); omega)
    have c0 := (hb0.cell (p := ⟨b, 0, none⟩) hbl).trans (HC.out 0 (by omega))
    have c1 := HC.out 1 (by omega)
    have cl := HC.out (m + 1) (by have := HMM.out; omega)
    have k1 : (0 : Int) < (P.length : Int) := by omega
    have k2 : (1 : Int) < (P.length : Int) := by omega
    have k3 : (m : Int) + 1 < (P.length : Int) := by have := HMM.out; omega
    have k4 : (0 : Int) ≤ (m : Int) + 1 := by omega
    have k5 : ((m : Int) + 1).toNat = m + 1 := by omega
    have k6 : IntKind.i64.wrap ((m : Int) + 1) = (m : Int) + 1 := IntWalk.i64_in _ (by omega)
    have k7 : (2 : Int) ≤ (m : Int) := by omega
    have k8 : (m : Int) ≤ (cap : Int) := by have := HCAP.out; omega
    clear hP2 hl2 hg2 hq2 hq3 em ho HGO HWD HQ3
    generalize P.getD 0 [] = p0 at *
    generalize P.getD 1 [] = p1 at *
    generalize P.getD (m + 1) [] = pl at *
    generalize strB (P.getD m []) = sm at *
    have hpf := pickQ_facts (tagP 113 p0) (tagP 116 p1) (condsGo [] P2) (intsGo [] (cutL 44 pl))
    rw [← HG.out] at hpf
    obtain ⟨n0, hn0⟩ : ∃ x, (tagP 113 p0).1 = x := ⟨_, rfl⟩
    obtain ⟨t0, ht0⟩ : ∃ x, (tagP 113 p0).2 = x := ⟨_, rfl⟩
    obtain ⟨n1, hn1⟩ : ∃ x, (tagP 116 p1).1 = x := ⟨_, rfl⟩
    obtain ⟨t1, ht1⟩ : ∃ x, (tagP 116 p1).2 = x := ⟨_, rfl⟩
    rw [hn0, ht0] at HA hpf
    rw [hn1, ht1] at HB hpf
    clear hn0 ht0 hn1 ht1 HG
    generalize condsGo [] P2 = r1 at *
    generalize intsGo [] (cutL 44 pl) = r2 at *
    have HOK := Lib.hid hpf.1
    have HEQ := Lib.hid hpf.2
    have HL1 : Hid ((r1.getD []).length ≤ 1048576) := Lib.hid (by cases r1 with | none => simp | some cs => exact HCL.out cs rfl)
    have HL3 : Hid ((r2.getD []).length ≤ 1048576) := Lib.hid (by cases r2 with | none => simp | some cs => exact HIL.out cs rfl)
    clear hpf HCL HIL
    go_enter Tryz.func34, Tryz.ntmps34
    go_wp2_with fail
    generalize w.alloc (.cells #[.int .i64 0, .int .i64 0, .slice none 0 0, .slice none 0 0] 27) = W at *
    refine (HA.out _ (HT.out.on hb0)).mono ?_
    rintro e w1 ⟨rfl, b1⟩
    have d1 := hb0.trans (b1.mono hb0.size)
    have g1 := (b1.block w.heap.size hlt).trans g0
    have l1 := Nat.lt_of_lt_of_le hlt b1.size
    replace c1 := (d1.cell (p := ⟨b, 1, none⟩) hbl).trans c1
    clear hb0 g0 hlt b1 z0 z1 z2 z3 f0 f1 f2 f3 cm c0
    go_wp2_with fail
    refine (HB.out _ (HT.out.on d1)).mono ?_
    rintro e w2 ⟨rfl, b2⟩
    have d2 := d1.trans (b2.mono d1.size)
    have g2 := (b2.block w.heap.size l1).trans g1
    have l2 := Nat.lt_of_lt_of_le l1 b2.size
    clear d1 g1 l1 b2 c1
    go_wp2_with fail
    have L1 := Lib.hid l2
    refine (HCO.out _ _ d2).mono ?_
    rintro e w3 ⟨cv, rfl, oc, b3⟩
    have d3 := d2.trans (b3.mono d2.size)
    have g3 := (b3.block w.heap.size l2).trans g2
    have l3 := Nat.lt_of_lt_of_le l2 b3.size
    replace cl := (d3.cell (p := ⟨b, m + 1, none⟩) hbl).trans cl
    go_wp2_with fail
    refine (HS.out _ (HT.out.on d3)).mono ?_
    rintro e w4 ⟨ov, rfl, oo, b4⟩
    have d4 := d3.trans (b4.mono d3.size)
    have g4 := (b4.block w.heap.size l3).trans g3
    have l4 := Nat.lt_of_lt_of_le l3 b4.size
    have hap : ∀ x, cv.ownBlock = some x → ov.ownBlock ≠ some x := fun x h1 h2 => by have := (oc.lt x h1).2; have := (oo.lt x h2).1; omega
    have oc4 := ownsC_below oc b4
    clear oc d2 g2 l2 b3 g3 cl b4
    obtain ⟨ca, ccap, rfl⟩ := ownsC_len oc4
    obtain ⟨oa, ocap, rfl⟩ := ints_len (ownsN_ints oo)
    generalize r1.getD [] = cs at *
    generalize r2.getD [] = os at *
    generalize r1.isSome = s1 at *
    generalize r2.isSome = s2 at *
    have hb5 : Below w4.heap.size w4 (w4.alloc (.cells #[.int .i64 n0, .int .i64 n1, .slice ca cs.length ccap, .slice oa os.length ocap] 27)) := (Below.refl _ _).alloc (Nat.le_refl _) _
    have g5 := (hb5.block w.heap.size l4).trans g4
    have o5 := Lib.hid (ownsC_below oc4 hb5)
    have n5 := Lib.hid (ownsN_below oo hb5)
    have D5 := Lib.hid (d4.trans (hb5.mono d4.size))
    have L2 := Lib.hid l3
    have hq5 := heap_alloc_new w4 (.cells #[.int .i64 n0, .int .i64 n1, .slice ca cs.length ccap, .slice oa os.length ocap] 27)
    have y0 := (cell_of_row (w4.alloc (.cells #[.int .i64 n0, .int .i64 n1, .slice ca cs.length ccap, .slice oa os.length ocap] 27)) _ 0 _ _ _ hq5).trans (show _ = some (Value.int .i64 n0) from rfl)
    have y1 := (cell_of_row (w4.alloc (.cells #[.int .i64 n0, .int .i64 n1, .slice ca cs.length ccap, .slice oa os.length ocap] 27)) _ 1 _ _ _ hq5).trans (show _ = some (Value.int .i64 n1) from rfl)
    have y2 := (cell_of_row (w4.alloc (.cells #[.int .i64 n0, .int .i64 n1, .slice ca cs.length ccap, .slice oa os.length ocap] 27)) _ 2 _ _ _ hq5).trans (show _ = some (Value.slice ca cs.length ccap) from rfl)
    have y3 := (cell_of_row (w4.alloc (.cells #[.int .i64 n0, .int .i64 n1, .slice ca cs.length ccap, .slice oa os.length ocap] 27)) _ 3 _ _ _ hq5).trans (show _ = some (Value.slice oa os.length ocap) from rfl)
    have z0 := (cell_of_row (w4.alloc (.cells #[.int .i64 n0, .int .i64 n1, .slice ca cs.length ccap, .slice oa os.length ocap] 27)) _ 0 _ _ _ g5).trans (show _ = some (Value.int .i64 0) from rfl)
    have f0 := frozen_of_row (w4.alloc (.cells #[.int .i64 n0, .int .i64 n1, .slice ca cs.length ccap, .slice oa os.length ocap] 27)) _ 0 _ _ g5
    have z1 := (cell_of_row (w4.alloc (.cells #[.int .i64 n0, .int .i64 n1, .slice ca cs.length ccap, .slice oa os.length ocap] 27)) _ 1 _ _ _ g5).trans (show _ = some (Value.int .i64 0) from rfl)
    have f1 := frozen_of_row (w4.alloc (.cells #[.int .i64 n0, .int .i64 n1, .slice ca cs.length ccap, .slice oa os.length ocap] 27)) _ 1 _ _ g5
    have z2 := (cell_of_row (w4.alloc (.cells #[.int .i64 n0, .int .i64 n1, .slice ca cs.length ccap, .slice oa os.length ocap] 27)) _ 2 _ _ _ g5).trans (show _ = some (Value.slice none 0 0) from rfl)
    have f2 := frozen_of_row (w4.alloc (.cells #[.int .i64 n0, .int .i64 n1, .slice ca cs.length ccap, .slice oa os.length ocap] 27)) _ 2 _ _ g5
    have z3 := (cell_of_row (w4.alloc (.cells #[.int .i64 n0, .int .i64 n1, .slice ca cs.length ccap, .slice oa os.length ocap] 27)) _ 3 _ _ _ g5).trans (show _ = some (Value.slice none 0 0) from rfl)
    have f3 := frozen_of_row (w4.alloc (.cells #[.int .i64 n0, .int .i64 n1, .slice ca cs.length ccap, .slice oa os.length ocap] 27)) _ 3 _ _ g5
    have HG5 := Lib.hid g5
    have HAP := Lib.hid hap
    clear hap oc4 oo hb5 g5 hq5 d4 g4 l4
    cases t0 with
    | false =>
      have HO2 : Hid ((pQ P).isSome = false) := Lib.hid (by rw [HOK.out]; rfl)
      clear HOK
      go_wp2
      generalize (w4.alloc (.cells #[.int .i64 n0, .int .i64 n1, .slice ca cs.length ccap, .slice oa os.length ocap] 27)) = W5 at *
      have r1 := heap_setCell_same W5 (w.heap.size) 0 _ _ (.int .i64 n0) HG5.out
      have r2 := heap_setCell_same _ (w.heap.size) 1 _ _ (.int .i64 n1) r1
      have r3 := heap_setCell_same _ (w.heap.size) 2 _ _ (.slice ca cs.length ccap) r2
      have r4 := heap_setCell_same _ (w.heap.size) 3 _ _ (.slice oa os.length ocap) r3
      have B6 := ((((D5.out.setCell (p := ⟨w.heap.size, 0, none⟩) (Nat.le_refl _) (.int .i64 n0)).setCell (p := ⟨w.heap.size, 1, none⟩) (Nat.le_refl _) (.int .i64 n1)).setCell (p := ⟨w.heap.size, 2, none⟩) (Nat.le_refl _) (.slice ca cs.length ccap)).setCell (p := ⟨w.heap.size, 3, none⟩) (Nat.le_refl _) (.slice oa os.length ocap))
      have O6 := (ownsC_low (ownsC_low (ownsC_low (ownsC_low o5.out (b := w.heap.size) L1.out 0 (.int .i64 n0)) (b := w.heap.size) L1.out 1 (.int .i64 n1)) (b := w.heap.size) L1.out 2 (.slice ca cs.length ccap)) (b := w.heap.size) L1.out 3 (.slice oa os.length ocap))
      have N6 := (ownsN_low (ownsN_low (ownsN_low (ownsN_low n5.out (b := w.heap.size) L2.out 0 (.int .i64 n0)) (b := w.heap.size) L2.out 1 (.int .i64 n1)) (b := w.heap.size) L2.out 2 (.slice ca cs.length ccap)) (b := w.heap.size) L2.out 3 (.slice oa os.length ocap))
      have e0 := cell_of_row _ _ 0 _ _ _ r4
      have e1 := cell_of_row _ _ 1 _ _ _ r4
      have e2 := cell_of_row _ _ 2 _ _ _ r4
      have e3 := cell_of_row _ _ 3 _ _ _ r4
      simp at e0 e1 e2 e3
      refine bodyPost_ret (v := .tuple #[qV n0 n1 (.slice ca cs.length ccap) (.slice oa os.length ocap), .bool false]) ?_ rfl ?_
      · simp [results, Tryz.f34, go_sem, e0, e1, e2, e3, qV]
      · exact queryAns_any HO2.out HEQ.out (ownsC_up O6 (Nat.le_of_lt L1.out)) (ownsN_up N6 (Nat.le_of_lt L2.out)) HAP.out HL1.out HL3.out B6
    | true =>
      cases t1 with
      | false =>
        have HO2 : Hid ((pQ P).isSome = false) := Lib.hid (by rw [HOK.out]; rfl)
        clear HOK
        go_wp2
        generalize (w4.alloc (.cells #[.int .i64 n0, .int .i64 n1, .slice ca cs.length ccap, .slice oa os.length ocap] 27)) = W5 at *
        have r1 := heap_setCell_same W5 (w.heap.size) 0 _ _ (.int .i64 n0) HG5.out
        have r2 := heap_setCell_same _ (w.heap.size) 1 _ _ (.int .i64 n1) r1
        have r3 := heap_setCell_same _ (w.heap.size) 2 _ _ (.slice ca cs.length ccap) r2
        have r4 := heap_setCell_same _ (w.heap.size) 3 _ _ (.slice oa os.length ocap) r3
        have B6 := ((((D5.out.setCell (p := ⟨w.heap.size, 0, none⟩) (Nat.le_refl _) (.int .i64 n0)).setCell (p := ⟨w.heap.size, 1, none⟩) (Nat.le_refl _) (.int .i64 n1)).setCell (p := ⟨w.heap.size, 2, none⟩) (Nat.le_refl _) (.slice ca cs.length ccap)).setCell (p := ⟨w.heap.size, 3, none⟩) (Nat.le_refl _) (.slice oa os.length ocap))
        have O6 := (ownsC_low (ownsC_low (ownsC_low (ownsC_low o5.out (b := w.heap.size) L1.out 0 (.int .i64 n0)) (b := w.heap.size) L1.out 1 (.int .i64 n1)) (b := w.heap.size) L1.out 2 (.slice ca cs.length ccap)) (b := w.heap.size) L1.out 3 (.slice oa os.length ocap))
        have N6 := (ownsN_low (ownsN_low (ownsN_low (ownsN_low n5.out (b := w.heap.size) L2.out 0 (.int .i64 n0)) (b := w.heap.size) L2.out 1 (.int .i64 n1)) (b := w.heap.size) L2.out 2 (.slice ca cs.length ccap)) (b := w.heap.size) L2.out 3 (.slice oa os.length ocap))
        have e0 := cell_of_row _ _ 0 _ _ _ r4
        have e1 := cell_of_row _ _ 1 _ _ _ r4
        have e2 := cell_of_row _ _ 2 _ _ _ r4
        have e3 := cell_of_row _ _ 3 _ _ _ r4
        simp at e0 e1 e2 e3
        refine bodyPost_ret (v := .tuple #[qV n0 n1 (.slice ca cs.length ccap) (.slice oa os.length ocap), .bool false]) ?_ rfl ?_
        · simp [results, Tryz.f34, go_sem, e0, e1, e2, e3, qV]
        · exact queryAns_any HO2.out HEQ.out (ownsC_up O6 (Nat.le_of_lt L1.out)) (ownsN_up N6 (Nat.le_of_lt L2.out)) HAP.out HL1.out HL3.out B6
      | true =>
        cases s1 with
        | false =>
          have HO2 : Hid ((pQ P).isSome = false) := Lib.hid (by rw [HOK.out]; rfl)
          clear HOK
          go_wp2
          generalize (w4.alloc (.cells #[.int .i64 n0, .int .i64 n1, .slice ca cs.length ccap, .slice oa os.length ocap] 27)) = W5 at *
          have r1 := heap_setCell_same W5 (w.heap.size) 0 _ _ (.int .i64 n0) HG5.out
          have r2 := heap_setCell_same _ (w.heap.size) 1 _ _ (.int .i64 n1) r1
          have r3 := heap_setCell_same _ (w.heap.size) 2 _ _ (.slice ca cs.length ccap) r2
          have r4 := heap_setCell_same _ (w.heap.size) 3 _ _ (.slice oa os.length ocap) r3
          have B6 := ((((D5.out.setCell (p := ⟨w.heap.size, 0, none⟩) (Nat.le_refl _) (.int .i64 n0)).setCell (p := ⟨w.heap.size, 1, none⟩) (Nat.le_refl _) (.int .i64 n1)).setCell (p := ⟨w.heap.size, 2, none⟩) (Nat.le_refl _) (.slice ca cs.length ccap)).setCell (p := ⟨w.heap.size, 3, none⟩) (Nat.le_refl _) (.slice oa os.length ocap))
          have O6 := (ownsC_low (ownsC_low (ownsC_low (ownsC_low o5.out (b := w.heap.size) L1.out 0 (.int .i64 n0)) (b := w.heap.size) L1.out 1 (.int .i64 n1)) (b := w.heap.size) L1.out 2 (.slice ca cs.length ccap)) (b := w.heap.size) L1.out 3 (.slice oa os.length ocap))
          have N6 := (ownsN_low (ownsN_low (ownsN_low (ownsN_low n5.out (b := w.heap.size) L2.out 0 (.int .i64 n0)) (b := w.heap.size) L2.out 1 (.int .i64 n1)) (b := w.heap.size) L2.out 2 (.slice ca cs.length ccap)) (b := w.heap.size) L2.out 3 (.slice oa os.length ocap))
          have e0 := cell_of_row _ _ 0 _ _ _ r4
          have e1 := cell_of_row _ _ 1 _ _ _ r4
          have e2 := cell_of_row _ _ 2 _ _ _ r4
          have e3 := cell_of_row _ _ 3 _ _ _ r4
          simp at e0 e1 e2 e3
          refine bodyPost_ret (v := .tuple #[qV n0 n1 (.slice ca cs.length ccap) (.slice oa os.length ocap), .bool false]) ?_ rfl ?_
          · simp [results, Tryz.f34, go_sem, e0, e1, e2, e3, qV]
          · exact queryAns_any HO2.out HEQ.out (ownsC_up O6 (Nat.le_of_lt L1.out)) (ownsN_up N6 (Nat.le_of_lt L2.out)) HAP.out HL1.out HL3.out B6
        | true =>
          have HO2 : Hid ((pQ P).isSome = s2) := Lib.hid (by rw [HOK.out]; cases s2 <;> rfl)
          clear HOK
          go_wp2
          generalize (w4.alloc (.cells #[.int .i64 n0, .int .i64 n1, .slice ca cs.length ccap, .slice oa os.length ocap] 27)) = W5 at *
          have r1 := heap_setCell_same W5 (w.heap.size) 0 _ _ (.int .i64 n0) HG5.out
          have r2 := heap_setCell_same _ (w.heap.size) 1 _ _ (.int .i64 n1) r1
          have r3 := heap_setCell_same _ (w.heap.size) 2 _ _ (.slice ca cs.length ccap) r2
          have r4 := heap_setCell_same _ (w.heap.size) 3 _ _ (.slice oa os.length ocap) r3
          have B6 := ((((D5.out.setCell (p := ⟨w.heap.size, 0, none⟩) (Nat.le_refl _) (.int .i64 n0)).setCell (p := ⟨w.heap.size, 1, none⟩) (Nat.le_refl _) (.int .i64 n1)).setCell (p := ⟨w.heap.size, 2, none⟩) (Nat.le_refl _) (.slice ca cs.length ccap)).setCell (p := ⟨w.heap.size, 3, none⟩) (Nat.le_refl _) (.slice oa os.length ocap))
          have O6 := (ownsC_low (ownsC_low (ownsC_low (ownsC_low o5.out (b := w.heap.size) L1.out 0 (.int .i64 n0)) (b := w.heap.size) L1.out 1 (.int .i64 n1)) (b := w.heap.size) L1.out 2 (.slice ca cs.length ccap)) (b := w.heap.size) L1.out 3 (.slice oa os.length ocap))
          have N6 := (ownsN_low (ownsN_low (ownsN_low (ownsN_low n5.out (b := w.heap.size) L2.out 0 (.int .i64 n0)) (b := w.heap.size) L2.out 1 (.int .i64 n1)) (b := w.heap.size) L2.out 2 (.slice ca cs.length ccap)) (b := w.heap.size) L2.out 3 (.slice oa os.length ocap))
          have e0 := cell_of_row _ _ 0 _ _ _ r4
          have e1 := cell_of_row _ _ 1 _ _ _ r4
          have e2 := cell_of_row _ _ 2 _ _ _ r4
          have e3 := cell_of_row _ _ 3 _ _ _ r4
          simp at e0 e1 e2 e3
          refine bodyPost_ret (v := .tuple #[qV n0 n1 (.slice ca cs.length ccap) (.slice oa os.length ocap), .bool s2]) ?_ rfl ?_
          · simp [results, Tryz.f34, go_sem, e0, e1, e2, e3, qV]
          · exact queryAns_any HO2.out HEQ.out (ownsC_up O6 (Nat.le_of_lt L1.out)) (ownsN_up N6 (Nat.le_of_lt L2.out)) HAP.out HL1.out HL3.out B6
  · have HF := Lib.hid (HWD.out ho)
    have ho' : (!((strB (P.getD m [])).toList == [111, 117, 116])) = true := by rw [em, Bool.not_eq_true', beq_eq_false_iff_ne]; exact ho
    clear ho em HGO HWD HQ3 hq2
    generalize strB (P.getD m []) = sm at *
    go_enter Tryz.func34, Tryz.ntmps34
    go_wp2
    generalize w.alloc (.cells #[.int .i64 0, .int .i64 0, .slice none 0 0, .slice none 0 0] 27) = W at *
    have e0 := cell_of_row W _ 0 _ _ _ g0
    have e1 := cell_of_row W _ 1 _ _ _ g0
    have e2 := cell_of_row W _ 2 _ _ _ g0
    have e3 := cell_of_row W _ 3 _ _ _ g0
    simp at e0 e1 e2 e3
    refine bodyPost_ret (v := .tuple #[qV 0 0 (.slice none 0 0) (.slice none 0 0), .bool false]) ?_ rfl ?_
    · simp [results, Tryz.f34, go_sem, e0, e1, e2, e3, qV]
    · exact queryAns_zero HF.out hb0
theorem split_any (l : List UInt8) (w : World) (hl : l.length ≤ 1048576) (hM : TabM w) :
    Calls Tryz.prog 35 #[.string (strB l), .string ⟨#[32]⟩] w fun e w' => e = .returned (.slice (some ⟨w.heap.size, 0, none⟩) (cutL 32 l).length (cutL 32 l).length) ∧ w' = w.alloc (.cells ((cutL 32 l).map (fun p => Value.string (strB p))).toArray 9) := by
  obtain ⟨m, hm⟩ := hM
  refine (Tryz.strings_Split (strB l) ⟨#[32]⟩ m w (by rw [strB_size]; omega) hm (by decide)).mono ?_
  rintro e w' ⟨rfl, rfl⟩
  have hc : Lib.countB (strB l) ⟨#[32]⟩ + 1 = (cutL 32 l).length := (split_len _ _ (Nat.lt_succ_self _)).symm
  have hs : Lib.splitB ⟨#[32]⟩ 0 (Lib.countB (strB l) ⟨#[32]⟩) (strB l) = (cutL 32 l).map strB := by
    have h1 := Lib.splitB_data ⟨#[32]⟩ 0 (Lib.countB (strB l) ⟨#[32]⟩) (strB l)
    have h2 : Lib.splitK (⟨#[32]⟩ : ByteArray).data.toList 0 (Lib.countB (strB l) ⟨#[32]⟩) (strB l).data.toList = cutL 32 l := split_cut 32 l
    rw [h2] at h1
    rw [← h1, List.map_map]
    conv => lhs; rw [← List.map_id (Lib.splitB ⟨#[32]⟩ 0 (Lib.countB (strB l) ⟨#[32]⟩) (strB l))]
    exact List.map_congr_left fun x _ => by cases x; simp [strB]
  refine ⟨by rw [hc], ?_⟩
  rw [hs, List.map_map]
  rfl
set_option maxHeartbeats 8000000 in
set_option maxRecDepth 100000 in
theorem implParseQuery (l : List UInt8) (w : World) (hl : l.length ≤ 1048576) (hT : Tab w) (hM : TabM w) :
    Calls Tryz.prog 12 #[.string (strB l)] w (ParAnsQ w (parQ l)) := by
  have HT := Lib.hid hT
  have HM := Lib.hid hM
  have HACC := Lib.hid (fun q => parQ_acc (l := l) (q := q))
  have HREJ := Lib.hid (parQ_rej (l := l))
  have hpl := cut_len 32 l
  have hp1 : ∀ j, ((cutL 32 l).getD j []).length ≤ 1048576 := fun j => Nat.le_trans (cut_piece 32 l j) hl
  have hp2 : 4 ≤ (cutL 32 l).length → ∀ j, ((cutL 32 l).getD j []).length ≤ 1048575 := fun h j => by have := cut_short (l := l) (b := 32) (by omega) j; omega
  have HS := Lib.hid (fun w h => split_any l w hl h)
  have hb0 : Below w.heap.size w (w.alloc (.cells #[.int .i64 0, .int .i64 0, .slice none 0 0, .slice none 0 0] 27)) := (Below.refl _ w).alloc (Nat.le_refl _) _
  have g0 := heap_alloc_new w (.cells #[.int .i64 0, .int .i64 0, .slice none 0 0, .slice none 0 0] 27)
  have hlt : w.heap.size < (w.alloc (.cells #[.int .i64 0, .int .i64 0, .slice none 0 0, .slice none 0 0] 27)).heap.size := by simp
  generalize parQ l = ans at *
  generalize cutL 32 l = P at *
  have HQ : Hid (∀ (w : World), TabM w → Tab w → Calls Tryz.prog 34 #[.slice (some ⟨w.heap.size, 0, none⟩) P.length P.length] (w.alloc (.cells (P.map (fun p => Value.string (strB p))).toArray 9)) (QueryAns (w.alloc (.cells (P.map (fun p => Value.string (strB p))).toArray 9)) (pQ P))) := Lib.hid (fun w hM hT => by
    have hb : Below w.heap.size w (w.alloc (.cells (P.map (fun p => Value.string (strB p))).toArray 9)) := (Below.refl _ w).alloc (Nat.le_refl _) _
    refine queryOf_any w.heap.size P.length P _ (fun j hj => ?_) (by simp) (by omega) (Nat.le_refl _) hp1 hp2 (hT.on hb) (hM.on hb)
    rw [cell_lit]
    simp [List.getD, hj])
  generalize strB l = sl at *
  clear hp1 hp2 hpl hT hM hl
  go_enter Tryz.func12, Tryz.ntmps12
  go_wp2_with fail
  generalize w.alloc (.cells #[.int .i64 0, .int .i64 0, .slice none 0 0, .slice none 0 0] 27) = W at *
  refine (HS.out _ (HM.out.on hb0)).mono ?_
  rintro e w1 ⟨rfl, hw1⟩
  have b1 : Below W.heap.size W w1 := by rw [hw1]; exact (Below.refl _ _).alloc (Nat.le_refl _) _
  have HQ1 := Lib.hid (HQ.out W (HM.out.on hb0) (HT.out.on hb0))
  rw [← hw1] at HQ1
  have c1 := hb0.trans (b1.mono hb0.size)
  have g1 := (b1.block w.heap.size hlt).trans g0
  have l1 := Nat.lt_of_lt_of_le hlt b1.size
  clear hw1 b1 HQ HS hb0 g0 hlt
  go_wp2_with fail
  refine HQ1.out.mono ?_
  rintro e w2 ⟨⟨n0, n1, cs, os⟩, cv, ov, rfl, oc, oo, hap, heq, hcl, hol, b2⟩
  simp only at oc oo hcl hol
  have c2 := c1.trans (b2.mono c1.size)
  have g2 := (b2.block w.heap.size l1).trans g1
  have l2 := Nat.lt_of_lt_of_le l1 b2.size
  obtain ⟨ca, ccap, rfl⟩ := ownsC_len oc
  obtain ⟨oa, ocap, rfl⟩ := ints_len (ownsN_ints oo)
  have hb3 : Below w2.heap.size w2 (w2.alloc (.cells #[.int .i64 n0, .int .i64 n1, .slice ca cs.length ccap, .slice oa os.length ocap] 27)) := (Below.refl _ _).alloc (Nat.le_refl _) _
  have g3 := (hb3.block w.heap.size l2).trans g2
  have c3 := c2.trans (hb3.mono c2.size)
  have q3 := heap_alloc_new w2 (.cells #[.int .i64 n0, .int .i64 n1, .slice ca cs.length ccap, .slice oa os.length ocap] 27)
  have HOC := Lib.hid (ownsC_below oc hb3)
  have HOO := Lib.hid (ownsN_below oo hb3)
  have HAP := Lib.hid hap
  have HEQ := Lib.hid heq
  have L1 := Lib.hid l1
  have y0 := (cell_of_row (w2.alloc (.cells #[.int .i64 n0, .int .i64 n1, .slice ca cs.length ccap, .slice oa os.length ocap] 27)) _ 0 _ _ _ q3).trans (show _ = some (Value.int .i64 n0) from rfl)
  have y1 := (cell_of_row (w2.alloc (.cells #[.int .i64 n0, .int .i64 n1, .slice ca cs.length ccap, .slice oa os.length ocap] 27)) _ 1 _ _ _ q3).trans (show _ = some (Value.int .i64 n1) from rfl)
  have y2 := (cell_of_row (w2.alloc (.cells #[.int .i64 n0, .int .i64 n1, .slice ca cs.length ccap, .slice oa os.length ocap] 27)) _ 2 _ _ _ q3).trans (show _ = some (Value.slice ca cs.length ccap) from rfl)
  have y3 := (cell_of_row (w2.alloc (.cells #[.int .i64 n0, .int .i64 n1, .slice ca cs.length ccap, .slice oa os.length ocap] 27)) _ 3 _ _ _ q3).trans (show _ = some (Value.slice oa os.length ocap) from rfl)
  have z0 := (cell_of_row (w2.alloc (.cells #[.int .i64 n0, .int .i64 n1, .slice ca cs.length ccap, .slice oa os.length ocap] 27)) _ 0 _ _ _ g3).trans (show _ = some (Value.int .i64 0) from rfl)
  have f0 := frozen_of_row (w2.alloc (.cells #[.int .i64 n0, .int .i64 n1, .slice ca cs.length ccap, .slice oa os.length ocap] 27)) _ 0 _ _ g3
  have z1 := (cell_of_row (w2.alloc (.cells #[.int .i64 n0, .int .i64 n1, .slice ca cs.length ccap, .slice oa os.length ocap] 27)) _ 1 _ _ _ g3).trans (show _ = some (Value.int .i64 0) from rfl)
  have f1 := frozen_of_row (w2.alloc (.cells #[.int .i64 n0, .int .i64 n1, .slice ca cs.length ccap, .slice oa os.length ocap] 27)) _ 1 _ _ g3
  have z2 := (cell_of_row (w2.alloc (.cells #[.int .i64 n0, .int .i64 n1, .slice ca cs.length ccap, .slice oa os.length ocap] 27)) _ 2 _ _ _ g3).trans (show _ = some (Value.slice none 0 0) from rfl)
  have f2 := frozen_of_row (w2.alloc (.cells #[.int .i64 n0, .int .i64 n1, .slice ca cs.length ccap, .slice oa os.length ocap] 27)) _ 2 _ _ g3
  have z3 := (cell_of_row (w2.alloc (.cells #[.int .i64 n0, .int .i64 n1, .slice ca cs.length ccap, .slice oa os.length ocap] 27)) _ 3 _ _ _ g3).trans (show _ = some (Value.slice none 0 0) from rfl)
  have f3 := frozen_of_row (w2.alloc (.cells #[.int .i64 n0, .int .i64 n1, .slice ca cs.length ccap, .slice oa os.length ocap] 27)) _ 3 _ _ g3
  have HG3 := Lib.hid g3
  have HC3 := Lib.hid c3
  have HQ3 := Lib.hid q3
  clear oc oo hap heq c1 g1 l1 c2 g2 b2 l2 hb3 g3 c3 q3
  cases hok : (pQ P).isSome with
  | false =>
    have HF : Hid (ans = (q0D, false)) := Lib.hid (HREJ.out (fun q hq => by rw [hq] at hok; exact Bool.noConfusion hok))
    clear hok HREJ HACC
    go_wp2
    generalize (w2.alloc (.cells #[.int .i64 n0, .int .i64 n1, .slice ca cs.length ccap, .slice oa os.length ocap] 27)) = W5 at *
    have r1 := heap_setCell_same W5 (w.heap.size) 0 _ _ (.int .i64 0) HG3.out
    have r2 := heap_setCell_same _ (w.heap.size) 1 _ _ (.int .i64 0) r1
    have r3 := heap_setCell_same _ (w.heap.size) 2 _ _ (.slice none 0 0) r2
    have r4 := heap_setCell_same _ (w.heap.size) 3 _ _ (.slice none 0 0) r3
    have B6 := ((((HC3.out.setCell (p := ⟨w.heap.size, 0, none⟩) (Nat.le_refl _) (.int .i64 0)).setCell (p := ⟨w.heap.size, 1, none⟩) (Nat.le_refl _) (.int .i64 0)).setCell (p := ⟨w.heap.size, 2, none⟩) (Nat.le_refl _) (.slice none 0 0)).setCell (p := ⟨w.heap.size, 3, none⟩) (Nat.le_refl _) (.slice none 0 0))
    have e0 := cell_of_row _ _ 0 _ _ _ r4
    have e1 := cell_of_row _ _ 1 _ _ _ r4
    have e2 := cell_of_row _ _ 2 _ _ _ r4
    have e3 := cell_of_row _ _ 3 _ _ _ r4
    simp at e0 e1 e2 e3
    refine bodyPost_ret (v := .tuple #[qV 0 0 (.slice none 0 0) (.slice none 0 0), .bool false]) ?_ rfl ?_
    · simp [results, Tryz.f12, go_sem, e0, e1, e2, e3, qV]
    · exact parAnsQ_no HF.out B6
  | true =>
    obtain ⟨q, hq⟩ := Option.isSome_iff_exists.1 hok
    have hqe := HEQ.out q hq
    subst hqe
    have HI := Lib.hid (fun w h g => implIsQuery n0 n1 (.slice ca cs.length ccap) (.slice oa os.length ocap) cs os w h hcl g hol)
    cases hqb : queryB n0 n1 cs os with
    | false =>
      have HF : Hid (ans = (q0D, false)) := Lib.hid (HREJ.out (fun q' hq' => by rw [hq] at hq'; have := Option.some.inj hq'; subst this; exact hqb))
      rw [hqb] at HI
      clear hok hq hqb HREJ HACC HEQ hcl hol
      go_wp2_with fail
      generalize (w2.alloc (.cells #[.int .i64 n0, .int .i64 n1, .slice ca cs.length ccap, .slice oa os.length ocap] 27)) = W5 at *
      refine (HI.out _ (ownsC_conds HOC.out) (ownsN_ints HOO.out)).mono ?_
      rintro e w6 ⟨rfl, b6⟩
      have c6 := HC3.out.trans (b6.mono HC3.out.size)
      have g6 := (b6.block w.heap.size (Array.getElem?_eq_some_iff.1 HG3.out).1).trans HG3.out
      clear y0 y1 y2 y3 z0 z1 z2 z3 f0 f1 f2 f3
      have z0 := (cell_of_row w6 _ 0 _ _ _ g6).trans (show _ = some (Value.int .i64 0) from rfl)
      have f0 := frozen_of_row w6 _ 0 _ _ g6
      have z1 := (cell_of_row w6 _ 1 _ _ _ g6).trans (show _ = some (Value.int .i64 0) from rfl)
      have f1 := frozen_of_row w6 _ 1 _ _ g6
      have z2 := (cell_of_row w6 _ 2 _ _ _ g6).trans (show _ = some (Value.slice none 0 0) from rfl)
      have f2 := frozen_of_row w6 _ 2 _ _ g6
      have z3 := (cell_of_row w6 _ 3 _ _ _ g6).trans (show _ = some (Value.slice none 0 0) from rfl)
      have f3 := frozen_of_row w6 _ 3 _ _ g6
      have HG6 := Lib.hid g6
      have HC6 := Lib.hid c6
      clear g6 c6 b6
      go_wp2
      have r1 := heap_setCell_same w6 (w.heap.size) 0 _ _ (.int .i64 0) HG6.out
      have r2 := heap_setCell_same _ (w.heap.size) 1 _ _ (.int .i64 0) r1
      have r3 := heap_setCell_same _ (w.heap.size) 2 _ _ (.slice none 0 0) r2
      have r4 := heap_setCell_same _ (w.heap.size) 3 _ _ (.slice none 0 0) r3
      have B6 := ((((HC6.out.setCell (p := ⟨w.heap.size, 0, none⟩) (Nat.le_refl _) (.int .i64 0)).setCell (p := ⟨w.heap.size, 1, none⟩) (Nat.le_refl _) (.int .i64 0)).setCell (p := ⟨w.heap.size, 2, none⟩) (Nat.le_refl _) (.slice none 0 0)).setCell (p := ⟨w.heap.size, 3, none⟩) (Nat.le_refl _) (.slice none 0 0))
      have e0 := cell_of_row _ _ 0 _ _ _ r4
      have e1 := cell_of_row _ _ 1 _ _ _ r4
      have e2 := cell_of_row _ _ 2 _ _ _ r4
      have e3 := cell_of_row _ _ 3 _ _ _ r4
      simp at e0 e1 e2 e3
      refine bodyPost_ret (v := .tuple #[qV 0 0 (.slice none 0 0) (.slice none 0 0), .bool false]) ?_ rfl ?_
      · simp [results, Tryz.f12, go_sem, e0, e1, e2, e3, qV]
      · exact parAnsQ_no HF.out B6
    | true =>
      have HF : Hid (ans = ((n0, n1, cs, os), true)) := Lib.hid (HACC.out _ hq hqb)
      rw [hqb] at HI
      clear hok hq hqb HREJ HACC HEQ hcl hol
      go_wp2_with fail
      generalize (w2.alloc (.cells #[.int .i64 n0, .int .i64 n1, .slice ca cs.length ccap, .slice oa os.length ocap] 27)) = W5 at *
      refine (HI.out _ (ownsC_conds HOC.out) (ownsN_ints HOO.out)).mono ?_
      rintro e w6 ⟨rfl, b6⟩
      have c6 := HC3.out.trans (b6.mono HC3.out.size)
      have g6 := (b6.block w.heap.size (Array.getElem?_eq_some_iff.1 HG3.out).1).trans HG3.out
      have k6 := (b6.block w2.heap.size (Array.getElem?_eq_some_iff.1 HQ3.out).1).trans HQ3.out
      have HO6 := Lib.hid (ownsC_below HOC.out b6)
      have HN6 := Lib.hid (ownsN_below HOO.out b6)
      clear y0 y1 y2 y3 z0 z1 z2 z3 f0 f1 f2 f3
      have z0 := (cell_of_row w6 _ 0 _ _ _ g6).trans (show _ = some (Value.int .i64 0) from rfl)
      have f0 := frozen_of_row w6 _ 0 _ _ g6
      have z1 := (cell_of_row w6 _ 1 _ _ _ g6).trans (show _ = some (Value.int .i64 0) from rfl)
      have f1 := frozen_of_row w6 _ 1 _ _ g6
      have z2 := (cell_of_row w6 _ 2 _ _ _ g6).trans (show _ = some (Value.slice none 0 0) from rfl)
      have f2 := frozen_of_row w6 _ 2 _ _ g6
      have z3 := (cell_of_row w6 _ 3 _ _ _ g6).trans (show _ = some (Value.slice none 0 0) from rfl)
      have f3 := frozen_of_row w6 _ 3 _ _ g6
      have y0 := (cell_of_row w6 _ 0 _ _ _ k6).trans (show _ = some (Value.int .i64 n0) from rfl)
      have y1 := (cell_of_row w6 _ 1 _ _ _ k6).trans (show _ = some (Value.int .i64 n1) from rfl)
      have y2 := (cell_of_row w6 _ 2 _ _ _ k6).trans (show _ = some (Value.slice ca cs.length ccap) from rfl)
      have y3 := (cell_of_row w6 _ 3 _ _ _ k6).trans (show _ = some (Value.slice oa os.length ocap) from rfl)
      have HG6 := Lib.hid g6
      have HC6 := Lib.hid c6
      clear g6 c6 b6 k6
      go_wp2
      have r1 := heap_setCell_same w6 (w.heap.size) 0 _ _ (.int .i64 n0) HG6.out
      have r2 := heap_setCell_same _ (w.heap.size) 1 _ _ (.int .i64 n1) r1
      have r3 := heap_setCell_same _ (w.heap.size) 2 _ _ (.slice ca cs.length ccap) r2
      have r4 := heap_setCell_same _ (w.heap.size) 3 _ _ (.slice oa os.length ocap) r3
      have B6 := ((((HC6.out.setCell (p := ⟨w.heap.size, 0, none⟩) (Nat.le_refl _) (.int .i64 n0)).setCell (p := ⟨w.heap.size, 1, none⟩) (Nat.le_refl _) (.int .i64 n1)).setCell (p := ⟨w.heap.size, 2, none⟩) (Nat.le_refl _) (.slice ca cs.length ccap)).setCell (p := ⟨w.heap.size, 3, none⟩) (Nat.le_refl _) (.slice oa os.length ocap))
      have O6 := (ownsC_low (ownsC_low (ownsC_low (ownsC_low HO6.out (b := w.heap.size) L1.out 0 (.int .i64 n0)) (b := w.heap.size) L1.out 1 (.int .i64 n1)) (b := w.heap.size) L1.out 2 (.slice ca cs.length ccap)) (b := w.heap.size) L1.out 3 (.slice oa os.length ocap))
      have N6 := (ownsN_low (ownsN_low (ownsN_low (ownsN_low HN6.out (b := w.heap.size) L1.out 0 (.int .i64 n0)) (b := w.heap.size) L1.out 1 (.int .i64 n1)) (b := w.heap.size) L1.out 2 (.slice ca cs.length ccap)) (b := w.heap.size) L1.out 3 (.slice oa os.length ocap))
      have e0 := cell_of_row _ _ 0 _ _ _ r4
      have e1 := cell_of_row _ _ 1 _ _ _ r4
      have e2 := cell_of_row _ _ 2 _ _ _ r4
      have e3 := cell_of_row _ _ 3 _ _ _ r4
      simp at e0 e1 e2 e3
      refine bodyPost_ret (v := .tuple #[qV n0 n1 (.slice ca cs.length ccap) (.slice oa os.length ocap), .bool true]) ?_ rfl ?_
      · simp [results, Tryz.f12, go_sem, e0, e1, e2, e3, qV]
      · exact parAnsQ_yes HF.out (ownsC_up O6 (Nat.le_of_lt L1.out)) (ownsN_up N6 (Nat.le_of_lt L1.out)) HAP.out B6
end Go.Proofs.YteelgogfpidcdaaGreatDoor
namespace Go.Proofs.YteelgogfpidcdaaGreatDoor
open Go.RowKit
set_option linter.unusedVariables false
set_option linter.unusedSimpArgs false
set_option maxHeartbeats 4000000 in
set_option maxRecDepth 100000 in
theorem checkQuery_no (id tn : Int) (cv ov : Value) (cs : List CondD) (os : List Int) (w : World) (h : CondsR w cv cs) (hn : cs.length ≤ 1048576) (g : Ints w ov os) (hm : os.length ≤ 1048576) (hq : queryB id tn cs os = false) :
    Calls Tryz.prog 25 #[qV id tn cv ov] w fun e w' => e = .returned (.tuple #[.agg #[.slice none 0 0, .slice none 0 0], .bool false]) ∧ Below w.heap.size w w' := by
  obtain ⟨ca, ccap, rfl⟩ := condsR_len h
  obtain ⟨oa, ocap, rfl⟩ := ints_len g
  have hb0 : Below w.heap.size w ((w.alloc (.cells #[.int .i64 id, .int .i64 tn, .slice ca cs.length ccap, .slice oa os.length ocap] 27)).alloc (.cells #[.slice none 0 0, .slice none 0 0] 52)) := ((Below.refl _ w).alloc (Nat.le_refl _) _).alloc (by simp) _
  have HG1 : Hid (((w.alloc (.cells #[.int .i64 id, .int .i64 tn, .slice ca cs.length ccap, .slice oa os.length ocap] 27)).alloc (.cells #[.slice none 0 0, .slice none 0 0] 52)).heap[w.heap.size + 1]? = some (.cells #[.slice none 0 0, .slice none 0 0] 52 (0, 0))) := Lib.hid (by
    have := heap_alloc_new (w.alloc (.cells #[.int .i64 id, .int .i64 tn, .slice ca cs.length ccap, .slice oa os.length ocap] 27)) (.cells #[.slice none 0 0, .slice none 0 0] 52)
    simpa only [World.size_alloc] using this)
  have HZ : Hid (w.heap.size + 1 < ((w.alloc (.cells #[.int .i64 id, .int .i64 tn, .slice ca cs.length ccap, .slice oa os.length ocap] 27)).alloc (.cells #[.slice none 0 0, .slice none 0 0] 52)).heap.size) := Lib.hid (by simp)
  have HB0 := Lib.hid hb0
  have HC := Lib.hid (condsR_below h hb0)
  have HO := Lib.hid (ints_below g hb0)
  have HQ := Lib.hid (fun w h g => implIsQuery id tn (.slice ca cs.length ccap) (.slice oa os.length ocap) cs os w h hn g hm)
  rw [hq] at HQ
  clear h g hn hm hb0 hq
  go_enter Tryz.func25, Tryz.ntmps25
  go_wp2_with fail
  generalize ((w.alloc (.cells #[.int .i64 id, .int .i64 tn, .slice ca cs.length ccap, .slice oa os.length ocap] 27)).alloc (.cells #[.slice none 0 0, .slice none 0 0] 52)) = W at *
  refine (HQ.out _ HC.out HO.out).mono ?_
  rintro e w1 ⟨rfl, b1⟩
  have c1 := HB0.out.trans (b1.mono HB0.out.size)
  have g1 := (b1.block (w.heap.size + 1) HZ.out).trans HG1.out
  have d0 := (cell_of_row w1 _ 0 _ _ _ g1).trans (show _ = some (Value.slice none 0 0) from rfl)
  have d1 := (cell_of_row w1 _ 1 _ _ _ g1).trans (show _ = some (Value.slice none 0 0) from rfl)
  have f0 := frozen_of_row w1 _ 0 _ _ g1
  have f1 := frozen_of_row w1 _ 1 _ _ g1
  have HG := Lib.hid g1
  have HC1 := Lib.hid c1
  clear g1 c1 b1
  go_wp2
  have r1 := heap_setCell_same w1 (w.heap.size + 1) 0 _ _ (.slice none 0 0) HG.out
  have r2 := heap_setCell_same _ (w.heap.size + 1) 1 _ _ (.slice none 0 0) r1
  have B4 := (HC1.out.setCell (p := ⟨w.heap.size + 1, 0, none⟩) (by simp) (.slice none 0 0)).setCell (p := ⟨w.heap.size + 1, 1, none⟩) (by simp) (.slice none 0 0)
  have e0 := cell_of_row _ _ 0 _ _ _ r2
  have e1 := cell_of_row _ _ 1 _ _ _ r2
  simp at e0 e1
  refine bodyPost_ret (v := .tuple #[.agg #[.slice none 0 0, .slice none 0 0], .bool false]) ?_ rfl ?_
  · simp [results, Tryz.f25, go_sem, e0, e1]
  · exact ⟨rfl, B4⟩
set_option maxHeartbeats 4000000 in
set_option maxRecDepth 100000 in
theorem checkQuery_yes (id tn : Int) (cv ov : Value) (cs : List CondD) (os : List Int) (w : World) (h : CondsR w cv cs) (hn : cs.length ≤ 1048576) (g : Ints w ov os) (hm : os.length ≤ 1048576) (hq : queryB id tn cs os = true) :
    Calls Tryz.prog 25 #[qV id tn cv ov] w fun e w' => e = .returned (.tuple #[.agg #[cv, ov], .bool true]) ∧ Below w.heap.size w w' := by
  obtain ⟨ca, ccap, rfl⟩ := condsR_len h
  obtain ⟨oa, ocap, rfl⟩ := ints_len g
  have hb0 : Below w.heap.size w ((w.alloc (.cells #[.int .i64 id, .int .i64 tn, .slice ca cs.length ccap, .slice oa os.length ocap] 27)).alloc (.cells #[.slice none 0 0, .slice none 0 0] 52)) := ((Below.refl _ w).alloc (Nat.le_refl _) _).alloc (by simp) _
  have HG1 : Hid (((w.alloc (.cells #[.int .i64 id, .int .i64 tn, .slice ca cs.length ccap, .slice oa os.length ocap] 27)).alloc (.cells #[.slice none 0 0, .slice none 0 0] 52)).heap[w.heap.size + 1]? = some (.cells #[.slice none 0 0, .slice none 0 0] 52 (0, 0))) := Lib.hid (by
    have := heap_alloc_new (w.alloc (.cells #[.int .i64 id, .int .i64 tn, .slice ca cs.length ccap, .slice oa os.length ocap] 27)) (.cells #[.slice none 0 0, .slice none 0 0] 52)
    simpa only [World.size_alloc] using this)
  have HG0 : Hid (((w.alloc (.cells #[.int .i64 id, .int .i64 tn, .slice ca cs.length ccap, .slice oa os.length ocap] 27)).alloc (.cells #[.slice none 0 0, .slice none 0 0] 52)).heap[w.heap.size]? = some (.cells #[.int .i64 id, .int .i64 tn, .slice ca cs.length ccap, .slice oa os.length ocap] 27 (0, 0))) := Lib.hid (by
    rw [Below.heap_alloc _ _ _ (by simp)]
    exact heap_alloc_new w _)
  have HZ : Hid (w.heap.size + 1 < ((w.alloc (.cells #[.int .i64 id, .int .i64 tn, .slice ca cs.length ccap, .slice oa os.length ocap] 27)).alloc (.cells #[.slice none 0 0, .slice none 0 0] 52)).heap.size) := Lib.hid (by simp)
  have HB0 := Lib.hid hb0
  have HC := Lib.hid (condsR_below h hb0)
  have HO := Lib.hid (ints_below g hb0)
  have HQ := Lib.hid (fun w h g => implIsQuery id tn (.slice ca cs.length ccap) (.slice oa os.length ocap) cs os w h hn g hm)
  rw [hq] at HQ
  clear h g hn hm hb0 hq
  go_enter Tryz.func25, Tryz.ntmps25
  go_wp2_with fail
  generalize ((w.alloc (.cells #[.int .i64 id, .int .i64 tn, .slice ca cs.length ccap, .slice oa os.length ocap] 27)).alloc (.cells #[.slice none 0 0, .slice none 0 0] 52)) = W at *
  refine (HQ.out _ HC.out HO.out).mono ?_
  rintro e w1 ⟨rfl, b1⟩
  have c1 := HB0.out.trans (b1.mono HB0.out.size)
  have g1 := (b1.block (w.heap.size + 1) HZ.out).trans HG1.out
  obtain ⟨p0, p1, p2, p3⟩ := box_cells4 HG0.out b1
  have d0 := (cell_of_row w1 _ 0 _ _ _ g1).trans (show _ = some (Value.slice none 0 0) from rfl)
  have d1 := (cell_of_row w1 _ 1 _ _ _ g1).trans (show _ = some (Value.slice none 0 0) from rfl)
  have f0 := frozen_of_row w1 _ 0 _ _ g1
  have f1 := frozen_of_row w1 _ 1 _ _ g1
  have HG := Lib.hid g1
  have HC1 := Lib.hid c1
  clear g1 c1 b1
  go_wp2
  have r1 := heap_setCell_same w1 (w.heap.size + 1) 0 _ _ (.slice ca cs.length ccap) HG.out
  have r2 := heap_setCell_same _ (w.heap.size + 1) 1 _ _ (.slice oa os.length ocap) r1
  have B4 := (HC1.out.setCell (p := ⟨w.heap.size + 1, 0, none⟩) (by simp) (.slice ca cs.length ccap)).setCell (p := ⟨w.heap.size + 1, 1, none⟩) (by simp) (.slice oa os.length ocap)
  have e0 := cell_of_row _ _ 0 _ _ _ r2
  have e1 := cell_of_row _ _ 1 _ _ _ r2
  simp at e0 e1
  refine bodyPost_ret (v := .tuple #[.agg #[.slice ca cs.length ccap, .slice oa os.length ocap], .bool true]) ?_ rfl ?_
  · simp [results, Tryz.f25, go_sem, e0, e1]
  · exact ⟨rfl, B4⟩
end Go.Proofs.YteelgogfpidcdaaGreatDoor
namespace Go.Proofs.YteelgogfpidcdaaGreatDoor
open Go.RowKit
set_option linter.unusedVariables false
set_option linter.unusedSimpArgs false
end Go.Proofs.YteelgogfpidcdaaGreatDoor
namespace Go.Proofs.YteelgogfpidcdaaGreatDoor
open Go.RowKit
set_option linter.unusedVariables false
set_option linter.unusedSimpArgs false
/-- A slice of numbers in new memory is answered. -/
def FreshInts (w : World) (xs : List Int) (e : Ending) (w' : World) : Prop := ∃ v, e = .returned v ∧ OwnsN w' w.heap.size v xs ∧ Below w.heap.size w w'
def projL (id tn : Int) (cs : List CondD) (os : List Int) (r : RowD) : List Int := if rowB r && queryB id tn cs os then os.map (fun f => r.2.getD f.toNat 0) else []
theorem query_fields {id tn : Int} {cs : List CondD} {os : List Int} (h : queryB id tn cs os = true) {k : Nat} (hk : k < os.length) : 0 ≤ os.getD k 0 ∧ os.getD k 0 ≤ 2 := by
  unfold queryB at h
  simp only [Bool.and_eq_true] at h
  have h1 := h.2.2.2.2
  unfold fieldsB at h1
  rw [Bool.and_eq_true, List.all_eq_true] at h1
  have e : os.getD k 0 = os[k] := by simp [List.getD, hk]
  rw [e]
  exact of_decide_eq_true (h1.1 _ (List.getElem_mem hk))
theorem query_few {id tn : Int} {cs : List CondD} {os : List Int} (h : queryB id tn cs os = true) : cs.length ≤ 3 ∧ os.length ≤ 3 := by
  unfold queryB fieldsB at h
  simp only [Bool.and_eq_true, decide_eq_true_eq] at h
  exact ⟨h.2.2.2.1, h.2.2.2.2.2.2⟩
theorem proj_step {os xs : List Int} {k : Nat} (hk : k < os.length) : (os.take k).map (fun f => xs.getD f.toNat 0) ++ [xs.getD (os.getD k 0).toNat 0] = (os.take (k + 1)).map (fun f => xs.getD f.toNat 0) := by
  rw [List.take_succ_eq_append_getElem hk, List.map_append]
  simp [List.getD, hk]
theorem ints_one' {w : World} {h : Nat} {x : Int} (hc : w.cell? ⟨h, 0, none⟩ = some (.int .i64 x)) (hl : h < w.heap.size) : Ints w (.slice (some ⟨h, 0, none⟩) 1 1) [x] :=
  Or.inr ⟨h, 0, 1, rfl, by simp, hl, fun j hj => by
    have : j = 0 := by simp at hj; omega
    subst this
    simpa using hc⟩
set_option maxHeartbeats 16000000 in
set_option maxRecDepth 100000 in
theorem specProj_noRow (id tn rid : Int) (cv ov vv : Value) (cs : List CondD) (os xs : List Int) (w : World) (h : CondsR w cv cs) (hn : cs.length ≤ 1048576) (g : Ints w ov os) (hm : os.length ≤ 1048576) (gr : Ints w vv xs) (hx : xs.length ≤ 1048576) (hr : rowB (rid, xs) = false) :
    Calls Tryz.prog 18 #[qV id tn cv ov, .agg #[.int .i64 rid, vv]] w (FreshInts w (projL id tn cs os (rid, xs))) := by
  obtain ⟨ca, ccap, rfl⟩ := condsR_len h
  obtain ⟨oa, ocap, rfl⟩ := ints_len g
  obtain ⟨va, vcap, rfl⟩ := ints_len gr
  have hb0 : Below w.heap.size w ((w.alloc (.cells #[.int .i64 id, .int .i64 tn, .slice ca cs.length ccap, .slice oa os.length ocap] 27)).alloc (.cells #[.int .i64 rid, .slice va xs.length vcap] 36)) := ((Below.refl _ w).alloc (Nat.le_refl _) _).alloc (by simp) _
  have HG1 : Hid (((w.alloc (.cells #[.int .i64 id, .int .i64 tn, .slice ca cs.length ccap, .slice oa os.length ocap] 27)).alloc (.cells #[.int .i64 rid, .slice va xs.length vcap] 36)).heap[w.heap.size + 1]? = some (.cells #[.int .i64 rid, .slice va xs.length vcap] 36 (0, 0))) := Lib.hid (by
    have := heap_alloc_new (w.alloc (.cells #[.int .i64 id, .int .i64 tn, .slice ca cs.length ccap, .slice oa os.length ocap] 27)) (.cells #[.int .i64 rid, .slice va xs.length vcap] 36)
    simpa only [World.size_alloc] using this)
  have HG0 : Hid (((w.alloc (.cells #[.int .i64 id, .int .i64 tn, .slice ca cs.length ccap, .slice oa os.length ocap] 27)).alloc (.cells #[.int .i64 rid, .slice va xs.length vcap] 36)).heap[w.heap.size]? = some (.cells #[.int .i64 id, .int .i64 tn, .slice ca cs.length ccap, .slice oa os.length ocap] 27 (0, 0))) := Lib.hid (by
    rw [Below.heap_alloc _ _ _ (by simp)]
    exact heap_alloc_new w _)
  have HZ : Hid (w.heap.size + 1 < ((w.alloc (.cells #[.int .i64 id, .int .i64 tn, .slice ca cs.length ccap, .slice oa os.length ocap] 27)).alloc (.cells #[.int .i64 rid, .slice va xs.length vcap] 36)).heap.size) := Lib.hid (by simp)
  have HB0 := Lib.hid hb0
  have HC := Lib.hid (condsR_below h hb0)
  have HO := Lib.hid (ints_below g hb0)
  have HX := Lib.hid (ints_below gr hb0)
  have HR := Lib.hid (fun w h => specIsRow rid (.slice va xs.length vcap) xs w h hx)
  have HQ := Lib.hid (fun w h g => specIsQuery id tn (.slice ca cs.length ccap) (.slice oa os.length ocap) cs os w h hn g hm)
  have HF : Hid (projL id tn cs os (rid, xs) = []) := Lib.hid (by unfold projL; rw [hr]; simp)
  rw [hr] at HR
  clear hr
  have HS2 : Hid (((w.alloc (.cells #[.int .i64 id, .int .i64 tn, .slice ca cs.length ccap, .slice oa os.length ocap] 27)).alloc (.cells #[.int .i64 rid, .slice va xs.length vcap] 36)).heap.size = w.heap.size + 1 + 1) := Lib.hid (by simp [World.size_alloc])
  clear h g hm gr hx hb0
  go_enter Tryz.func18, Tryz.ntmps18
  go_wp2
  generalize ((w.alloc (.cells #[.int .i64 id, .int .i64 tn, .slice ca cs.length ccap, .slice oa os.length ocap] 27)).alloc (.cells #[.int .i64 rid, .slice va xs.length vcap] 36)) = W at *
  have hl0 : Below W.heap.size W (W.alloc (.cells #[] 3)) := (Below.refl _ _).alloc (Nat.le_refl _) _
  have ol0 : ∀ B, B ≤ W.heap.size → OwnsN (W.alloc (.cells #[] 3)) B (.slice (some ⟨w.heap.size + 1 + 1, 0, none⟩) 0 0) [] := fun B hB => by rw [← HS2.out]; exact ownsN_lit W B hB #[] 0 [] rfl rfl (by decide)
  go_loopw [5, 6] (fun v i wr => ∃ k : Nat, k ≤ os.length ∧ i = .int .i64 k ∧ k = 0 ∧ OwnsN wr W.heap.size v [] ∧ Below W.heap.size W wr) (fun _ i _ => os.length - (intOf i).toNat)
  case atStart => exact ⟨0, Nat.zero_le _, rfl, rfl, ol0 _ (Nat.le_refl _), hl0⟩
  case round =>
    obtain ⟨k, hk, rfl, hk0, hown, hbel⟩ := hrel
    subst hk0
    clear hl0 ol0
    obtain ⟨p0, p1, p2, p3, r0, r1⟩ := qr_boxes HG0.out HG1.out HZ.out hbel
    by_cases hlt : 0 < os.length
    · have i2 : (0 : Int) < (os.length : Int) := by omega
      go_wp2_with fail
      refine (HR.out _ (ints_below HX.out hbel)).mono ?_
      rintro e u1 ⟨rfl, bu1⟩
      have cu1 := hbel.trans (bu1.mono hbel.size)
      replace hown := ownsN_below hown bu1
      clear p0 p1 p2 p3 r0 r1 bu1
      obtain ⟨p0, p1, p2, p3, r0, r1⟩ := qr_boxes HG0.out HG1.out HZ.out cu1
      go_wp2
      go_ret
      exact ⟨_, rfl, by rw [HF.out]; exact ownsN_up (hown) HB0.out.size, HB0.out.trans (cu1.mono HB0.out.size)⟩
    · have i2 : ¬ (0 : Int) < (os.length : Int) := by omega
      go_wp2
      go_ret
      exact ⟨_, rfl, by rw [HF.out]; exact ownsN_up (hown) HB0.out.size, HB0.out.trans (hbel.mono HB0.out.size)⟩
set_option maxHeartbeats 16000000 in
set_option maxRecDepth 100000 in
theorem specProj_noQuery (id tn rid : Int) (cv ov vv : Value) (cs : List CondD) (os xs : List Int) (w : World) (h : CondsR w cv cs) (hn : cs.length ≤ 1048576) (g : Ints w ov os) (hm : os.length ≤ 1048576) (gr : Ints w vv xs) (hx : xs.length ≤ 1048576) (hr : rowB (rid, xs) = true) (hq : queryB id tn cs os = false) :
    Calls Tryz.prog 18 #[qV id tn cv ov, .agg #[.int .i64 rid, vv]] w (FreshInts w (projL id tn cs os (rid, xs))) := by
  obtain ⟨ca, ccap, rfl⟩ := condsR_len h
  obtain ⟨oa, ocap, rfl⟩ := ints_len g
  obtain ⟨va, vcap, rfl⟩ := ints_len gr
  have hb0 : Below w.heap.size w ((w.alloc (.cells #[.int .i64 id, .int .i64 tn, .slice ca cs.length ccap, .slice oa os.length ocap] 27)).alloc (.cells #[.int .i64 rid, .slice va xs.length vcap] 36)) := ((Below.refl _ w).alloc (Nat.le_refl _) _).alloc (by simp) _
  have HG1 : Hid (((w.alloc (.cells #[.int .i64 id, .int .i64 tn, .slice ca cs.length ccap, .slice oa os.length ocap] 27)).alloc (.cells #[.int .i64 rid, .slice va xs.length vcap] 36)).heap[w.heap.size + 1]? = some (.cells #[.int .i64 rid, .slice va xs.length vcap] 36 (0, 0))) := Lib.hid (by
    have := heap_alloc_new (w.alloc (.cells #[.int .i64 id, .int .i64 tn, .slice ca cs.length ccap, .slice oa os.length ocap] 27)) (.cells #[.int .i64 rid, .slice va xs.length vcap] 36)
    simpa only [World.size_alloc] using this)
  have HG0 : Hid (((w.alloc (.cells #[.int .i64 id, .int .i64 tn, .slice ca cs.length ccap, .slice oa os.length ocap] 27)).alloc (.cells #[.int .i64 rid, .slice va xs.length vcap] 36)).heap[w.heap.size]? = some (.cells #[.int .i64 id, .int .i64 tn, .slice ca cs.length ccap, .slice oa os.length ocap] 27 (0, 0))) := Lib.hid (by
    rw [Below.heap_alloc _ _ _ (by simp)]
    exact heap_alloc_new w _)
  have HZ : Hid (w.heap.size + 1 < ((w.alloc (.cells #[.int .i64 id, .int .i64 tn, .slice ca cs.length ccap, .slice oa os.length ocap] 27)).alloc (.cells #[.int .i64 rid, .slice va xs.length vcap] 36)).heap.size) := Lib.hid (by simp)
  have HB0 := Lib.hid hb0
  have HC := Lib.hid (condsR_below h hb0)
  have HO := Lib.hid (ints_below g hb0)
  have HX := Lib.hid (ints_below gr hb0)
  have HR := Lib.hid (fun w h => specIsRow rid (.slice va xs.length vcap) xs w h hx)
  have HQ := Lib.hid (fun w h g => specIsQuery id tn (.slice ca cs.length ccap) (.slice oa os.length ocap) cs os w h hn g hm)
  have HF : Hid (projL id tn cs os (rid, xs) = []) := Lib.hid (by unfold projL; rw [hq]; simp)
  rw [hr] at HR
  rw [hq] at HQ
  clear hr hq
  have HS2 : Hid (((w.alloc (.cells #[.int .i64 id, .int .i64 tn, .slice ca cs.length ccap, .slice oa os.length ocap] 27)).alloc (.cells #[.int .i64 rid, .slice va xs.length vcap] 36)).heap.size = w.heap.size + 1 + 1) := Lib.hid (by simp [World.size_alloc])
  clear h g hm gr hx hb0
  go_enter Tryz.func18, Tryz.ntmps18
  go_wp2
  generalize ((w.alloc (.cells #[.int .i64 id, .int .i64 tn, .slice ca cs.length ccap, .slice oa os.length ocap] 27)).alloc (.cells #[.int .i64 rid, .slice va xs.length vcap] 36)) = W at *
  have hl0 : Below W.heap.size W (W.alloc (.cells #[] 3)) := (Below.refl _ _).alloc (Nat.le_refl _) _
  have ol0 : ∀ B, B ≤ W.heap.size → OwnsN (W.alloc (.cells #[] 3)) B (.slice (some ⟨w.heap.size + 1 + 1, 0, none⟩) 0 0) [] := fun B hB => by rw [← HS2.out]; exact ownsN_lit W B hB #[] 0 [] rfl rfl (by decide)
  go_loopw [5, 6] (fun v i wr => ∃ k : Nat, k ≤ os.length ∧ i = .int .i64 k ∧ k = 0 ∧ OwnsN wr W.heap.size v [] ∧ Below W.heap.size W wr) (fun _ i _ => os.length - (intOf i).toNat)
  case atStart => exact ⟨0, Nat.zero_le _, rfl, rfl, ol0 _ (Nat.le_refl _), hl0⟩
  case round =>
    obtain ⟨k, hk, rfl, hk0, hown, hbel⟩ := hrel
    subst hk0
    clear hl0 ol0
    obtain ⟨p0, p1, p2, p3, r0, r1⟩ := qr_boxes HG0.out HG1.out HZ.out hbel
    by_cases hlt : 0 < os.length
    · have i2 : (0 : Int) < (os.length : Int) := by omega
      go_wp2_with fail
      refine (HR.out _ (ints_below HX.out hbel)).mono ?_
      rintro e u1 ⟨rfl, bu1⟩
      have cu1 := hbel.trans (bu1.mono hbel.size)
      replace hown := ownsN_below hown bu1
      clear p0 p1 p2 p3 r0 r1 bu1
      obtain ⟨p0, p1, p2, p3, r0, r1⟩ := qr_boxes HG0.out HG1.out HZ.out cu1
      go_wp2_with fail
      refine (HQ.out _ (condsR_below HC.out cu1) (ints_below HO.out cu1)).mono ?_
      rintro e u2 ⟨rfl, bu2⟩
      have cu2 := cu1.trans (bu2.mono cu1.size)
      replace hown := ownsN_below hown bu2
      clear p0 p1 p2 p3 r0 r1 bu2
      obtain ⟨p0, p1, p2, p3, r0, r1⟩ := qr_boxes HG0.out HG1.out HZ.out cu2
      go_wp2
      go_ret
      exact ⟨_, rfl, by rw [HF.out]; exact ownsN_up (hown) HB0.out.size, HB0.out.trans (cu2.mono HB0.out.size)⟩
    · have i2 : ¬ (0 : Int) < (os.length : Int) := by omega
      go_wp2
      go_ret
      exact ⟨_, rfl, by rw [HF.out]; exact ownsN_up (hown) HB0.out.size, HB0.out.trans (hbel.mono HB0.out.size)⟩
set_option maxHeartbeats 16000000 in
set_option maxRecDepth 100000 in
theorem specProj_both (id tn rid : Int) (cv ov vv : Value) (cs : List CondD) (os xs : List Int) (w : World) (h : CondsR w cv cs) (hn : cs.length ≤ 1048576) (g : Ints w ov os) (hm : os.length ≤ 1048576) (gr : Ints w vv xs) (hx : xs.length ≤ 1048576) (hr : rowB (rid, xs) = true) (hq : queryB id tn cs os = true) :
    Calls Tryz.prog 18 #[qV id tn cv ov, .agg #[.int .i64 rid, vv]] w (FreshInts w (projL id tn cs os (rid, xs))) := by
  obtain ⟨ca, ccap, rfl⟩ := condsR_len h
  obtain ⟨oa, ocap, rfl⟩ := ints_len g
  obtain ⟨va, vcap, rfl⟩ := ints_len gr
  have hb0 : Below w.heap.size w ((w.alloc (.cells #[.int .i64 id, .int .i64 tn, .slice ca cs.length ccap, .slice oa os.length ocap] 27)).alloc (.cells #[.int .i64 rid, .slice va xs.length vcap] 36)) := ((Below.refl _ w).alloc (Nat.le_refl _) _).alloc (by simp) _
  have HG1 : Hid (((w.alloc (.cells #[.int .i64 id, .int .i64 tn, .slice ca cs.length ccap, .slice oa os.length ocap] 27)).alloc (.cells #[.int .i64 rid, .slice va xs.length vcap] 36)).heap[w.heap.size + 1]? = some (.cells #[.int .i64 rid, .slice va xs.length vcap] 36 (0, 0))) := Lib.hid (by
    have := heap_alloc_new (w.alloc (.cells #[.int .i64 id, .int .i64 tn, .slice ca cs.length ccap, .slice oa os.length ocap] 27)) (.cells #[.int .i64 rid, .slice va xs.length vcap] 36)
    simpa only [World.size_alloc] using this)
  have HG0 : Hid (((w.alloc (.cells #[.int .i64 id, .int .i64 tn, .slice ca cs.length ccap, .slice oa os.length ocap] 27)).alloc (.cells #[.int .i64 rid, .slice va xs.length vcap] 36)).heap[w.heap.size]? = some (.cells #[.int .i64 id, .int .i64 tn, .slice ca cs.length ccap, .slice oa os.length ocap] 27 (0, 0))) := Lib.hid (by
    rw [Below.heap_alloc _ _ _ (by simp)]
    exact heap_alloc_new w _)
  have HZ : Hid (w.heap.size + 1 < ((w.alloc (.cells #[.int .i64 id, .int .i64 tn, .slice ca cs.length ccap, .slice oa os.length ocap] 27)).alloc (.cells #[.int .i64 rid, .slice va xs.length vcap] 36)).heap.size) := Lib.hid (by simp)
  have HB0 := Lib.hid hb0
  have HC := Lib.hid (condsR_below h hb0)
  have HO := Lib.hid (ints_below g hb0)
  have HX := Lib.hid (ints_below gr hb0)
  have HR := Lib.hid (fun w h => specIsRow rid (.slice va xs.length vcap) xs w h hx)
  have HQ := Lib.hid (fun w h g => specIsQuery id tn (.slice ca cs.length ccap) (.slice oa os.length ocap) cs os w h hn g hm)
  have HFD := Lib.hid (fun (k : Nat) (hk : k < os.length) => query_fields hq hk)
  have HLN := Lib.hid (row_len hr)
  simp only at HLN
  have HOL := Lib.hid (query_few hq).2
  have HF : Hid (projL id tn cs os (rid, xs) = os.map (fun f => xs.getD f.toNat 0)) := Lib.hid (by unfold projL; rw [hr, hq]; rfl)
  rw [hr] at HR
  rw [hq] at HQ
  clear hr hq
  have HS2 : Hid (((w.alloc (.cells #[.int .i64 id, .int .i64 tn, .slice ca cs.length ccap, .slice oa os.length ocap] 27)).alloc (.cells #[.int .i64 rid, .slice va xs.length vcap] 36)).heap.size = w.heap.size + 1 + 1) := Lib.hid (by simp [World.size_alloc])
  clear h g hm gr hx hb0
  go_enter Tryz.func18, Tryz.ntmps18
  go_wp2
  generalize ((w.alloc (.cells #[.int .i64 id, .int .i64 tn, .slice ca cs.length ccap, .slice oa os.length ocap] 27)).alloc (.cells #[.int .i64 rid, .slice va xs.length vcap] 36)) = W at *
  have hl0 : Below W.heap.size W (W.alloc (.cells #[] 3)) := (Below.refl _ _).alloc (Nat.le_refl _) _
  have ol0 : ∀ B, B ≤ W.heap.size → OwnsN (W.alloc (.cells #[] 3)) B (.slice (some ⟨w.heap.size + 1 + 1, 0, none⟩) 0 0) [] := fun B hB => by rw [← HS2.out]; exact ownsN_lit W B hB #[] 0 [] rfl rfl (by decide)
  go_loopw [5, 6] (fun v i wr => ∃ k : Nat, k ≤ os.length ∧ i = .int .i64 k ∧ OwnsN wr W.heap.size v ((os.take k).map (fun f => xs.getD f.toNat 0)) ∧ Below W.heap.size W wr) (fun _ i _ => os.length - (intOf i).toNat)
  case atStart => exact ⟨0, Nat.zero_le _, rfl, by rw [List.take_zero, List.map_nil]; exact ol0 _ (Nat.le_refl _), hl0⟩
  case round =>
    obtain ⟨k, hk, rfl, hown, hbel⟩ := hrel
    clear hl0 ol0
    obtain ⟨p0, p1, p2, p3, r0, r1⟩ := qr_boxes HG0.out HG1.out HZ.out hbel
    by_cases hlt : k < os.length
    · have i1 : (0 : Int) ≤ (k : Int) := by omega
      have i2 : (k : Int) < (os.length : Int) := by omega
      go_wp2_with fail
      refine (HR.out _ (ints_below HX.out hbel)).mono ?_
      rintro e u1 ⟨rfl, bu1⟩
      have cu1 := hbel.trans (bu1.mono hbel.size)
      replace hown := ownsN_below hown bu1
      clear p0 p1 p2 p3 r0 r1 bu1
      obtain ⟨p0, p1, p2, p3, r0, r1⟩ := qr_boxes HG0.out HG1.out HZ.out cu1
      go_wp2_with fail
      refine (HQ.out _ (condsR_below HC.out cu1) (ints_below HO.out cu1)).mono ?_
      rintro e u2 ⟨rfl, bu2⟩
      have cu2 := cu1.trans (bu2.mono cu1.size)
      replace hown := ownsN_below hown bu2
      clear p0 p1 p2 p3 r0 r1 bu2
      obtain ⟨p0, p1, p2, p3, r0, r1⟩ := qr_boxes HG0.out HG1.out HZ.out cu2
      obtain ⟨bo, offo, capo, hvo, hblo, hco⟩ := ints_cell (ints_below HO.out cu2) (by omega)
      simp only [Value.slice.injEq] at hvo
      obtain ⟨rfl, _, rfl⟩ := hvo
      have o0 := hco k hlt
      have HSO : Hid (∀ W', Below W.heap.size W W' → W'.cell? ⟨bo, offo + k, none⟩ = some (.int .i64 (os.getD k 0))) := Lib.hid (fun W' hb' => by
        obtain ⟨b', off', cap', hv', hbl', hc'⟩ := ints_cell (ints_below HO.out hb') (by omega)
        simp only [Value.slice.injEq, Option.some.injEq, Addr.mk.injEq] at hv'
        obtain ⟨⟨rfl, rfl, _⟩, _, _⟩ := hv'
        exact hc' k hlt)
      have hfd := HFD.out k hlt
      have HST := Lib.hid (proj_step (xs := xs) hlt)
      have hkl : ((os.take k).map (fun f => xs.getD f.toNat 0)).length = k := by rw [List.length_map, List.length_take]; omega
      have HKL : Hid (k ≤ 3 ∧ ((os.take k).map (fun f => xs.getD f.toNat 0)).length = k) := Lib.hid ⟨by have := HOL.out; omega, hkl⟩
      have i5 := HKL.out.1
      clear hco hkl cu1 hbel
      generalize os.getD k 0 = f at *
      obtain ⟨fn, rfl⟩ := Int.eq_ofNat_of_zero_le hfd.1
      have hfn : fn < xs.length := by have := HLN.out; omega
      obtain ⟨bx, offx, capx, hvx, hblx, hcx⟩ := ints_cell (ints_below HX.out cu2) (by omega)
      simp only [Value.slice.injEq] at hvx
      obtain ⟨rfl, _, rfl⟩ := hvx
      have x0 := hcx fn hfn
      have HSX : Hid (∀ W', Below W.heap.size W W' → W'.cell? ⟨bx, offx + fn, none⟩ = some (.int .i64 (xs.getD fn 0))) := Lib.hid (fun W' hb' => by
        obtain ⟨b', off', cap', hv', hbl', hc'⟩ := ints_cell (ints_below HX.out hb') (by omega)
        simp only [Value.slice.injEq, Option.some.injEq, Addr.mk.injEq] at hv'
        obtain ⟨⟨rfl, rfl, _⟩, _, _⟩ := hv'
        exact hc' fn hfn)
      have j1 : (0 : Int) ≤ (fn : Int) := by omega
      have j2 : (fn : Int) < (xs.length : Int) := by omega
      have ht : ((fn : Int)).toNat = fn := by omega
      rw [ht] at HST
      clear hcx hfd ht
      generalize xs.getD fn 0 = x at *
      generalize (os.take k).map (fun f => xs.getD f.toNat 0) = ac at *
      obtain ⟨aa, acap, rfl⟩ := ints_len (ownsN_ints hown)
      have HOW := Lib.hid hown
      have CU2 := Lib.hid cu2
      clear hown
      go_wp2
      refine wp_region_held_drew (S := fun w' => w'.cell? ⟨w.heap.size + 1, 1, none⟩ = some (.slice (some ⟨bx, offx, none⟩) xs.length vcap) ∧ w'.cell? ⟨w.heap.size, 3, none⟩ = some (.slice (some ⟨bo, offo, none⟩) os.length ocap) ∧ w'.cell? ⟨bo, offo + k, none⟩ = some (.int .i64 (fn : Int)) ∧ w'.cell? ⟨bx, offx + fn, none⟩ = some (.int .i64 x)) (by kernel_rfl) ⟨r1, p3, o0, x0⟩ (fun hHeld => ?_)
      refine take_runs (i := 0) (v := ?_) (by simp only [List.getElem?_toArray, List.getElem?_cons_succ, List.getElem?_cons_zero]; rfl) (by kernel_rfl) (by kernel_rfl) (by kernel_rfl) rfl (by exact fun _ _ _ h => h) (by rfl) ?_ (by assumption) ?_
      rotate_left
      · intro w hSw; (try dsimp only at hSw); go_simp; try (with_reducible rfl)
      try simp only [Act.put, List.setIfInBounds_toArray, List.set_cons_zero, List.set_cons_succ]
      refine take_runs (i := 1) (v := ?_) (by simp only [List.getElem?_toArray, List.getElem?_cons_succ, List.getElem?_cons_zero]; rfl) (by kernel_rfl) (by kernel_rfl) (by kernel_rfl) rfl (by exact fun _ _ _ h => h) (by rfl) ?_ (by assumption) ?_
      rotate_left
      · intro w hSw; (try dsimp only at hSw); go_simp; try (with_reducible rfl)
      try simp only [Act.put, List.setIfInBounds_toArray, List.set_cons_zero, List.set_cons_succ]
      refine take_runs (i := 2) (v := ?_) (by simp only [List.getElem?_toArray, List.getElem?_cons_succ, List.getElem?_cons_zero]; rfl) (by kernel_rfl) (by kernel_rfl) (by kernel_rfl) rfl (by exact fun _ _ _ h => h) (by rfl) ?_ (by assumption) ?_
      rotate_left
      · intro w hSw; (try dsimp only at hSw); go_simp; try (with_reducible rfl)
      try simp only [Act.put, List.setIfInBounds_toArray, List.set_cons_zero, List.set_cons_succ]
      refine take_runs (i := 3) (v := ?_) (by simp only [List.getElem?_toArray, List.getElem?_cons_succ, List.getElem?_cons_zero]; rfl) (by kernel_rfl) (by kernel_rfl) (by kernel_rfl) rfl (by exact fun _ _ _ h => h) (by rfl) ?_ (by assumption) ?_
      rotate_left
      · intro w hSw; (try dsimp only at hSw); go_simp; try (with_reducible rfl)
      try simp only [Act.put, List.setIfInBounds_toArray, List.set_cons_zero, List.set_cons_succ]
      refine take_runs (i := 4) (v := ?_) (by simp only [List.getElem?_toArray, List.getElem?_cons_succ, List.getElem?_cons_zero]; rfl) (by kernel_rfl) (by kernel_rfl) (by kernel_rfl) rfl (by exact fun _ _ _ h => h) (by rfl) ?_ (by assumption) ?_
      rotate_left
      · intro w hSw; (try dsimp only at hSw); go_simp; try (with_reducible rfl)
      try simp only [Act.put, List.setIfInBounds_toArray, List.set_cons_zero, List.set_cons_succ]
      refine take_runs (i := 5) (v := ?_) (by simp only [List.getElem?_toArray, List.getElem?_cons_succ, List.getElem?_cons_zero]; rfl) (by kernel_rfl) (by kernel_rfl) (by kernel_rfl) rfl (by exact fun _ _ _ h => h) (by rfl) ?_ (by assumption) ?_
      rotate_left
      · intro w hSw; (try dsimp only at hSw); go_simp; try (with_reducible rfl)
      try simp only [Act.put, List.setIfInBounds_toArray, List.set_cons_zero, List.set_cons_succ]
      refine take_runs (i := 6) (v := ?_) (by simp only [List.getElem?_toArray, List.getElem?_cons_succ, List.getElem?_cons_zero]; rfl) (by kernel_rfl) (by kernel_rfl) (by kernel_rfl) rfl (by exact fun _ _ _ h => h) (by rfl) ?_ (by assumption) ?_
      rotate_left
      · intro w hSw; (try dsimp only at hSw); go_simp; try (with_reducible rfl)
      try simp only [Act.put, List.setIfInBounds_toArray, List.set_cons_zero, List.set_cons_succ]
      refine take_runs (i := 7) (v := ?_) (by simp only [List.getElem?_toArray, List.getElem?_cons_succ, List.getElem?_cons_zero]; rfl) (by kernel_rfl) (by kernel_rfl) (by kernel_rfl) rfl (by exact fun _ _ _ h => h) (by rfl) ?_ (by assumption) ?_
      rotate_left
      · intro w hSw; (try dsimp only at hSw); go_simp; try (with_reducible rfl)
      try simp only [Act.put, List.setIfInBounds_toArray, List.set_cons_zero, List.set_cons_succ]
      refine take_runs (i := 8) (v := ?_) (by simp only [List.getElem?_toArray, List.getElem?_cons_succ, List.getElem?_cons_zero]; rfl) (by kernel_rfl) (by kernel_rfl) (by kernel_rfl) rfl (by exact fun _ _ _ h => h) (by rfl) ?_ (by assumption) ?_
      rotate_left
      · intro w hSw; (try dsimp only at hSw); go_simp; try (with_reducible rfl)
      try simp only [Act.put, List.setIfInBounds_toArray, List.set_cons_zero, List.set_cons_succ]
      refine take_runs (i := 9) (v := ?_) (by simp only [List.getElem?_toArray, List.getElem?_cons_succ, List.getElem?_cons_zero]; rfl) (by kernel_rfl) (by kernel_rfl) (by kernel_rfl) rfl (by exact fun _ _ _ h => h) (by rfl) ?_ (by assumption) ?_
      rotate_left
      · intro w hSw; (try dsimp only at hSw); go_simp; try (with_reducible rfl)
      try simp only [Act.put, List.setIfInBounds_toArray, List.set_cons_zero, List.set_cons_succ]
      refine wpAnyH_ready (rs := [10]) (by kernel_rfl) (by simp) ?_
      refine AllReadyH.cons (o := _) (by simp only [List.getElem?_toArray, List.getElem?_cons_succ, List.getElem?_cons_zero]; rfl) (fun K hK => ?_) AllReadyH.nil
      go_simp
      have hA : Below u2.heap.size u2 (u2.alloc (.cells #[.int .i64 x] 3)).drew := below_drew ((Below.refl _ _).alloc (Nat.le_refl _) _)
      have q7 : (u2.alloc (.cells #[.int .i64 x] 3)).drew.cell? ⟨u2.heap.size, 0, none⟩ = some (.int .i64 x) := (cell_lit u2 #[.int .i64 x] 3 0).trans rfl
      have l7 : u2.heap.size < (u2.alloc (.cells #[.int .i64 x] 3)).drew.heap.size := by show u2.heap.size < (u2.alloc _).heap.size; simp
      generalize (u2.alloc (.cells #[.int .i64 x] 3)).drew = W7 at *
      have c7 := CU2.out.trans (hA.mono CU2.out.size)
      have o7 := ownsN_below HOW.out hA
      have xo := (hA.cell (p := ⟨bo, offo + k, none⟩) hblo).trans o0
      have xx := (hA.cell (p := ⟨bx, offx + fn, none⟩) hblx).trans x0
      clear p0 p1 p2 p3 r0 r1
      obtain ⟨p0, p1, p2, p3, r0, r1⟩ := qr_boxes HG0.out HG1.out HZ.out c7
      refine hK.out _ _ ⟨r1, p3, xo, xx⟩ (fun hHeld => ?_)
      clear hK K
      try simp only [Act.put, List.setIfInBounds_toArray, List.set_cons_zero, List.set_cons_succ]
      refine wpAnyH_ready (rs := [11]) (by kernel_rfl) (by simp) ?_
      refine AllReadyH.cons (o := _) (by simp only [List.getElem?_toArray, List.getElem?_cons_succ, List.getElem?_cons_zero]; rfl) (fun K hK => ?_) AllReadyH.nil
      refine step_append_ints rfl (.tmp 23) (.tmp 33) rfl W.heap.size _ _ ac [x] rfl rfl o7 (ints_one' q7 l7) c7.size (by have := HKL.out; simp; omega) ?_
      intro u W8 oB bB
      have c8 := c7.trans bB
      have l8 : bo < W8.heap.size ∧ bx < W8.heap.size := ⟨Nat.lt_of_lt_of_le (Nat.lt_of_lt_of_le hblo hA.size) bB.size, Nat.lt_of_lt_of_le (Nat.lt_of_lt_of_le hblx hA.size) bB.size⟩
      have yo : W8.cell? ⟨bo, offo + k, none⟩ = some (.int .i64 (fn : Int)) := by
        exact HSO.out W8 c8
      have yx : W8.cell? ⟨bx, offx + fn, none⟩ = some (.int .i64 x) := HSX.out W8 c8
      clear p0 p1 p2 p3 r0 r1
      obtain ⟨p0, p1, p2, p3, r0, r1⟩ := qr_boxes HG0.out HG1.out HZ.out c8
      refine hK.out _ _ ⟨r1, p3, yo, yx⟩ (fun hHeld => ?_)
      clear hK K
      try simp only [Act.put, List.setIfInBounds_toArray, List.set_cons_zero, List.set_cons_succ]
      refine take_runs (i := 12) (v := ?_) (by simp only [List.getElem?_toArray, List.getElem?_cons_succ, List.getElem?_cons_zero]; rfl) (by kernel_rfl) (by kernel_rfl) (by kernel_rfl) rfl (by exact fun _ _ _ h => h) (by rfl) ?_ (by assumption) ?_
      rotate_left
      · intro w hSw; (try dsimp only at hSw); go_simp; try (with_reducible rfl)
      try simp only [Act.put, List.setIfInBounds_toArray, List.set_cons_zero, List.set_cons_succ]
      refine wpAnyH_done (by kernel_rfl) ?_ _
      rw [HST.out] at oB
      clear hHeld
      go_wp2
      go_roundw
      case rel => exact ⟨k + 1, by omega, by go_num, oB, c8⟩
      case measure => simp [intOf]; omega
    · obtain rfl : k = os.length := by omega
      rw [List.take_length] at hown
      have i2 : ¬ (os.length : Int) < (os.length : Int) := by omega
      go_wp2
      go_ret
      exact ⟨_, rfl, by rw [HF.out]; exact ownsN_up (hown) HB0.out.size, HB0.out.trans (hbel.mono HB0.out.size)⟩
theorem specProjectRow (id tn rid : Int) (cv ov vv : Value) (cs : List CondD) (os xs : List Int) (w : World) (h : CondsR w cv cs) (hn : cs.length ≤ 1048576) (g : Ints w ov os) (hm : os.length ≤ 1048576) (gr : Ints w vv xs) (hx : xs.length ≤ 1048576) :
    Calls Tryz.prog 18 #[qV id tn cv ov, .agg #[.int .i64 rid, vv]] w (FreshInts w (projL id tn cs os (rid, xs))) := by
  cases hr : rowB (rid, xs) with
  | false => exact specProj_noRow id tn rid cv ov vv cs os xs w h hn g hm gr hx hr
  | true =>
    cases hq : queryB id tn cs os with
    | false => exact specProj_noQuery id tn rid cv ov vv cs os xs w h hn g hm gr hx hr hq
    | true => exact specProj_both id tn rid cv ov vv cs os xs w h hn g hm gr hx hr hq
end Go.Proofs.YteelgogfpidcdaaGreatDoor
namespace Go.Proofs.YteelgogfpidcdaaGreatDoor
open Go.RowKit
set_option linter.unusedVariables false
set_option linter.unusedSimpArgs false
/-- Marking the values of a row that the call made writes into their block alone. -/
def MarkedRow (w : World) (B : Nat) (v : Value) (n : Nat) (k : Int) (e : Ending) (w' : World) : Prop :=
  e = .returned (.int .i64 (k + (n : Int))) ∧ OwnsN w' B v (marks k n) ∧ Below B w w' ∧ ∀ j, j < w.heap.size → some j ≠ v.ownBlock → w'.heap[j]? = w.heap[j]?
end Go.Proofs.YteelgogfpidcdaaGreatDoor
namespace Go.Proofs.YteelgogfpidcdaaGreatDoor
open Go.RowKit
set_option linter.unusedVariables false
set_option linter.unusedSimpArgs false
theorem projL_len (id tn : Int) (cs : List CondD) (os : List Int) (r : RowD) : (projL id tn cs os r).length ≤ os.length := by
  unfold projL
  split
  · simp
  · simp
end Go.Proofs.YteelgogfpidcdaaGreatDoor
namespace Go.Proofs.YteelgogfpidcdaaGreatDoor
open Go.RowKit
set_option linter.unusedVariables false
set_option linter.unusedSimpArgs false
end Go.Proofs.YteelgogfpidcdaaGreatDoor
namespace Go.Proofs.YteelgogfpidcdaaGreatDoor
open Go.RowKit
set_option linter.unusedVariables false
set_option linter.unusedSimpArgs false
set_option maxHeartbeats 4000000 in
set_option maxRecDepth 100000 in
theorem admit_any (cv vv : Value) (cs : List CondD) (xs : List Int) (w : World) (h : CondsR w cv cs) (hn : cs.length ≤ 1048576) (gr : Ints w vv xs) (h3 : xs.length = 3) (hc : ∀ k, k < cs.length → 0 ≤ (cs.getD k c0D).1 ∧ (cs.getD k c0D).1 ≤ 2) :
    Calls Tryz.prog 56 #[cv, vv] w fun e w' => e = .returned (.bool (cs.all (okC xs))) ∧ Below w.heap.size w w' := by
  have H := Lib.hid h
  have HX := Lib.hid gr
  have HLN := Lib.hid h3
  have HCD := Lib.hid hc
  obtain ⟨ca, ccap, rfl⟩ := condsR_len h
  obtain ⟨va, vcap, rfl⟩ := ints_len gr
  clear h gr h3 hc
  go_enter Tryz.func56, Tryz.ntmps56
  go_wp2
  go_loopw [10] (fun i wr => ∃ k : Nat, k ≤ cs.length ∧ i = .int .i64 k ∧ Hid (∀ j, j < k → okC xs (cs.getD j c0D) = true) ∧ Below w.heap.size w wr) (fun i _ => cs.length - (intOf i).toNat)
  case atStart => exact ⟨0, Nat.zero_le _, rfl, Lib.hid (fun j hj => by omega), Below.refl _ _⟩
  case round =>
    obtain ⟨k, hk, rfl, hall, hbel⟩ := hrel
    by_cases hlt : k < cs.length
    · have i1 : (0 : Int) ≤ (k : Int) := by omega
      have i2 : (k : Int) < (cs.length : Int) := by omega
      obtain ⟨bc, offc, capc, hvc, hblc, d1, d2, d3⟩ := condsR_at (condsR_below H.out hbel) hlt
      simp only [Value.slice.injEq] at hvc
      obtain ⟨rfl, _, rfl⟩ := hvc
      have hcd := HCD.out k hlt
      have hok : okC xs (cs.getD k c0D) = true → Hid (∀ j, j < k + 1 → okC xs (cs.getD j c0D) = true) := fun h => Lib.hid (fun j hj => by
        by_cases e : j = k
        · subst e; exact h
        · exact hall.out j (by omega))
      have hno : okC xs (cs.getD k c0D) = false → Hid (cs.all (okC xs) = false) := fun h => Lib.hid (all_bad hlt h)
      have HOK := Lib.hid hok
      have HNO := Lib.hid hno
      clear hok hno hall
      generalize cs.getD k c0D = c at *
      obtain ⟨f, lo, hi⟩ := c
      simp only at d1 d2 d3 hcd
      obtain ⟨fn, rfl⟩ := Int.eq_ofNat_of_zero_le hcd.1
      have hfn : fn < xs.length := by have := HLN.out; omega
      obtain ⟨bx, offx, capx, hvx, hblx, hcx⟩ := ints_cell (ints_below HX.out hbel) (by omega)
      simp only [Value.slice.injEq] at hvx
      obtain ⟨rfl, _, rfl⟩ := hvx
      have x0 := hcx fn hfn
      have j1 : (0 : Int) ≤ (fn : Int) := by omega
      have j2 : (fn : Int) < (xs.length : Int) := by omega
      have ho : okC xs ((fn : Int), lo, hi) = decide (lo ≤ xs.getD fn 0 ∧ xs.getD fn 0 ≤ hi) := by unfold okC; simp
      rw [ho] at HOK HNO
      clear hcx ho hcd
      generalize xs.getD fn 0 = x at *
      have hal : Below wr.heap.size wr (wr.alloc (.cells #[.int .i64 (fn : Int), .int .i64 lo, .int .i64 hi] 67)) := (Below.refl _ _).alloc (Nat.le_refl _) _
      have x1 := (hal.cell (p := ⟨bx, offx + fn, none⟩) hblx).trans x0
      have c3 := hbel.trans (hal.mono hbel.size)
      by_cases ha : lo ≤ x
      · by_cases hb : x ≤ hi
        · have HA := HOK.out (decide_eq_true ⟨ha, hb⟩)
          have ta : ¬ x < lo := by omega
          have tb : ¬ hi < x := by omega
          clear HOK HNO ha hb hal hblx hblc x0
          go_wp2
          go_roundw
          case rel => exact ⟨k + 1, by omega, by go_num, HA, c3⟩
          case measure => simp [intOf]; omega
        · have HA := HNO.out (decide_eq_false (fun g => hb g.2))
          have ta : ¬ x < lo := by omega
          have tb : hi < x := by omega
          clear HOK HNO ha hb hal hblx hblc x0
          go_wp2
          go_ret
          exact ⟨ret_b HA.out.symm, c3⟩
      · have HA := HNO.out (decide_eq_false (fun g => ha g.1))
        have ta : x < lo := by omega
        clear HOK HNO ha hal hblx hblc x0
        go_wp2
        go_ret
        exact ⟨ret_b HA.out.symm, c3⟩
    · obtain rfl : k = cs.length := by omega
      have HA := Lib.hid (all_ok hall.out)
      clear hall
      go_wp2
      go_ret
      exact ⟨ret_b HA.out.symm, hbel⟩
theorem cr_boxes {W w : World} {g : Nat} {a b x y : Value} (g0 : W.heap[g]? = some (.cells #[a, b] 52 (0, 0))) (g1 : W.heap[g + 1]? = some (.cells #[x, y] 36 (0, 0))) (hz : g + 1 < W.heap.size) (hb : Below W.heap.size W w) :
    w.cell? ⟨g, 0, none⟩ = some a ∧ w.cell? ⟨g, 1, none⟩ = some b ∧ w.cell? ⟨g + 1, 0, none⟩ = some x ∧ w.cell? ⟨g + 1, 1, none⟩ = some y := by
  have k0 := (hb.block g (by omega)).trans g0
  have k1 := (hb.block (g + 1) hz).trans g1
  exact ⟨(cell_of_row w _ 0 _ _ _ k0).trans rfl, (cell_of_row w _ 1 _ _ _ k0).trans rfl, (cell_of_row w _ 0 _ _ _ k1).trans rfl, (cell_of_row w _ 1 _ _ _ k1).trans rfl⟩
set_option maxHeartbeats 4000000 in
set_option maxRecDepth 100000 in
theorem matches_any (rid : Int) (cv ov vv : Value) (cs : List CondD) (os xs : List Int) (w : World) (h : CondsR w cv cs) (hn : cs.length ≤ 1048576) (g : Ints w ov os) (gr : Ints w vv xs) (hx : xs.length ≤ 1048576) (hc : ∀ k, k < cs.length → 0 ≤ (cs.getD k c0D).1 ∧ (cs.getD k c0D).1 ≤ 2) :
    Calls Tryz.prog 26 #[.agg #[cv, ov], .agg #[.int .i64 rid, vv]] w fun e w' => e = .returned (.bool (rowB (rid, xs) && cs.all (okC xs))) ∧ Below w.heap.size w w' := by
  obtain ⟨ca, ccap, rfl⟩ := condsR_len h
  obtain ⟨oa, ocap, rfl⟩ := ints_len g
  obtain ⟨va, vcap, rfl⟩ := ints_len gr
  have hb0 : Below w.heap.size w ((w.alloc (.cells #[.slice ca cs.length ccap, .slice oa os.length ocap] 52)).alloc (.cells #[.int .i64 rid, .slice va xs.length vcap] 36)) := ((Below.refl _ w).alloc (Nat.le_refl _) _).alloc (by simp) _
  have HG1 : Hid (((w.alloc (.cells #[.slice ca cs.length ccap, .slice oa os.length ocap] 52)).alloc (.cells #[.int .i64 rid, .slice va xs.length vcap] 36)).heap[w.heap.size + 1]? = some (.cells #[.int .i64 rid, .slice va xs.length vcap] 36 (0, 0))) := Lib.hid (by
    have := heap_alloc_new (w.alloc (.cells #[.slice ca cs.length ccap, .slice oa os.length ocap] 52)) (.cells #[.int .i64 rid, .slice va xs.length vcap] 36)
    simpa only [World.size_alloc] using this)
  have HG0 : Hid (((w.alloc (.cells #[.slice ca cs.length ccap, .slice oa os.length ocap] 52)).alloc (.cells #[.int .i64 rid, .slice va xs.length vcap] 36)).heap[w.heap.size]? = some (.cells #[.slice ca cs.length ccap, .slice oa os.length ocap] 52 (0, 0))) := Lib.hid (by
    rw [Below.heap_alloc _ _ _ (by simp)]
    exact heap_alloc_new w _)
  have HZ : Hid (w.heap.size + 1 < ((w.alloc (.cells #[.slice ca cs.length ccap, .slice oa os.length ocap] 52)).alloc (.cells #[.int .i64 rid, .slice va xs.length vcap] 36)).heap.size) := Lib.hid (by simp)
  have HB0 := Lib.hid hb0
  have HC := Lib.hid (condsR_below h hb0)
  have HX := Lib.hid (ints_below gr hb0)
  have HR := Lib.hid (fun w h => implIsRow rid (.slice va xs.length vcap) xs w h hx)
  clear h g gr hx hb0
  cases hr : rowB (rid, xs) with
  | false =>
    have HT : Hid ((false && cs.all (okC xs)) = false) := Lib.hid rfl
    rw [hr] at HR
    clear hr
    go_enter Tryz.func26, Tryz.ntmps26
    go_wp2_with fail
    generalize ((w.alloc (.cells #[.slice ca cs.length ccap, .slice oa os.length ocap] 52)).alloc (.cells #[.int .i64 rid, .slice va xs.length vcap] 36)) = W at *
    refine (HR.out _ HX.out).mono ?_
    rintro e w1 ⟨rfl, b1⟩
    have c1 := HB0.out.trans (b1.mono HB0.out.size)
    go_wp2
    go_ret
    exact ⟨ret_b HT.out.symm, c1⟩
  | true =>
    have HA := Lib.hid (fun w h g => admit_any (.slice ca cs.length ccap) (.slice va xs.length vcap) cs xs w h hn g (row_len hr) hc)
    rw [hr] at HR
    clear hr hn hc
    obtain ⟨r, hrr⟩ : ∃ r, cs.all (okC xs) = r := ⟨_, rfl⟩
    rw [hrr] at HA ⊢
    clear hrr
    go_enter Tryz.func26, Tryz.ntmps26
    go_wp2_with fail
    generalize ((w.alloc (.cells #[.slice ca cs.length ccap, .slice oa os.length ocap] 52)).alloc (.cells #[.int .i64 rid, .slice va xs.length vcap] 36)) = W at *
    refine (HR.out _ HX.out).mono ?_
    rintro e w1 ⟨rfl, b1⟩
    have c1 := HB0.out.trans (b1.mono HB0.out.size)
    obtain ⟨p0, p1, r0, r1⟩ := cr_boxes HG0.out HG1.out HZ.out b1
    go_wp2_with fail
    refine (HA.out _ (condsR_below HC.out b1) (ints_below HX.out b1)).mono ?_
    rintro e w2 ⟨rfl, b2⟩
    have c2 := c1.trans (b2.mono c1.size)
    go_wp2
    go_ret
    exact ⟨ret_b (by simp), c2⟩
set_option maxHeartbeats 4000000 in
set_option maxRecDepth 100000 in
theorem implMatchesRow (id tn rid : Int) (cv ov vv : Value) (cs : List CondD) (os xs : List Int) (w : World) (h : CondsR w cv cs) (hn : cs.length ≤ 1048576) (g : Ints w ov os) (hm : os.length ≤ 1048576) (gr : Ints w vv xs) (hx : xs.length ≤ 1048576) :
    Calls Tryz.prog 10 #[qV id tn cv ov, .agg #[.int .i64 rid, vv]] w fun e w' => e = .returned (.bool (matchB id tn cs os (rid, xs))) ∧ Below w.heap.size w w' := by
  obtain ⟨ca, ccap, rfl⟩ := condsR_len h
  obtain ⟨oa, ocap, rfl⟩ := ints_len g
  obtain ⟨va, vcap, rfl⟩ := ints_len gr
  have hb0 : Below w.heap.size w ((w.alloc (.cells #[.int .i64 id, .int .i64 tn, .slice ca cs.length ccap, .slice oa os.length ocap] 27)).alloc (.cells #[.int .i64 rid, .slice va xs.length vcap] 36)) := ((Below.refl _ w).alloc (Nat.le_refl _) _).alloc (by simp) _
  have HG1 : Hid (((w.alloc (.cells #[.int .i64 id, .int .i64 tn, .slice ca cs.length ccap, .slice oa os.length ocap] 27)).alloc (.cells #[.int .i64 rid, .slice va xs.length vcap] 36)).heap[w.heap.size + 1]? = some (.cells #[.int .i64 rid, .slice va xs.length vcap] 36 (0, 0))) := Lib.hid (by
    have := heap_alloc_new (w.alloc (.cells #[.int .i64 id, .int .i64 tn, .slice ca cs.length ccap, .slice oa os.length ocap] 27)) (.cells #[.int .i64 rid, .slice va xs.length vcap] 36)
    simpa only [World.size_alloc] using this)
  have HG0 : Hid (((w.alloc (.cells #[.int .i64 id, .int .i64 tn, .slice ca cs.length ccap, .slice oa os.length ocap] 27)).alloc (.cells #[.int .i64 rid, .slice va xs.length vcap] 36)).heap[w.heap.size]? = some (.cells #[.int .i64 id, .int .i64 tn, .slice ca cs.length ccap, .slice oa os.length ocap] 27 (0, 0))) := Lib.hid (by
    rw [Below.heap_alloc _ _ _ (by simp)]
    exact heap_alloc_new w _)
  have HZ : Hid (w.heap.size + 1 < ((w.alloc (.cells #[.int .i64 id, .int .i64 tn, .slice ca cs.length ccap, .slice oa os.length ocap] 27)).alloc (.cells #[.int .i64 rid, .slice va xs.length vcap] 36)).heap.size) := Lib.hid (by simp)
  have HB0 := Lib.hid hb0
  have HC := Lib.hid (condsR_below h hb0)
  have HO := Lib.hid (ints_below g hb0)
  have HX := Lib.hid (ints_below gr hb0)
  cases hq : queryB id tn cs os with
  | false =>
    have HQ := Lib.hid (fun w h g => checkQuery_no id tn (.slice ca cs.length ccap) (.slice oa os.length ocap) cs os w h hn g hm hq)
    have HT : Hid (matchB id tn cs os (rid, xs) = false) := Lib.hid (by unfold matchB; rw [hq]; simp)
    clear h g hn hm gr hx hb0 hq
    go_enter Tryz.func10, Tryz.ntmps10
    go_wp2_with fail
    generalize ((w.alloc (.cells #[.int .i64 id, .int .i64 tn, .slice ca cs.length ccap, .slice oa os.length ocap] 27)).alloc (.cells #[.int .i64 rid, .slice va xs.length vcap] 36)) = W at *
    refine (HQ.out _ HC.out HO.out).mono ?_
    rintro e w1 ⟨rfl, b1⟩
    have c1 := HB0.out.trans (b1.mono HB0.out.size)
    have c2 := c1.alloc c1.size (.cells #[.slice none 0 0, .slice none 0 0] 52)
    go_wp2
    go_ret
    exact ⟨ret_b HT.out.symm, c2⟩
  | true =>
    have HQ := Lib.hid (fun w h g => checkQuery_yes id tn (.slice ca cs.length ccap) (.slice oa os.length ocap) cs os w h hn g hm hq)
    have HM := Lib.hid (fun w h g gr => matches_any rid (.slice ca cs.length ccap) (.slice oa os.length ocap) (.slice va xs.length vcap) cs os xs w h hn g gr hx (fun k hk => query_conds hq hk))
    have HT : Hid (matchB id tn cs os (rid, xs) = (rowB (rid, xs) && cs.all (okC xs))) := Lib.hid (by unfold matchB; rw [hq]; simp)
    clear h g hn hm gr hx hb0 hq
    generalize (rowB (rid, xs) && cs.all (okC xs)) = r at *
    go_enter Tryz.func10, Tryz.ntmps10
    go_wp2_with fail
    generalize ((w.alloc (.cells #[.int .i64 id, .int .i64 tn, .slice ca cs.length ccap, .slice oa os.length ocap] 27)).alloc (.cells #[.int .i64 rid, .slice va xs.length vcap] 36)) = W at *
    refine (HQ.out _ HC.out HO.out).mono ?_
    rintro e w1 ⟨rfl, b1⟩
    have a1 : Below w1.heap.size w1 (w1.alloc (.cells #[.slice ca cs.length ccap, .slice oa os.length ocap] 52)) := (Below.refl _ _).alloc (Nat.le_refl _) _
    have b2 := b1.trans (a1.mono b1.size)
    have c2 := HB0.out.trans (b2.mono HB0.out.size)
    obtain ⟨p0, p1, p2, p3, r0, r1⟩ := qr_boxes HG0.out HG1.out HZ.out b2
    clear a1 b1
    go_wp2_with fail
    refine (HM.out _ (condsR_below HC.out b2) (ints_below HO.out b2) (ints_below HX.out b2)).mono ?_
    rintro e w3 ⟨rfl, b3⟩
    have c3 := c2.trans (b3.mono c2.size)
    go_wp2
    go_ret
    exact ⟨ret_b HT.out.symm, c3⟩
end Go.Proofs.YteelgogfpidcdaaGreatDoor
namespace Go.Proofs.YteelgogfpidcdaaGreatDoor
open Go.RowKit
set_option linter.unusedVariables false
end Go.Proofs.YteelgogfpidcdaaGreatDoor
namespace Go.Proofs.YteelgogfpidcdaaGreatDoor
open Go.RowKit
set_option linter.unusedVariables false
set_option linter.unusedSimpArgs false
end Go.Proofs.YteelgogfpidcdaaGreatDoor
namespace Go.Proofs.YteelgogfpidcdaaGreatDoor
open Go.RowKit
set_option linter.unusedVariables false
set_option linter.unusedSimpArgs false
/-- A row with the slice in which its values lie, which the call made, in a block other than g. -/
def Elem (W : World) (B g : Nat) : Type := { p : RowD × Value // OwnsN W B p.2 p.1.2 ∧ p.1.2.length ≤ 1048576 ∧ p.2.ownBlock ≠ some g }
instance elemInh (W : World) (B g : Nat) : Inhabited (Elem W B g) := ⟨⟨((0, []), .slice none 0 0), ownsN_nil W B, by simp, by simp [Value.ownBlock]⟩⟩
def mkE {W : World} {B g : Nat} (p : RowD × Value) (h : OwnsN W B p.2 p.1.2 ∧ p.1.2.length ≤ 1048576 ∧ p.2.ownBlock ≠ some g) : Elem W B g := ⟨p, h⟩
def encE {W : World} {B g : Nat} (x : Elem W B g) : List Value := [.int .i64 x.1.1.1, x.1.2]
def cfE {W : World} {B g : Nat} (x y : Elem W B g) : Int := cmpR x.1.1 y.1.1
theorem ltE {W : World} {B g : Nat} (x y : Elem W B g) : ltOf cfE x y = rowLess x.1.1 y.1.1 := cmpR_less _ _
theorem swoE (W : World) (B g : Nat) : Sort.SWO (ltOf (cfE (W := W) (B := B) (g := g))) where
  irrefl x := by rw [ltE]; exact rowLess_irr _
  trans x y z h1 h2 := by rw [ltE] at *; exact rowLess_trans _ _ _ h1 h2
  ntrans x y z h1 h2 := by rw [ltE] at *; exact rowLess_ntrans _ _ _ h1 h2
theorem oneE {W : World} {B g : Nat} (x : Elem W B g) : ∀ v ∈ encE x, v.oneCell' = true := by
  intro v hv
  simp only [encE, List.mem_cons, List.not_mem_nil, or_false] at hv
  rcases hv with rfl | rfl
  · rfl
  · obtain ⟨a, cap, e⟩ := ints_len (ownsN_ints x.2.1)
    rw [e]; rfl
theorem heap_sortW {W : World} {B g : Nat} (m : Nat) (dk : Array (Elem W B g)) (os : Array Obj) {b : Nat} (hb : b < W.heap.size) (hne : b ≠ g) : (sortWorldK encE 2 W g 0 m dk os).heap[b]? = W.heap[b]? := by
  unfold sortWorldK Sort.putRowK Sort.putRow Sort.mapBlock Sort.grow Sort.ahead
  simp only
  rw [Array.getElem?_append_left (by simpa using hb), Array.getElem?_modify, if_neg (fun e => hne e.symm)]
theorem heap_sortG {W : World} {B g : Nat} (m : Nat) (dk : Array (Elem W B g)) (os : Array Obj) {cur : Array Value} {t : TypeId} {fr : Nat × Nat} (hg : W.heap[g]? = some (.cells cur t fr)) : (sortWorldK encE 2 W g 0 m dk os).heap[g]? = some (.cells (Sort.putCells id 0 (Sort.flatK encE 2 dk) cur) t fr) := by
  have hb : g < W.heap.size := (Array.getElem?_eq_some_iff.1 hg).1
  unfold sortWorldK Sort.putRowK Sort.putRow Sort.mapBlock Sort.grow Sort.ahead
  simp only
  rw [Array.getElem?_append_left (by simpa using hb), Array.getElem?_modify, if_pos rfl, hg]
  rfl
theorem size_sortW {W : World} {B g : Nat} (m : Nat) (dk : Array (Elem W B g)) (os : Array Obj) : W.heap.size ≤ (sortWorldK encE 2 W g 0 m dk os).heap.size := by
  unfold sortWorldK Sort.putRowK Sort.putRow Sort.mapBlock Sort.grow Sort.ahead
  simp
theorem ownsN_sortW {W : World} {B g : Nat} (m : Nat) (dk : Array (Elem W B g)) (os : Array Obj) {v : Value} {xs : List Int} (h : OwnsN W B v xs) (hne : v.ownBlock ≠ some g) : OwnsN (sortWorldK encE 2 W g 0 m dk os) B v xs := by
  refine ⟨h.1, ?_⟩
  rcases h.2 with hn | ⟨b, cap, cur, rfl, hb', hg, rest⟩
  · exact .inl hn
  · refine .inr ⟨b, cap, cur, rfl, hb', ?_, rest⟩
    rw [heap_sortW m dk os (Array.getElem?_eq_some_iff.1 hg).1 (fun e => hne (by simp [Value.ownBlock, e]))]
    exact hg
theorem below_sortW {W : World} {B g C : Nat} (m : Nat) (dk : Array (Elem W B g)) (os : Array Obj) (hC : C ≤ g) (hCW : C ≤ W.heap.size) : Below C W (sortWorldK encE 2 W g 0 m dk os) :=
  ⟨rfl, rfl, rfl, size_sortW m dk os, fun k hk => heap_sortW m dk os (by omega) (by omega)⟩
theorem cmpLaysE (W : World) (B g : Nat) (size : Nat) : CmpLays Tryz.prog 50 #[] (encE (W := W) (B := B) (g := g)) 2 cfE g 0 size W :=
  fun m os dk _ x y => compareRows_any x.1.1.1 y.1.1.1 x.1.2 y.1.2 x.1.1.2 y.1.1.2 _ (ownsN_ints (ownsN_sortW m dk os x.2.1 x.2.2.2)) (ownsN_ints (ownsN_sortW m dk os y.2.1 y.2.2.2)) x.2.2.1 y.2.2.1
theorem flat_even {W : World} {B g : Nat} (d : Array (Elem W B g)) {j : Nat} (hj : j < d.size) : (Sort.flatK encE 2 d).toList[j * 2]? = some (.int .i64 (d[j]!).1.1.1) ∧ (Sort.flatK encE 2 d).toList[j * 2 + 1]? = some (d[j]!).1.2 := by
  have h0 : j * 2 < d.size * 2 := by omega
  have h1 : j * 2 + 1 < d.size * 2 := by omega
  have e0 := Sort.get_flatK encE 2 d (j * 2) h0
  have e1 := Sort.get_flatK encE 2 d (j * 2 + 1) h1
  rw [show j * 2 / 2 = j by omega, show j * 2 % 2 = 0 by omega] at e0
  rw [show (j * 2 + 1) / 2 = j by omega, show (j * 2 + 1) % 2 = 1 by omega] at e1
  have s0 : j * 2 < (Sort.flatK encE 2 d).size := by rw [Sort.size_flatK]; exact h0
  have s1 : j * 2 + 1 < (Sort.flatK encE 2 d).size := by rw [Sort.size_flatK]; exact h1
  rw [getElem!_pos (Sort.flatK encE 2 d) (j * 2) s0] at e0
  rw [getElem!_pos (Sort.flatK encE 2 d) (j * 2 + 1) s1] at e1
  refine ⟨?_, ?_⟩
  · rw [Array.getElem?_toList, Array.getElem?_eq_getElem s0, e0]; rfl
  · rw [Array.getElem?_toList, Array.getElem?_eq_getElem s1, e1]; rfl
/-- The sort of a slice of rows that the call made. -/
theorem sortRows_own {W : World} {B : Nat} {v : Value} {rs : List RowD} (h : OwnsR W B v rs) (hs : szL rs ≤ 1048576) (hB : B ≤ W.heap.size) :
    Calls Tryz.prog 49 #[v, .func (.func 50) #[] #[]] W fun e w' => e = .returned (.tuple #[]) ∧ OwnsR w' B v (sortL rs) ∧ Below B W w' := by
  have hlen := szL_len hs
  by_cases h0 : rs = []
  · subst h0
    obtain ⟨a, cap, rfl⟩ := ownsR_len h
    refine (AnyF.slices_SortFunc_none Tryz.sortRow a cap _ W).mono ?_
    rintro e w' ⟨rfl, rfl⟩
    exact ⟨rfl, h, Below.refl _ _⟩
  · obtain ⟨cs, vs, h1, h2, h3⟩ := h
    have hpos : 0 < rs.length := List.length_pos_iff.2 h0
    rcases h1.2 with ⟨_, hz⟩ | ⟨g, cap, cur, rfl, hb, hg, hn, hm, hcs, htake⟩
    · omega
    · have hel : ∀ j, (hj : j < rs.length) → OwnsN W B (vs j) (rs.getD j (0, [])).2 ∧ (rs.getD j (0, [])).2.length ≤ 1048576 ∧ (vs j).ownBlock ≠ some g := fun j hj => by
        obtain ⟨_, _, k3, k4⟩ := h2 j hj
        exact ⟨k3, szL_row hs hj, fun e => k4 g e rfl⟩
      obtain ⟨d, hd⟩ : ∃ d : Array (Elem W B g), d = Array.ofFn (fun j : Fin rs.length => mkE (rs.getD j (0, []), vs j) (hel j j.2)) := ⟨_, rfl⟩
      have hsz : d.size = rs.length := by rw [hd, Array.size_ofFn]
      have hat : ∀ j, j < rs.length → (d[j]!).1 = (rs.getD j (0, []), vs j) := fun j hj => by
        rw [getElem!_pos d j (by omega)]
        subst hd
        rw [Array.getElem_ofFn]
        rfl
      have hH : Sort.HoldsK encE 2 W g 0 d := by
        intro t ht
        rw [Sort.size_flatK, hsz] at ht
        refine ⟨?_, World.ownsRow.frozenAt h1 _⟩
        rw [Sort.get_flatK encE 2 d t (by omega), Nat.zero_add, World.ownsRow.cellAt h1 t (by omega)]
        obtain ⟨k1, k2, _⟩ := h2 (t / 2) (by omega)
        have hdt := hat (t / 2) (by omega)
        rcases Nat.mod_two_eq_zero_or_one t with e | e
        · rw [e]
          rw [show t / 2 * 2 = t by omega] at k1
          rw [k1]
          simp [encE, hdt]
        · rw [e]
          rw [show t / 2 * 2 + 1 = t by omega] at k2
          rw [k2]
          simp [encE, hdt]
      have hgl : g < W.heap.size := (Array.getElem?_eq_some_iff.1 hg).1
      have hcon := AnyQ.slices_SortFunc Tryz.sortRow 2 Tryz.isAgg36 Tryz.sizeOf36 (encE (W := W) (B := B) (g := g)) (fun _ => rfl) oneE cfE (swoE W B g) 50 #[] g 0 cap d W (enters_of Tryz.func50 (by kernel_rfl) rfl) (cmpLaysE W B g d.size) hH hgl (by omega)
      rw [hsz] at hcon
      refine hcon.mono ?_
      rintro e w' ⟨rfl, d', n, os, ⟨hps, _, hperm⟩, hsort, rfl⟩
      rw [hsz] at hps
      have he : d'.extract 0 rs.length = d' := by rw [← hps]; exact Array.extract_size
      have he2 : d.extract 0 rs.length = d := by rw [← hsz]; exact Array.extract_size
      rw [he, he2] at hperm
      have hmap : d.toList.map (fun x => x.1.1) = rs := by
        apply List.ext_getElem
        · simp [hsz]
        · intro i i1 i2
          have := hat i (by simpa using i2)
          rw [getElem!_pos d i (by omega)] at this
          rw [List.getElem_map, Array.getElem_toList, this, getD_at (by simpa using i2)]
      have hrows : d'.toList.map (fun x => x.1.1) = sortL rs := by
        refine sortL_unique ?_ ?_
        · have := hperm.map (fun x : Elem W B g => x.1.1)
          rwa [hmap] at this
        · refine List.pairwise_map.2 (List.pairwise_iff_getElem.2 fun i j hi hj hij => ?_)
          have := hsort i j (Nat.zero_le _) hij (by simpa [hps] using hj)
          rw [ltE, getElem!_pos d' j (by simpa using hj), getElem!_pos d' i (by simpa using hi)] at this
          simpa using this
      have hlen' : (sortL rs).length = rs.length := (sortL_perm rs).length_eq
      have hat' : ∀ j, j < rs.length → (d'[j]!).1.1 = (sortL rs).getD j (0, []) := fun j hj => by
        rw [getElem!_pos d' j (by omega), getD_at (by omega)]
        have : (sortL rs)[j]'(by omega) = (d'.toList.map (fun x => x.1.1))[j]'(by simp; omega) := by simp only [hrows]
        rw [this]
        simp
      have hdis : d'.toList.Pairwise (fun x y => ∀ b, x.1.2.ownBlock = some b → y.1.2.ownBlock ≠ some b) := by
        refine List.Pairwise.perm ?_ hperm.symm (fun {x y} hxy b hy hx => hxy b hx hy)
        refine List.pairwise_iff_getElem.2 fun i j hi hj hij => ?_
        have hi' : i < rs.length := by simpa [hsz] using hi
        have hj' : j < rs.length := by simpa [hsz] using hj
        have a1 := hat i hi'
        have a2 := hat j hj'
        rw [getElem!_pos d i (by omega)] at a1
        rw [getElem!_pos d j (by omega)] at a2
        rw [Array.getElem_toList, Array.getElem_toList, a1, a2]
        exact h3 i j hi' hj' (by omega)
      refine ⟨rfl, ⟨(Sort.flatK encE 2 d').toList, fun j => (d'[j]!).1.2, ?_, ?_, ?_⟩, below_sortW n d' os hb hB⟩
      · rw [hlen']
        refine ⟨by simp [Sort.size_flatK, hps], .inr ⟨g, cap, _, rfl, hb, heap_sortG n d' os hg, hn, hm, ?_, ?_⟩⟩
        · simp [Sort.putCells, hcs]
        · apply List.ext_getElem
          · simp [Sort.putCells, Sort.size_flatK, hps, hcs]; omega
          · intro i i1 i2
            have hi2 : i < rs.length * 2 := by simpa [Sort.size_flatK, hps] using i2
            rw [List.getElem_take, Array.getElem_toList, Array.getElem_toList]
            have hif : i < (Sort.flatK encE 2 d').size := by rw [Sort.size_flatK, hps]; exact hi2
            simp only [Sort.putCells, Array.getElem_mapIdx, Nat.zero_le, true_and, Nat.zero_add, hif, if_true, Nat.sub_zero, id]
            rw [getElem!_pos (Sort.flatK encE 2 d') i hif]
      · intro j hj
        rw [hlen'] at hj
        obtain ⟨f0, f1⟩ := flat_even d' (j := j) (by omega)
        have ha := hat' j hj
        refine ⟨by rw [f0, ha], f1, ?_, ?_⟩
        · have := ownsN_sortW n d' os (d'[j]!).2.1 (d'[j]!).2.2.2
          rwa [ha] at this
        · intro b hb1 hb2
          have : b = g := by simpa [Value.ownBlock] using hb2.symm
          subst this
          exact (d'[j]!).2.2.2 hb1
      · intro i j hi hj hij b hb1
        rw [hlen'] at hi hj
        have key : ∀ p q, p < q → q < rs.length → ∀ b, (d'[p]!).1.2.ownBlock = some b → (d'[q]!).1.2.ownBlock ≠ some b := fun p q hpq hq b => by
          have := List.pairwise_iff_getElem.1 hdis p q (by simp; omega) (by simp; omega) hpq b
          rw [getElem!_pos d' p (by omega), getElem!_pos d' q (by omega)]
          simpa using this
        rcases Nat.lt_or_gt_of_ne hij with hlt | hgt
        · exact key i j hlt hj b hb1
        · intro hb2
          exact key j i hgt hi b hb2 hb1
set_option maxHeartbeats 2000000 in
set_option maxRecDepth 100000 in
theorem implSortRows (v : Value) (rs : List RowD) (w : World) (h : RowsR w v rs) (hs : szL rs ≤ 1048576) :
    Calls Tryz.prog 21 #[v] w (FreshRows w (sortL rs)) := by
  have HC := Lib.hid (fun w h => copyRows_any v rs w h hs)
  have HS := Lib.hid (fun (W : World) (B : Nat) (v : Value) h hB => sortRows_own (W := W) (B := B) (v := v) (rs := rs) h hs hB)
  have H := Lib.hid h
  clear h hs
  go_enter Tryz.func21, Tryz.ntmps21
  go_wp2_with fail
  refine (HC.out _ H.out).mono ?_
  rintro e w1 ⟨u, rfl, ou, b1⟩
  go_wp2_with fail
  refine (HS.out _ _ _ ou b1.size).mono ?_
  rintro e w2 ⟨rfl, o2, b2⟩
  have b3 := b1.trans b2
  clear ou b1 b2
  go_wp2
  go_ret
  exact ⟨_, rfl, o2, b3⟩
end Go.Proofs.YteelgogfpidcdaaGreatDoor
namespace Go.Proofs.YteelgogfpidcdaaGreatDoor
open Go.RowKit
set_option linter.unusedVariables false
set_option linter.unusedSimpArgs false
theorem proj_set {os xs : List Int} {k : Nat} (hk : k < os.length) : ((os.take k).map (fun f : Int => xs.getD f.toNat 0) ++ List.replicate (os.length - k) 0).set k (xs.getD (os.getD k 0).toNat 0) = (os.take (k + 1)).map (fun f : Int => xs.getD f.toNat 0) ++ List.replicate (os.length - (k + 1)) 0 := by
  have hl : ((os.take k).map (fun f : Int => xs.getD f.toNat 0)).length = k := by rw [List.length_map, List.length_take]; omega
  rw [List.set_append_right _ _ (by omega), hl, Nat.sub_self, show os.length - k = (os.length - (k + 1)) + 1 by omega, List.replicate_succ, List.set_cons_zero, ← proj_step hk, List.append_assoc]
  rfl
set_option maxHeartbeats 4000000 in
set_option maxRecDepth 100000 in
theorem project_any (rid : Int) (cv ov vv : Value) (cs : List CondD) (os xs : List Int) (w : World) (h : CondsR w cv cs) (g : Ints w ov os) (hm : os.length ≤ 3) (gr : Ints w vv xs) (h3 : xs.length = 3) (hc : ∀ k, k < os.length → 0 ≤ os.getD k 0 ∧ os.getD k 0 ≤ 2) :
    Calls Tryz.prog 44 #[.agg #[cv, ov], .agg #[.int .i64 rid, vv]] w (FreshInts w (os.map (fun f : Int => xs.getD f.toNat 0))) := by
  obtain ⟨ca, ccap, rfl⟩ := condsR_len h
  obtain ⟨oa, ocap, rfl⟩ := ints_len g
  obtain ⟨va, vcap, rfl⟩ := ints_len gr
  obtain ⟨i0, hi, hz0, hz1, hz2⟩ := info_parts Tryz.infoI64
  have HI := Lib.hid hi; have HZ0 := Lib.hid hz0; have HZ1 := Lib.hid hz1; have HZ2 := Lib.hid hz2
  clear hi hz0 hz1 hz2
  have hb0 : Below w.heap.size w ((w.alloc (.cells #[.slice ca cs.length ccap, .slice oa os.length ocap] 52)).alloc (.cells #[.int .i64 rid, .slice va xs.length vcap] 36)) := ((Below.refl _ w).alloc (Nat.le_refl _) _).alloc (by simp) _
  have HG1 : Hid (((w.alloc (.cells #[.slice ca cs.length ccap, .slice oa os.length ocap] 52)).alloc (.cells #[.int .i64 rid, .slice va xs.length vcap] 36)).heap[w.heap.size + 1]? = some (.cells #[.int .i64 rid, .slice va xs.length vcap] 36 (0, 0))) := Lib.hid (by
    have := heap_alloc_new (w.alloc (.cells #[.slice ca cs.length ccap, .slice oa os.length ocap] 52)) (.cells #[.int .i64 rid, .slice va xs.length vcap] 36)
    simpa only [World.size_alloc] using this)
  have HG0 : Hid (((w.alloc (.cells #[.slice ca cs.length ccap, .slice oa os.length ocap] 52)).alloc (.cells #[.int .i64 rid, .slice va xs.length vcap] 36)).heap[w.heap.size]? = some (.cells #[.slice ca cs.length ccap, .slice oa os.length ocap] 52 (0, 0))) := Lib.hid (by
    rw [Below.heap_alloc _ _ _ (by simp)]
    exact heap_alloc_new w _)
  have HZ : Hid (w.heap.size + 1 < ((w.alloc (.cells #[.slice ca cs.length ccap, .slice oa os.length ocap] 52)).alloc (.cells #[.int .i64 rid, .slice va xs.length vcap] 36)).heap.size) := Lib.hid (by simp)
  have HB0 := Lib.hid hb0
  have HO := Lib.hid (ints_below g hb0)
  have HX := Lib.hid (ints_below gr hb0)
  have HM := Lib.hid hm
  have HLN := Lib.hid h3
  have HCD := Lib.hid hc
  clear h g hm gr hb0 h3 hc
  go_enter Tryz.func44, Tryz.ntmps44
  go_wp2_with (at_make; refine wpList_make_full _ rfl (.tmp 10) (.tmp 10) 25 rfl w.heap.size 3 i0 (.int .i64 0) 1 Tryz.underlying25 HI.out HZ0.out HZ1.out _ _ _ _ os.length rfl rfl rfl rfl (by rw [HZ2.out]; have := HM.out; omega) (by have := HM.out; unfold maxLen; omega) (by simp; omega) ?_)
  intro w1 hown0 hg0
  have hown1 := ownsN_made (by simpa using hown0)
  have hbel1 := (Below.refl ((w.alloc (.cells #[.slice ca cs.length ccap, .slice oa os.length ocap] 52)).alloc (.cells #[.int .i64 rid, .slice va xs.length vcap] 36)).heap.size ((w.alloc (.cells #[.slice ca cs.length ccap, .slice oa os.length ocap] 52)).alloc (.cells #[.int .i64 rid, .slice va xs.length vcap] 36))).grown hg0 (Nat.le_refl _) (fun k hk => by cases hk)
  have HWS : Hid (((w.alloc (.cells #[.slice ca cs.length ccap, .slice oa os.length ocap] 52)).alloc (.cells #[.int .i64 rid, .slice va xs.length vcap] 36)).heap.size = w.heap.size + 1 + 1) := Lib.hid (by simp)
  clear hown0 hg0
  obtain ⟨gb, hgb⟩ : ∃ gb, w.heap.size + 1 + 1 = gb := ⟨_, rfl⟩
  rw [hgb] at hown1 HWS ⊢
  generalize ((w.alloc (.cells #[.slice ca cs.length ccap, .slice oa os.length ocap] 52)).alloc (.cells #[.int .i64 rid, .slice va xs.length vcap] 36)) = W at *
  obtain ⟨p0, p1, r0, r1⟩ := cr_boxes HG0.out HG1.out HZ.out hbel1
  rw [HWS.out] at hbel1
  go_wp2
  clear p0 p1 r0 r1
  go_loopw [15] (fun i wr => ∃ k : Nat, k ≤ os.length ∧ i = .int .i64 k ∧ OwnsN wr w.heap.size (.slice (some ⟨gb, 0, none⟩) os.length os.length) ((os.take k).map (fun f : Int => xs.getD f.toNat 0) ++ List.replicate (os.length - k) 0) ∧ Below gb W wr) (fun i _ => os.length - (intOf i).toNat)
  case atStart => exact ⟨0, Nat.zero_le _, rfl, by simpa using hown1, hbel1⟩
  case round =>
    obtain ⟨k, hk, rfl, hown, hbel⟩ := hrel
    clear hown1 hbel1
    have hbel' : Below W.heap.size W wr := by rw [HWS.out]; exact hbel
    obtain ⟨p0, p1, r0, r1⟩ := cr_boxes HG0.out HG1.out HZ.out hbel'
    by_cases hlt : k < os.length
    · obtain ⟨b, off, cap', hv, hbl, hc⟩ := ints_cell (ints_below HO.out hbel') (by omega)
      simp only [Value.slice.injEq] at hv
      obtain ⟨rfl, _, rfl⟩ := hv
      have hcell := hc k hlt
      have i1 : (0 : Int) ≤ (k : Int) := by omega
      have i2 : (k : Int) < (os.length : Int) := by omega
      have i5 : k < 4 := by have := HM.out; omega
      have hcd := HCD.out k hlt
      have HSET := Lib.hid (proj_set (xs := xs) hlt)
      have HLL : Hid (((os.take k).map (fun f : Int => xs.getD f.toNat 0) ++ List.replicate (os.length - k) 0).length = os.length) := Lib.hid (by simp; omega)
      clear hc
      generalize os.getD k 0 = f at *
      obtain ⟨fn, rfl⟩ := Int.eq_ofNat_of_zero_le hcd.1
      have hfn : fn < xs.length := by have := HLN.out; omega
      obtain ⟨bx, offx, capx, hvx, hblx, hcx⟩ := ints_cell (ints_below HX.out hbel') (by omega)
      simp only [Value.slice.injEq] at hvx
      obtain ⟨rfl, _, rfl⟩ := hvx
      have x0 := hcx fn hfn
      have j1 : (0 : Int) ≤ (fn : Int) := by omega
      have j2 : (fn : Int) < (xs.length : Int) := by omega
      rw [Int.toNat_natCast] at HSET
      clear hcx hcd
      generalize xs.getD fn 0 = x at *
      generalize (os.take k).map (fun f : Int => xs.getD f.toNat 0) ++ List.replicate (os.length - k) 0 = us at *
      have hst := Lib.hid (ownsN_store hown k x)
      rw [HSET.out] at hst
      have B3 := hbel.setCell (p := ⟨gb, k, none⟩) (Nat.le_refl _) (.int .i64 x)
      obtain ⟨q0, q1⟩ : (∃ y, wr.cell? ⟨gb, k, none⟩ = some y) ∧ wr.frozen? ⟨gb, k, none⟩ = false :=
        ⟨⟨_, ownsN_cell hown (List.getElem?_eq_getElem (by have := HLL.out; omega))⟩, ownsN_frozen hown k⟩
      obtain ⟨y0, q0⟩ := q0
      clear hown hbel hbel'
      go_wp2
      go_roundw
      case rel => exact ⟨k + 1, by omega, by go_num, hst.out, B3⟩
      case measure => simp [intOf]; omega
    · obtain rfl : k = os.length := by omega
      have HE : Hid ((os.take os.length).map (fun f : Int => xs.getD f.toNat 0) ++ List.replicate (os.length - os.length) 0 = os.map (fun f : Int => xs.getD f.toNat 0)) := Lib.hid (by simp)
      rw [HE.out] at hown
      go_wp2
      go_ret
      exact ⟨_, rfl, hown, HB0.out.trans (hbel.mono (by omega))⟩
set_option maxHeartbeats 4000000 in
set_option maxRecDepth 100000 in
theorem implProjectRow (id tn rid : Int) (cv ov vv : Value) (cs : List CondD) (os xs : List Int) (w : World) (h : CondsR w cv cs) (hn : cs.length ≤ 1048576) (g : Ints w ov os) (hm : os.length ≤ 1048576) (gr : Ints w vv xs) (hx : xs.length ≤ 1048576) :
    Calls Tryz.prog 17 #[qV id tn cv ov, .agg #[.int .i64 rid, vv]] w (FreshInts w (projL id tn cs os (rid, xs))) := by
  obtain ⟨ca, ccap, rfl⟩ := condsR_len h
  obtain ⟨oa, ocap, rfl⟩ := ints_len g
  obtain ⟨va, vcap, rfl⟩ := ints_len gr
  have hb0 : Below w.heap.size w ((w.alloc (.cells #[.int .i64 id, .int .i64 tn, .slice ca cs.length ccap, .slice oa os.length ocap] 27)).alloc (.cells #[.int .i64 rid, .slice va xs.length vcap] 36)) := ((Below.refl _ w).alloc (Nat.le_refl _) _).alloc (by simp) _
  have HG1 : Hid (((w.alloc (.cells #[.int .i64 id, .int .i64 tn, .slice ca cs.length ccap, .slice oa os.length ocap] 27)).alloc (.cells #[.int .i64 rid, .slice va xs.length vcap] 36)).heap[w.heap.size + 1]? = some (.cells #[.int .i64 rid, .slice va xs.length vcap] 36 (0, 0))) := Lib.hid (by
    have := heap_alloc_new (w.alloc (.cells #[.int .i64 id, .int .i64 tn, .slice ca cs.length ccap, .slice oa os.length ocap] 27)) (.cells #[.int .i64 rid, .slice va xs.length vcap] 36)
    simpa only [World.size_alloc] using this)
  have HG0 : Hid (((w.alloc (.cells #[.int .i64 id, .int .i64 tn, .slice ca cs.length ccap, .slice oa os.length ocap] 27)).alloc (.cells #[.int .i64 rid, .slice va xs.length vcap] 36)).heap[w.heap.size]? = some (.cells #[.int .i64 id, .int .i64 tn, .slice ca cs.length ccap, .slice oa os.length ocap] 27 (0, 0))) := Lib.hid (by
    rw [Below.heap_alloc _ _ _ (by simp)]
    exact heap_alloc_new w _)
  have HZ : Hid (w.heap.size + 1 < ((w.alloc (.cells #[.int .i64 id, .int .i64 tn, .slice ca cs.length ccap, .slice oa os.length ocap] 27)).alloc (.cells #[.int .i64 rid, .slice va xs.length vcap] 36)).heap.size) := Lib.hid (by simp)
  have HB0 := Lib.hid hb0
  have HC := Lib.hid (condsR_below h hb0)
  have HO := Lib.hid (ints_below g hb0)
  have HX := Lib.hid (ints_below gr hb0)
  cases hq : queryB id tn cs os with
  | false =>
    have HQ := Lib.hid (fun w h g => checkQuery_no id tn (.slice ca cs.length ccap) (.slice oa os.length ocap) cs os w h hn g hm hq)
    have HT : Hid (projL id tn cs os (rid, xs) = []) := Lib.hid (by unfold projL; rw [hq]; simp)
    clear h g hn hm gr hx hb0 hq
    rw [HT.out]
    go_enter Tryz.func17, Tryz.ntmps17
    go_wp2_with fail
    generalize ((w.alloc (.cells #[.int .i64 id, .int .i64 tn, .slice ca cs.length ccap, .slice oa os.length ocap] 27)).alloc (.cells #[.int .i64 rid, .slice va xs.length vcap] 36)) = W at *
    refine (HQ.out _ HC.out HO.out).mono ?_
    rintro e w1 ⟨rfl, b1⟩
    have c1 := HB0.out.trans (b1.mono HB0.out.size)
    have c2 := c1.alloc c1.size (.cells #[.slice none 0 0, .slice none 0 0] 52)
    go_wp2
    go_ret
    exact ⟨_, rfl, ownsN_nil _ _, c2⟩
  | true =>
    have HQ := Lib.hid (fun w h g => checkQuery_yes id tn (.slice ca cs.length ccap) (.slice oa os.length ocap) cs os w h hn g hm hq)
    have HR := Lib.hid (fun w h => implIsRow rid (.slice va xs.length vcap) xs w h hx)
    cases hr : rowB (rid, xs) with
    | false =>
      have HT : Hid (projL id tn cs os (rid, xs) = []) := Lib.hid (by unfold projL; rw [hr]; simp)
      rw [hr] at HR
      clear h g hn hm gr hx hb0 hq hr
      rw [HT.out]
      go_enter Tryz.func17, Tryz.ntmps17
      go_wp2_with fail
      generalize ((w.alloc (.cells #[.int .i64 id, .int .i64 tn, .slice ca cs.length ccap, .slice oa os.length ocap] 27)).alloc (.cells #[.int .i64 rid, .slice va xs.length vcap] 36)) = W at *
      refine (HQ.out _ HC.out HO.out).mono ?_
      rintro e w1 ⟨rfl, b1⟩
      have a1 : Below w1.heap.size w1 (w1.alloc (.cells #[.slice ca cs.length ccap, .slice oa os.length ocap] 52)) := (Below.refl _ _).alloc (Nat.le_refl _) _
      have b2 := b1.trans (a1.mono b1.size)
      have c2 := HB0.out.trans (b2.mono HB0.out.size)
      obtain ⟨p0, p1, p2, p3, r0, r1⟩ := qr_boxes HG0.out HG1.out HZ.out b2
      clear a1 b1
      go_wp2_with fail
      refine (HR.out _ (ints_below HX.out b2)).mono ?_
      rintro e w3 ⟨rfl, b3⟩
      have c3 := c2.trans (b3.mono c2.size)
      go_wp2
      go_ret
      exact ⟨_, rfl, ownsN_nil _ _, c3⟩
    | true =>
      have HM := Lib.hid (fun w h g gr => project_any rid (.slice ca cs.length ccap) (.slice oa os.length ocap) (.slice va xs.length vcap) cs os xs w h g (query_few hq).2 gr (row_len hr) (fun k hk => query_fields hq hk))
      have HT : Hid (projL id tn cs os (rid, xs) = os.map (fun f : Int => xs.getD f.toNat 0)) := Lib.hid (by unfold projL; rw [hr, hq]; rfl)
      rw [hr] at HR
      clear h g hn hm gr hx hb0 hq hr
      rw [HT.out]
      generalize os.map (fun f : Int => xs.getD f.toNat 0) = res at *
      go_enter Tryz.func17, Tryz.ntmps17
      go_wp2_with fail
      generalize ((w.alloc (.cells #[.int .i64 id, .int .i64 tn, .slice ca cs.length ccap, .slice oa os.length ocap] 27)).alloc (.cells #[.int .i64 rid, .slice va xs.length vcap] 36)) = W at *
      refine (HQ.out _ HC.out HO.out).mono ?_
      rintro e w1 ⟨rfl, b1⟩
      have a1 : Below w1.heap.size w1 (w1.alloc (.cells #[.slice ca cs.length ccap, .slice oa os.length ocap] 52)) := (Below.refl _ _).alloc (Nat.le_refl _) _
      have b2 := b1.trans (a1.mono b1.size)
      have c2 := HB0.out.trans (b2.mono HB0.out.size)
      obtain ⟨p0, p1, p2, p3, r0, r1⟩ := qr_boxes HG0.out HG1.out HZ.out b2
      have HCQ := Lib.hid (heap_alloc_new w1 (.cells #[.slice ca cs.length ccap, .slice oa os.length ocap] 52))
      clear a1 b1
      go_wp2_with fail
      generalize w1.alloc (.cells #[.slice ca cs.length ccap, .slice oa os.length ocap] 52) = W2 at *
      refine (HR.out _ (ints_below HX.out b2)).mono ?_
      rintro e w3 ⟨rfl, b3⟩
      have c3 := c2.trans (b3.mono c2.size)
      have b4 := b2.trans (b3.mono b2.size)
      clear p0 p1 p2 p3 r0 r1
      obtain ⟨p0, p1, p2, p3, r0, r1⟩ := qr_boxes HG0.out HG1.out HZ.out b4
      obtain ⟨s0, s1⟩ := box_cells HCQ.out b3
      go_wp2_with fail
      refine (HM.out _ (condsR_below HC.out b4) (ints_below HO.out b4) (ints_below HX.out b4)).mono ?_
      rintro e w5 ⟨pv, rfl, o5, b5⟩
      have c5 := c3.trans (b5.mono c3.size)
      have o6 := ownsN_up o5 c3.size
      go_wp2
      go_ret
      exact ⟨_, rfl, o6, c5⟩
theorem ownsR_none (w : World) (B : Nat) : OwnsR w B (.slice none 0 0) [] := ⟨[], fun _ => undef, World.ownsRow_nil w B _ _, fun j hj => by simp at hj, fun i j hi => by simp at hi⟩
/-- A slice that the call made, whose rows came in. -/
def RowsAt (w0 w : World) (v : Value) (rs : List RowD) : Prop := ∃ (cs : List Value) (vs : Nat → Value), RowsC w w0.heap.size v rs.length cs ∧ ∀ j, j < rs.length → cs[j * 2]? = some (.int .i64 (rs.getD j (0, [])).1) ∧ cs[j * 2 + 1]? = some (vs j) ∧ Ints w0 (vs j) (rs.getD j (0, [])).2
theorem rowsAt_nil (w0 w : World) : RowsAt w0 w (.slice none 0 0) [] := ⟨[], fun _ => undef, World.ownsRow_nil w _ _ _, fun j hj => by simp at hj⟩
theorem rowsAt_below {w0 w w' : World} {v : Value} {rs : List RowD} (h : RowsAt w0 w v rs) (hb : Below w.heap.size w w') : RowsAt w0 w' v rs := by
  obtain ⟨cs, vs, h1, h2⟩ := h
  exact ⟨cs, vs, rowsC_kept h1 hb, h2⟩
theorem rowsAt_rows {w0 w : World} {v : Value} {rs : List RowD} (h : RowsAt w0 w v rs) (hb : Below w0.heap.size w0 w) : RowsR w v rs := by
  obtain ⟨cs, vs, h1, h2⟩ := h
  have h1' := h1
  rcases h1.2 with ⟨rfl, h0⟩ | ⟨g, cap, cur, rfl, hb', hg, hn, hm, hcs, htake⟩
  · exact Or.inl ⟨List.eq_nil_of_length_eq_zero h0, none, 0, rfl⟩
  · refine Or.inr ⟨g, 0, cap, vs, rfl, hn, (Array.getElem?_eq_some_iff.1 hg).1, fun j hj => ?_⟩
    obtain ⟨g1, g2, g3⟩ := h2 j hj
    refine ⟨?_, ?_, ints_below g3 hb⟩
    · rw [Nat.zero_add, World.ownsRow.cellAt h1' (j * 2) (by omega)]; exact g1
    · rw [Nat.zero_add, World.ownsRow.cellAt h1' (j * 2 + 1) (by omega)]; exact g2
theorem rowsAt_push {w0 w : World} {v : Value} {rs : List RowD} {cs : List Value} {vs : Nat → Value} {id : Int} {vv : Value} {xs : List Int} (hl : cs.length = rs.length * 2)
    (h2 : ∀ j, j < rs.length → cs[j * 2]? = some (.int .i64 (rs.getD j (0, [])).1) ∧ cs[j * 2 + 1]? = some (vs j) ∧ Ints w0 (vs j) (rs.getD j (0, [])).2)
    (h : RowsC w w0.heap.size v (rs.length + 1) (cs ++ [.int .i64 id, vv])) (g : Ints w0 vv xs) : RowsAt w0 w v (rs ++ [(id, xs)]) := by
  refine ⟨cs ++ [.int .i64 id, vv], fun j => if j < rs.length then vs j else vv, by simpa using h, fun j hj => ?_⟩
  by_cases e : j < rs.length
  · obtain ⟨g1, g2, g3⟩ := h2 j e
    rw [List.getElem?_append_left (by omega), List.getElem?_append_left (by omega)]
    simp only [if_pos e]
    rw [show (rs ++ [(id, xs)]).getD j (0, []) = rs.getD j (0, []) by simp [List.getD, List.getElem?_append_left e]]
    exact ⟨g1, g2, g3⟩
  · have ej : j = rs.length := by simp at hj; omega
    subst ej
    rw [List.getElem?_append_right (by omega), List.getElem?_append_right (by omega), hl, Nat.sub_self, show rs.length * 2 + 1 - rs.length * 2 = 1 by omega]
    simp only [if_neg e]
    rw [show (rs ++ [(id, xs)]).getD rs.length (0, []) = (id, xs) by simp [List.getD]]
    exact ⟨rfl, rfl, g⟩
set_option maxHeartbeats 8000000 in
set_option maxRecDepth 100000 in
theorem implAnswerAlone (id tn : Int) (cv ov v : Value) (cs : List CondD) (os : List Int) (rs : List RowD) (w : World) (h : CondsR w cv cs) (hn : cs.length ≤ 1048576) (g : Ints w ov os) (hm : os.length ≤ 1048576) (gr : RowsR w v rs) (hs : szL rs ≤ 1048576) :
    Calls Tryz.prog 6 #[qV id tn cv ov, v] w (FreshRows w (answerL (matchB id tn cs os) rs)) := by
  obtain ⟨ca, ccap, rfl⟩ := condsR_len h
  obtain ⟨oa, ocap, rfl⟩ := ints_len g
  obtain ⟨ra, rcap, rfl⟩ := rowsR_len gr
  have HLEN := Lib.hid (szL_len hs)
  have hb0 : Below w.heap.size w (w.alloc (.cells #[.int .i64 id, .int .i64 tn, .slice ca cs.length ccap, .slice oa os.length ocap] 27)) := (Below.refl _ w).alloc (Nat.le_refl _) _
  have HB0 := Lib.hid hb0
  have HC0 := Lib.hid h
  have HO0 := Lib.hid g
  have HR0 := Lib.hid gr
  have HS := Lib.hid hs
  cases hq : queryB id tn cs os with
  | false =>
    have HQ := Lib.hid (fun w h g => checkQuery_no id tn (.slice ca cs.length ccap) (.slice oa os.length ocap) cs os w h hn g hm hq)
    have hf : (rs.filter (matchB id tn cs os)) = [] := by
      rw [List.filter_eq_nil_iff]
      intro r _
      unfold matchB; rw [hq]; simp
    have HT : Hid (answerL (matchB id tn cs os) rs = []) := Lib.hid (by unfold answerL; rw [hf]; rfl)
    clear h g hn hm gr hs hb0 hq hf
    rw [HT.out]
    go_enter Tryz.func6, Tryz.ntmps6
    go_wp2_with fail
    generalize w.alloc (.cells #[.int .i64 id, .int .i64 tn, .slice ca cs.length ccap, .slice oa os.length ocap] 27) = W at *
    refine (HQ.out _ (condsR_below HC0.out HB0.out) (ints_below HO0.out HB0.out)).mono ?_
    rintro e w1 ⟨rfl, b1⟩
    have c1 := HB0.out.trans (b1.mono HB0.out.size)
    have c2 := c1.alloc c1.size (.cells #[.slice none 0 0, .slice none 0 0] 52)
    go_wp2
    go_ret
    exact ⟨_, rfl, ownsR_none _ _, c2⟩
  | true =>
    have HQ := Lib.hid (fun w h g => checkQuery_yes id tn (.slice ca cs.length ccap) (.slice oa os.length ocap) cs os w h hn g hm hq)
    have HMT : Hid (∀ (rid : Int) (vv : Value) (xs : List Int) (w : World), CondsR w (.slice ca cs.length ccap) cs → Ints w (.slice oa os.length ocap) os → Ints w vv xs → xs.length ≤ 1048576 → Calls Tryz.prog 26 #[.agg #[.slice ca cs.length ccap, .slice oa os.length ocap], .agg #[.int .i64 rid, vv]] w fun e w' => e = .returned (.bool (matchB id tn cs os (rid, xs))) ∧ Below w.heap.size w w') := Lib.hid (fun rid vv xs w h g gr hx => by
      have := matches_any rid (.slice ca cs.length ccap) (.slice oa os.length ocap) vv cs os xs w h hn g gr hx (fun k hk => query_conds hq hk)
      have e : matchB id tn cs os (rid, xs) = (rowB (rid, xs) && cs.all (okC xs)) := by unfold matchB; rw [hq]; simp
      rw [e]; exact this)
    clear h g hn hm gr hs hb0 hq
    obtain ⟨m, hmm⟩ : ∃ m, matchB id tn cs os = m := ⟨_, rfl⟩
    rw [hmm] at HMT ⊢
    clear hmm
    have HSORT : Hid (∀ v w, RowsR w v (rs.filter m) → Calls Tryz.prog 21 #[v] w (FreshRows w (answerL m rs))) := Lib.hid (fun v w h => implSortRows v (rs.filter m) w h (Nat.le_trans (szL_filter m rs) HS.out))
    go_enter Tryz.func6, Tryz.ntmps6
    go_wp2_with fail
    generalize w.alloc (.cells #[.int .i64 id, .int .i64 tn, .slice ca cs.length ccap, .slice oa os.length ocap] 27) = W at *
    refine (HQ.out _ (condsR_below HC0.out HB0.out) (ints_below HO0.out HB0.out)).mono ?_
    rintro e w1 ⟨rfl, b1⟩
    have c1 := HB0.out.trans (b1.mono HB0.out.size)
    have c2 := c1.alloc c1.size (.cells #[.slice ca cs.length ccap, .slice oa os.length ocap] 52)
    have HCQ := Lib.hid (heap_alloc_new w1 (.cells #[.slice ca cs.length ccap, .slice oa os.length ocap] 52))
    have HWR := Lib.hid c1.size
    clear c1 b1
    go_wp2
    obtain ⟨R, hR⟩ : ∃ R, w1.heap.size = R := ⟨_, rfl⟩
    rw [hR] at HCQ HWR ⊢
    generalize w1.alloc (.cells #[.slice ca cs.length ccap, .slice oa os.length ocap] 52) = W2 at *
    clear hR
    have HRL := Lib.hid (Array.getElem?_eq_some_iff.1 HCQ.out).1
    go_loopw [7, 19] (fun v i wr => ∃ k : Nat, k ≤ rs.length ∧ i = .int .i64 k ∧ RowsAt W2 wr v ((rs.take k).filter m) ∧ Below W2.heap.size W2 wr) (fun _ i _ => rs.length - (intOf i).toNat)
    case atStart => exact ⟨0, Nat.zero_le _, rfl, by rw [List.take_zero]; exact rowsAt_nil _ _, Below.refl _ _⟩
    case round =>
      obtain ⟨k, hk, rfl, hown, hbel⟩ := hrel
      by_cases hlt : k < rs.length
      · obtain ⟨b, off, cap', vv, hv, hbl, hc1, hc2, hI⟩ := rowsR_at (rowsR_below HR0.out c2) hlt
        simp only [Value.slice.injEq] at hv
        obtain ⟨rfl, _, rfl⟩ := hv
        have HI := Lib.hid hI
        obtain ⟨va, vcap, rfl⟩ := ints_len hI
        have d1 := (hbel.cell (p := ⟨b, off + k * 2, none⟩) hbl).trans hc1
        have d2 := (hbel.cell (p := ⟨b, off + k * 2 + 1, none⟩) hbl).trans hc2
        have hxl := szL_row HS.out hlt
        have i1 : (0 : Int) ≤ (k : Int) := by omega
        have i2 : (k : Int) < (rs.length : Int) := by omega
        have i5 : k ≤ 1048576 := by have := HLEN.out; omega
        have HY := Lib.hid (filter_yes (m := m) hlt)
        have HN := Lib.hid (filter_no (m := m) hlt)
        have HFL : Hid (((rs.take k).filter m).length ≤ 1048576) := Lib.hid (by have := List.length_filter_le m (rs.take k); rw [List.length_take] at this; have := HLEN.out; omega)
        have HM := Lib.hid (fun w h g gr => HMT.out (rs.getD k (0, [])).1 (.slice va (rs.getD k (0, [])).2.length vcap) (rs.getD k (0, [])).2 w h g gr hxl)
        have er : (((rs.getD k (0, [])).1, (rs.getD k (0, [])).2) : RowD) = rs.getD k (0, []) := rfl
        rw [er] at HM
        clear er hI hc1 hc2 hbl
        generalize rs.getD k (0, []) = r at *
        obtain ⟨rid, xs⟩ := r
        try simp only at d1 d2 HI HM hxl
        have hW : Below wr.heap.size wr (wr.alloc (.cells #[.int .i64 rid, .slice va xs.length vcap] 36)) := (Below.refl _ wr).alloc (Nat.le_refl _) _
        have HG3 := Lib.hid (heap_alloc_new wr (.cells #[.int .i64 rid, .slice va xs.length vcap] 36))
        have bW := hbel.trans (hW.mono hbel.size)
        obtain ⟨s0, s1⟩ := box_cells HCQ.out bW
        have own3 := rowsAt_below hown hW
        clear hown hbel hW
        go_wp2_with fail
        obtain ⟨R3, hR3⟩ : ∃ R3, wr.heap.size = R3 := ⟨_, rfl⟩
        rw [hR3] at HG3 ⊢
        generalize wr.alloc (.cells #[.int .i64 rid, .slice va xs.length vcap] 36) = W3 at *
        clear hR3 d1 d2
        refine (HM.out _ (condsR_below HC0.out (c2.trans (bW.mono c2.size))) (ints_below HO0.out (c2.trans (bW.mono c2.size))) (ints_below HI.out bW)).mono ?_
        rintro e w4 ⟨rfl, b4⟩
        have c4 := bW.trans (b4.mono bW.size)
        obtain ⟨t0, t1⟩ := box_cells HG3.out b4
        have own4 := rowsAt_below own3 b4
        clear own3 bW s0 s1 b4
        cases hmr : m (rid, xs) with
        | false =>
          have HNN := HN.out hmr
          rw [HNN] at own4
          clear hmr HY HN HNN
          go_wp2
          go_roundw
          case rel => exact ⟨k + 1, by omega, by go_num, own4, c4⟩
          case measure => simp [intOf]; omega
        | true =>
          have HYY := Lib.hid (HY.out hmr)
          clear hmr HY HN
          obtain ⟨rcs, rvs, o1, o2⟩ := own4
          have O2 := Lib.hid o2
          have hl2 : rcs.length = ((rs.take k).filter m).length * 2 := o1.1
          have HL2 := Lib.hid hl2
          clear o2 hl2
          generalize (rs.take k).filter m = ac at *
          have a5 : Below w4.heap.size w4 (w4.alloc (.cells #[.int .i64 rid, .slice va xs.length vcap] 36)) := (Below.refl _ _).alloc (Nat.le_refl _) _
          have o5 := rowsC_kept o1 a5
          have c5 := c4.trans (a5.mono c4.size)
          have hq5 : ∀ j u, ([Value.int .i64 rid, .slice va xs.length vcap] : List Value)[j]? = some u → (w4.alloc (.cells #[.int .i64 rid, .slice va xs.length vcap] 36)).cell? ((⟨w4.heap.size, 0, none⟩ : Addr).add j) = some u := fun j u hj => by
            have e : (⟨w4.heap.size, 0, none⟩ : Addr).add j = ⟨w4.heap.size, j, none⟩ := by unfold Addr.add; split <;> simp_all
            rw [e, cell_lit]
            simpa using hj
          have HQ5 := Lib.hid hq5
          clear hq5 o1 a5 c4
          go_wp2_with (at_builtin; refine append_rows rfl (.tmp 26) (.tmp 28) rfl W2.heap.size _ ac.length rcs rfl o5 c5.size ⟨w4.heap.size, 0, none⟩ 1 _ [.int .i64 rid, .slice va xs.length vcap] rfl rfl HQ5.out (by intro u hu; simp at hu; rcases hu with rfl | rfl <;> rfl) (by have := HFL.out; omega) ?_; intro u6 w6 o6 g6 _ _)
          have c6 := c5.grown g6 c5.size (fun b hb => (o5.lt b hb).1)
          have own6 := rowsAt_push HL2.out O2.out o6 HI.out
          rw [HYY.out] at own6
          go_roundw
          case rel => exact ⟨k + 1, by omega, by go_num, own6, c6⟩
          case measure => simp [intOf]; omega
      · obtain rfl : k = rs.length := by omega
        rw [List.take_length] at hown
        have c9 := c2.trans (hbel.mono c2.size)
        have HF := Lib.hid (rowsAt_rows hown hbel)
        clear hown hbel
        go_wp2_with fail
        refine (HSORT.out _ _ HF.out).mono ?_
        rintro e w10 ⟨sv, rfl, o10, b10⟩
        have c10 := c9.trans (b10.mono c9.size)
        have o11 := ownsR_up o10 c9.size
        go_wp2
        go_ret
        exact ⟨_, rfl, o11, c10⟩
end Go.Proofs.YteelgogfpidcdaaGreatDoor
namespace Go.Proofs.YteelgogfpidcdaaGreatDoor
open Go.RowKit
set_option linter.unusedVariables false
set_option linter.unusedSimpArgs false
theorem fmtRg (n : Int) (w : World) (h0 : 0 ≤ n) (h1 : n ≤ 999) (hT : Tab w) : Calls Tryz.prog 30 #[.int .i64 n] w fun e w' => e = .returned (.string (strB (Lib.itoa n))) ∧ Below w.heap.size w w' := implFmt n w (by omega) (by omega) hT
set_option maxHeartbeats 4000000 in
set_option maxRecDepth 100000 in
theorem formatRange_any (lo hi : Int) (w : World) (l0 : 0 ≤ lo) (l1 : lo ≤ 999) (h0 : 0 ≤ hi) (h1 : hi ≤ 999) (hT : Tab w) :
    Calls Tryz.prog 60 #[.int .i64 lo, .int .i64 hi] w fun e w' => e = .returned (.string (strB (Lib.itoa lo ++ [46, 46] ++ Lib.itoa hi))) ∧ Below w.heap.size w w' := by
  have HA := Lib.hid (fun w h => fmtRg lo w l0 l1 h)
  have HB := Lib.hid (fun w h => fmtRg hi w h0 h1 h)
  have ll := Lib.itoa_length_le lo (by omega) (by omega)
  have hl := Lib.itoa_length_le hi (by omega) (by omega)
  have HT := Lib.hid hT
  generalize Lib.itoa lo = t1 at *
  generalize Lib.itoa hi = t2 at *
  have dA : ∀ w, (Op.stringOp .add (strB t1) ⟨#[46, 46]⟩).run Tryz.prog w = .ok (.string (strB (t1 ++ [46, 46]))) w := strB_add t1 [46, 46] (by simp; omega)
  have dB : ∀ w, (Op.stringOp .add (strB (t1 ++ [46, 46])) (strB t2)).run Tryz.prog w = .ok (.string (strB (t1 ++ [46, 46] ++ t2))) w := strB_add (t1 ++ [46, 46]) t2 (by simp; omega)
  generalize t1 ++ [46, 46] ++ t2 = t4 at *
  generalize t1 ++ [46, 46] = t3 at *
  clear ll hl hT l0 l1 h0 h1
  go_enter Tryz.func60, Tryz.ntmps60
  go_wp2_with fail
  refine (HA.out _ HT.out).mono ?_
  rintro e w1 ⟨rfl, b1⟩
  go_wp2_with fail
  refine (HB.out _ (HT.out.on b1)).mono ?_
  rintro e w2 ⟨rfl, b2⟩
  have b3 := b1.trans (b2.mono b1.size)
  go_wp2
  go_ret
  exact ⟨rfl, b3⟩
end Go.Proofs.YteelgogfpidcdaaGreatDoor
