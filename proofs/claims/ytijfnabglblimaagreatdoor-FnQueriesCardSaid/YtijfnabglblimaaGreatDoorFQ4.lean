/-
  Texts of the proof, merged: QueryParP, RowEqQ, TabZ, AndShaped, Cur, Draw, Draws, SetDraw, RowDraw, RowsDraw, QueryDraw.
-/
import Derived.Test.YtijfnabglblimaaGreatDoorFQ3
import Derived.Test.YtijfnabglblimaaGreatDoorRows
import Derived.WalkKit
import Derived.Below
import Derived.Lib.Hide
import Derived.Lib.AppendIntMem
import Derived.Lib.TrailingZeros
import Derived.Shelf.Spec.TrailingZeros
import Derived.Handed
import Derived.HandedShaped
import Derived.Shelf.Vars
import Derived.BigQuiet
import Derived.Deep.QuietTactic
import Derived.Laws.BitsAllLaws
import Derived.Outline
import Derived.WalkSpells
import Derived.Lib.MinMax
namespace Go.Proofs.YtijfnabglblimaaGreatDoor
open Go.RowKit
set_option linter.unusedVariables false
set_option linter.unusedSimpArgs false
/-- The library's bound on short texts is some number. -/
def TabM (w : World) : Prop := ∃ m, w.cell? ⟨0, 0, none⟩ = some (.int .i64 m)
theorem TabM.on {w w' : World} (h : TabM w) (hb : Below w.heap.size w w') : TabM w' := by
  obtain ⟨m, hm⟩ := h
  exact ⟨m, (hb.cell (p := ⟨_, 0, none⟩) (World.block_lt_of_cell? w _ hm)).trans hm⟩
theorem parPI (q : List UInt8) (w : World) (hq : q.length ≤ 1048576) (hT : Tab w) : Calls Tryz.prog 90 #[.string (strB q)] w fun e w' => e = .returned (.tuple #[.int .i64 (parI q).1, .bool (parI q).2]) ∧ Below w.heap.size w w' := implPar (strB q) w (by rw [strB_size]; exact hq) hT
theorem prefix_one (s : List UInt8) (c : UInt8) : Lib.hasPrefix s [c] = decide (s.getD 0 0 = c ∧ 1 ≤ s.length) := by
  cases s with
  | nil => simp [Lib.hasPrefix]
  | cons d r =>
    by_cases h : d = c
    · simp [Lib.hasPrefix, h]
    · have h2 : (c == d) = false := beq_eq_false_iff_ne.2 (fun e => h e.symm)
      show (c == d && _) = _
      rw [h2]
      simp [h]
set_option maxHeartbeats 4000000 in
set_option maxRecDepth 100000 in
theorem parseTagged_any (s : List UInt8) (c : UInt8) (w : World) (hl : s.length ≤ 1048576) (hT : Tab w) :
    Calls Tryz.prog 64 #[.string (strB s), .string ⟨#[c]⟩] w fun e w' => e = .returned (.tuple #[.int .i64 (tagP c s).1, .bool (tagP c s).2]) ∧ Below w.heap.size w w' := by
  have HC := Lib.hid (Tryz.strings_CutPrefix (strB s) ⟨#[c]⟩ w)
  have es : (strB s).data.toList = s := rfl
  have ec : (⟨#[c]⟩ : ByteArray).data.toList = [c] := rfl
  rw [es, ec] at HC
  by_cases h : s.getD 0 0 = c ∧ 1 ≤ s.length
  · have hp : Lib.hasPrefix s [c] = true := by rw [prefix_one]; exact decide_eq_true h
    have ht : Lib.trimPrefix s [c] = s.drop 1 := by unfold Lib.trimPrefix; rw [if_pos hp]; rfl
    have HE : Hid (tagP c s = parI (s.drop 1)) := Lib.hid (if_pos h)
    rw [hp, ht] at HC
    have HP := Lib.hid (parPI (s.drop 1) w (by rw [List.length_drop]; omega) hT)
    clear h hp ht es ec hl hT
    rw [HE.out]
    obtain ⟨n, hn⟩ : ∃ n, (parI (s.drop 1)).1 = n := ⟨_, rfl⟩
    obtain ⟨b, hb⟩ : ∃ b, (parI (s.drop 1)).2 = b := ⟨_, rfl⟩
    rw [hn, hb] at HP ⊢
    clear hn hb HE
    have e2 : (⟨(s.drop 1).toArray⟩ : ByteArray) = strB (s.drop 1) := rfl
    rw [e2] at HC
    clear e2
    generalize strB (s.drop 1) = t at *
    generalize strB s = t0 at *
    go_enter Tryz.func64, Tryz.ntmps64
    go_wp2_with fail
    refine HC.out.mono ?_
    rintro e w1 ⟨rfl, rfl⟩
    go_wp2_with fail
    refine HP.out.mono ?_
    rintro e w2 ⟨rfl, b2⟩
    go_wp2
    go_ret2
    exact ⟨rfl, b2⟩
  · have hp : Lib.hasPrefix s [c] = false := by rw [prefix_one]; exact decide_eq_false h
    have HE : Hid (tagP c s = (0, false)) := Lib.hid (if_neg h)
    rw [hp] at HC
    clear h hp es ec hl hT
    generalize (⟨(Lib.trimPrefix s [c]).toArray⟩ : ByteArray) = t at *
    rw [HE.out]
    generalize strB s = t0 at *
    go_enter Tryz.func64, Tryz.ntmps64
    go_wp2_with fail
    refine HC.out.mono ?_
    rintro e w1 ⟨rfl, rfl⟩
    go_wp2
    go_ret2
    exact ⟨rfl, Below.refl _ _⟩
theorem cut_lens (s sep : List UInt8) : (Lib.cut s sep).1.length ≤ s.length ∧ (Lib.cut s sep).2.1.length ≤ s.length := by
  unfold Lib.cut
  split
  · exact ⟨by rw [List.length_take]; omega, by simp⟩
  · exact ⟨Nat.le_refl _, by simp⟩
set_option maxHeartbeats 4000000 in
set_option maxRecDepth 100000 in
theorem parseRange_any (s : List UInt8) (w : World) (hl : s.length ≤ 1048576) (hT : Tab w) (hM : TabM w) :
    Calls Tryz.prog 91 #[.string (strB s)] w fun e w' => e = .returned (.tuple #[.int .i64 (rngP s).1, .int .i64 (rngP s).2.1, .bool (rngP s).2.2]) ∧ Below w.heap.size w w' := by
  obtain ⟨m, hm⟩ := hM
  have HC := Lib.hid (Tryz.strings_Cut (strB s) ⟨#[46, 46]⟩ m w (by rw [strB_size]; omega) hm)
  have es : (strB s).data.toList = s := rfl
  have ec : (⟨#[46, 46]⟩ : ByteArray).data.toList = [46, 46] := rfl
  rw [es, ec] at HC
  have hls := cut_lens s [46, 46]
  have hR : rngP s = if (Lib.cut s [46, 46]).2.2 && ((parI (Lib.cut s [46, 46]).1).2 && (parI (Lib.cut s [46, 46]).2.1).2) then ((parI (Lib.cut s [46, 46]).1).1, (parI (Lib.cut s [46, 46]).2.1).1, true) else (0, 0, false) := rfl
  have HR := Lib.hid hR
  have HT := Lib.hid hT
  have HA := Lib.hid (fun w h => parPI (Lib.cut s [46, 46]).1 w (by omega) h)
  have HB := Lib.hid (fun w h => parPI (Lib.cut s [46, 46]).2.1 w (by omega) h)
  have e1 : (⟨(Lib.cut s [46, 46]).1.toArray⟩ : ByteArray) = strB (Lib.cut s [46, 46]).1 := rfl
  have e2 : (⟨(Lib.cut s [46, 46]).2.1.toArray⟩ : ByteArray) = strB (Lib.cut s [46, 46]).2.1 := rfl
  rw [e1, e2] at HC
  clear hR hls es ec hl hT hm e1 e2
  obtain ⟨f, hf⟩ : ∃ f, (Lib.cut s [46, 46]).2.2 = f := ⟨_, rfl⟩
  obtain ⟨na, hna⟩ : ∃ n, (parI (Lib.cut s [46, 46]).1).1 = n := ⟨_, rfl⟩
  obtain ⟨oa, hoa⟩ : ∃ n, (parI (Lib.cut s [46, 46]).1).2 = n := ⟨_, rfl⟩
  obtain ⟨nb, hnb⟩ : ∃ n, (parI (Lib.cut s [46, 46]).2.1).1 = n := ⟨_, rfl⟩
  obtain ⟨ob, hob⟩ : ∃ n, (parI (Lib.cut s [46, 46]).2.1).2 = n := ⟨_, rfl⟩
  rw [hf] at HC HR
  rw [hna, hoa] at HA HR
  rw [hnb, hob] at HB HR
  clear hf hna hoa hnb hob
  generalize strB (Lib.cut s [46, 46]).1 = ta at *
  generalize strB (Lib.cut s [46, 46]).2.1 = tb at *
  rw [HR.out]
  clear HR
  generalize strB s = t0 at *
  cases f with
  | false =>
    go_enter Tryz.func91, Tryz.ntmps91
    go_wp2_with fail
    refine HC.out.mono ?_
    rintro e w1 ⟨rfl, n1, hw1⟩
    have b1 : Below w.heap.size w w1 := by rw [hw1]; exact ⟨rfl, rfl, rfl, Nat.le_refl _, fun _ _ => rfl⟩
    clear hw1
    go_wp2_with fail
    refine (HA.out _ (HT.out.on b1)).mono ?_
    rintro e w2 ⟨rfl, b2⟩
    have c2 := b1.trans (b2.mono b1.size)
    go_wp2_with fail
    refine (HB.out _ (HT.out.on c2)).mono ?_
    rintro e w3 ⟨rfl, b3⟩
    have c3 := c2.trans (b3.mono c2.size)
    go_wp2
    go_ret3
    exact ⟨rfl, c3⟩
  | true =>
    cases oa with
    | false =>
      go_enter Tryz.func91, Tryz.ntmps91
      go_wp2_with fail
      refine HC.out.mono ?_
      rintro e w1 ⟨rfl, n1, hw1⟩
      have b1 : Below w.heap.size w w1 := by rw [hw1]; exact ⟨rfl, rfl, rfl, Nat.le_refl _, fun _ _ => rfl⟩
      clear hw1
      go_wp2_with fail
      refine (HA.out _ (HT.out.on b1)).mono ?_
      rintro e w2 ⟨rfl, b2⟩
      have c2 := b1.trans (b2.mono b1.size)
      go_wp2_with fail
      refine (HB.out _ (HT.out.on c2)).mono ?_
      rintro e w3 ⟨rfl, b3⟩
      have c3 := c2.trans (b3.mono c2.size)
      go_wp2
      go_ret3
      exact ⟨rfl, c3⟩
    | true =>
      cases ob with
      | false =>
        go_enter Tryz.func91, Tryz.ntmps91
        go_wp2_with fail
        refine HC.out.mono ?_
        rintro e w1 ⟨rfl, n1, hw1⟩
        have b1 : Below w.heap.size w w1 := by rw [hw1]; exact ⟨rfl, rfl, rfl, Nat.le_refl _, fun _ _ => rfl⟩
        clear hw1
        go_wp2_with fail
        refine (HA.out _ (HT.out.on b1)).mono ?_
        rintro e w2 ⟨rfl, b2⟩
        have c2 := b1.trans (b2.mono b1.size)
        go_wp2_with fail
        refine (HB.out _ (HT.out.on c2)).mono ?_
        rintro e w3 ⟨rfl, b3⟩
        have c3 := c2.trans (b3.mono c2.size)
        go_wp2
        go_ret3
        exact ⟨rfl, c3⟩
      | true =>
        go_enter Tryz.func91, Tryz.ntmps91
        go_wp2_with fail
        refine HC.out.mono ?_
        rintro e w1 ⟨rfl, n1, hw1⟩
        have b1 : Below w.heap.size w w1 := by rw [hw1]; exact ⟨rfl, rfl, rfl, Nat.le_refl _, fun _ _ => rfl⟩
        clear hw1
        go_wp2_with fail
        refine (HA.out _ (HT.out.on b1)).mono ?_
        rintro e w2 ⟨rfl, b2⟩
        have c2 := b1.trans (b2.mono b1.size)
        go_wp2_with fail
        refine (HB.out _ (HT.out.on c2)).mono ?_
        rintro e w3 ⟨rfl, b3⟩
        have c3 := c2.trans (b3.mono c2.size)
        go_wp2
        go_ret3
        exact ⟨rfl, c3⟩
/-- What parseConds answers. -/
def CondsAns (w : World) (r : Option (List CondD)) (e : Ending) (w' : World) : Prop := ∃ v, e = .returned (.tuple #[v, .bool r.isSome]) ∧ OwnsC w' w.heap.size v (r.getD []) ∧ Below w.heap.size w w'
theorem condsAns_yes {w w' : World} {r : Option (List CondD)} {ys : List CondD} {v : Value} (h : r = some ys) (o : OwnsC w' w.heap.size v ys) (b : Below w.heap.size w w') : CondsAns w r (.returned (.tuple #[v, .bool true])) w' := ⟨v, by rw [h]; rfl, by rw [h]; exact o, b⟩
theorem condsAns_no {w w' : World} {r : Option (List CondD)} (h : r = none) (b : Below w.heap.size w w') : CondsAns w r (.returned (.tuple #[.slice none 0 0, .bool false])) w' := ⟨.slice none 0 0, by rw [h]; rfl, by rw [h]; exact ownsC_nil _ _, b⟩
set_option maxHeartbeats 8000000 in
set_option maxRecDepth 100000 in
theorem parseConds_any (b off cap : Nat) (P : List (List UInt8)) (w : World) (hc : ∀ j, j < P.length → w.cell? ⟨b, off + j, none⟩ = some (.string (strB (P.getD j [])))) (hbl : b < w.heap.size) (hn : P.length ≤ 1048577) (hq : ∀ j, (P.getD j []).length ≤ 1048576) (hT : Tab w) (hM : TabM w) :
    Calls Tryz.prog 65 #[.slice (some ⟨b, off, none⟩) P.length cap] w (CondsAns w (condsGo [] P)) := by
  have HC := Lib.hid hc
  have HN := Lib.hid hn
  have HQ := Lib.hid hq
  have HT := Lib.hid hT
  have HM := Lib.hid hM
  clear hc hq hT hM
  by_cases h2 : P.length % 2 = 0
  · obtain ⟨N, hN⟩ : ∃ N, P.length = 2 * N := ⟨P.length / 2, by omega⟩
    have r0 : ((P.length : Int) % 2 != 0) = false := by rw [bne_eq_false_iff_eq]; omega
    have HNN := Lib.hid hN
    clear hN h2
    go_enter Tryz.func65, Tryz.ntmps65
    go_wp2
    clear r0
    go_loopw [4, 5] (fun l i wr => ∃ (k m : Nat) (acc : List CondD), k ≤ N ∧ Hid (m = 2 * k) ∧ i = .int .i64 m ∧ acc.length = k ∧ Hid (condsGo acc (P.drop m) = condsGo [] P) ∧ OwnsC wr w.heap.size l acc ∧ Below w.heap.size w wr) (fun _ i _ => P.length - (intOf i).toNat)
    case atStart => exact ⟨0, 0, [], Nat.zero_le _, Lib.hid rfl, rfl, rfl, Lib.hid rfl, ownsC_nil _ _, Below.refl _ _⟩
    case round =>
      obtain ⟨k, m, acc, hk, hmk, rfl, hal, hgo, hown, hbel⟩ := hrel
      have HAL := Lib.hid hal
      clear hal
      by_cases hlt : k < N
      · have hml : m + 1 < P.length := by have := hmk.out; have := HNN.out; omega
        have c0 := (hbel.cell (p := ⟨b, off + m, none⟩) hbl).trans (HC.out m (by omega))
        have c1 := (hbel.cell (p := ⟨b, off + (m + 1), none⟩) hbl).trans (HC.out (m + 1) (by omega))
        have i1 : (0 : Int) ≤ (m : Int) := by omega
        have i2 : (m : Int) < (P.length : Int) := by omega
        have i3 : (0 : Int) ≤ (m : Int) + 1 := by omega
        have i4 : (m : Int) + 1 < (P.length : Int) := by omega
        have i5 : ((m : Int) + 1).toNat = m + 1 := by omega
        have i6 : m ≤ 1048576 := by have := HN.out; omega
        have wa : IntKind.i64.wrap ((m : Int) + 1) = (m : Int) + 1 := IntWalk.i64_in _ (by omega)
        have HHIT := Lib.hid (condsGo_hit (acc := acc) hml)
        have HMISS := Lib.hid (condsGo_miss (acc := acc) hml)
        rw [hgo.out] at HHIT HMISS
        have HA := Lib.hid (fun w h => parseTagged_any (P.getD m []) 102 w (HQ.out m) h)
        have HB := Lib.hid (fun w h h' => parseRange_any (P.getD (m + 1) []) w (HQ.out (m + 1)) h h')
        obtain ⟨ca, ccap, rfl⟩ := ownsC_len hown
        have HTK : Hid (∀ k', m + 2 = 2 * (k' + 1) ↔ k' = k) := Lib.hid (by intro k'; have := hmk.out; omega)
        have HM2 : Hid (m + 2 = 2 * (k + 1)) := Lib.hid (by have := hmk.out; omega)
        have HPD : Hid (P.length - (m + 2) < P.length - m) := Lib.hid (by omega)
        clear hgo hml HTK
        generalize P.getD m [] = pa at *
        generalize P.getD (m + 1) [] = pb at *
        obtain ⟨fa, hfa⟩ : ∃ x, (tagP 102 pa).1 = x := ⟨_, rfl⟩
        obtain ⟨ta, hta⟩ : ∃ x, (tagP 102 pa).2 = x := ⟨_, rfl⟩
        obtain ⟨lo, hlo⟩ : ∃ x, (rngP pb).1 = x := ⟨_, rfl⟩
        obtain ⟨hi, hhi⟩ : ∃ x, (rngP pb).2.1 = x := ⟨_, rfl⟩
        obtain ⟨tb, htb⟩ : ∃ x, (rngP pb).2.2 = x := ⟨_, rfl⟩
        rw [hfa, hta] at HA HHIT
        rw [hta, htb] at HMISS
        rw [hlo, hhi, htb] at HB
        rw [hlo, hhi, htb] at HHIT
        clear hfa hta hlo hhi htb
        generalize strB pa = sa at *
        generalize strB pb = sb at *
        cases ta with
        | false =>
          have HF := Lib.hid (HMISS.out rfl)
          clear HHIT HMISS
          go_wp2_with fail
          refine (HA.out _ (HT.out.on hbel)).mono ?_
          rintro e w1 ⟨rfl, b1⟩
          have d1 := hbel.trans (b1.mono hbel.size)
          have o1 := ownsC_below hown b1
          have c1' := (b1.cell (p := ⟨b, off + (m + 1), none⟩) (Nat.lt_of_lt_of_le hbl hbel.size)).trans c1
          clear hown c0 c1 b1 hbel
          go_wp2_with fail
          refine (HB.out _ (HT.out.on d1) (HM.out.on d1)).mono ?_
          rintro e w2 ⟨rfl, b2⟩
          have d2 := d1.trans (b2.mono d1.size)
          have o2 := ownsC_below o1 b2
          clear o1 c1' b2 d1
          go_wp2
          go_ret2
          exact condsAns_no HF.out d2
        | true =>
          cases tb with
          | false =>
            have HF := Lib.hid (HMISS.out rfl)
            clear HHIT HMISS
            go_wp2_with fail
            refine (HA.out _ (HT.out.on hbel)).mono ?_
            rintro e w1 ⟨rfl, b1⟩
            have d1 := hbel.trans (b1.mono hbel.size)
            have o1 := ownsC_below hown b1
            have c1' := (b1.cell (p := ⟨b, off + (m + 1), none⟩) (Nat.lt_of_lt_of_le hbl hbel.size)).trans c1
            clear hown c0 c1 b1 hbel
            go_wp2_with fail
            refine (HB.out _ (HT.out.on d1) (HM.out.on d1)).mono ?_
            rintro e w2 ⟨rfl, b2⟩
            have d2 := d1.trans (b2.mono d1.size)
            have o2 := ownsC_below o1 b2
            clear o1 c1' b2 d1
            go_wp2
            go_ret2
            exact condsAns_no HF.out d2
          | true =>
            have HG := Lib.hid (HHIT.out rfl rfl).symm
            clear HHIT HMISS
            go_wp2_with fail
            refine (HA.out _ (HT.out.on hbel)).mono ?_
            rintro e w1 ⟨rfl, b1⟩
            have d1 := hbel.trans (b1.mono hbel.size)
            have o1 := ownsC_below hown b1
            have c1' := (b1.cell (p := ⟨b, off + (m + 1), none⟩) (Nat.lt_of_lt_of_le hbl hbel.size)).trans c1
            clear hown c0 c1 b1 hbel
            go_wp2_with fail
            refine (HB.out _ (HT.out.on d1) (HM.out.on d1)).mono ?_
            rintro e w2 ⟨rfl, b2⟩
            have d2 := d1.trans (b2.mono d1.size)
            have o2 := ownsC_below o1 b2
            clear o1 c1' b2 d1
            have al : Below w2.heap.size w2 (w2.alloc (.cells #[.int .i64 fa, .int .i64 lo, .int .i64 hi] 67)) := (Below.refl _ _).alloc (Nat.le_refl _) _
            have q7 : (w2.alloc (.cells #[.int .i64 fa, .int .i64 lo, .int .i64 hi] 67)).cell? ⟨w2.heap.size, 0, none⟩ = some (.int .i64 fa) ∧ (w2.alloc (.cells #[.int .i64 fa, .int .i64 lo, .int .i64 hi] 67)).cell? ⟨w2.heap.size, 1, none⟩ = some (.int .i64 lo) ∧ (w2.alloc (.cells #[.int .i64 fa, .int .i64 lo, .int .i64 hi] 67)).cell? ⟨w2.heap.size, 2, none⟩ = some (.int .i64 hi) := ⟨(cell_lit w2 #[.int .i64 fa, .int .i64 lo, .int .i64 hi] 67 0).trans rfl, (cell_lit w2 #[.int .i64 fa, .int .i64 lo, .int .i64 hi] 67 1).trans rfl, (cell_lit w2 #[.int .i64 fa, .int .i64 lo, .int .i64 hi] 67 2).trans rfl⟩
            have l7 : w2.heap.size < (w2.alloc (.cells #[.int .i64 fa, .int .i64 lo, .int .i64 hi] 67)).heap.size := by simp
            have o3 := ownsC_below o2 al
            have d3 := d2.trans (al.mono d2.size)
            have HR7 := Lib.hid (conds_one q7 l7)
            clear o2 q7 l7 al d2
            go_wp2_with (at_builtin; refine wpl_append_conds rfl (.tmp 45) (.tmp 50) rfl w.heap.size _ _ acc [(fa, lo, hi)] rfl rfl o3 HR7.out d3.size (by have := HAL.out; have := HN.out; have := HNN.out; simp; omega) ?_; intro u4 w4 o4 b4)
            have d4 := d3.trans b4
            go_roundw
            case rel => exact ⟨k + 1, m + 2, acc ++ [(fa, lo, hi)], by omega, HM2, by go_num, by simp; exact HAL.out, HG, o4, d4⟩
            case measure => simp [intOf]; omega
      · obtain rfl : k = N := by omega
        have hm : m = P.length := by have := hmk.out; have := HNN.out; omega
        have HA : Hid (condsGo [] P = some acc) := Lib.hid (by rw [← hgo.out, hm, List.drop_length]; rfl)
        subst hm
        clear hgo
        go_wp2
        go_ret2
        exact condsAns_yes HA.out hown hbel
  · have r0 : ((P.length : Int) % 2 != 0) = true := by rw [bne_iff_ne]; omega
    have HF := Lib.hid (condsGo_odd P [] h2)
    clear h2
    go_enter Tryz.func65, Tryz.ntmps65
    go_wp2
    go_ret2
    exact condsAns_no HF.out (Below.refl _ _)
/-- What queryOf answers: a query in memory of its own, and whether the pieces are a query's. -/
def QueryAns (w : World) (r : Option QD) (e : Ending) (w' : World) : Prop :=
  ∃ (q : QD) (cv ov : Value), e = .returned (.tuple #[qV q.1 q.2.1 cv ov, .bool r.isSome]) ∧ OwnsC w' w.heap.size cv q.2.2.1 ∧ OwnsN w' w.heap.size ov q.2.2.2 ∧ (∀ b, cv.ownBlock = some b → ov.ownBlock ≠ some b) ∧ (∀ q', r = some q' → q' = q) ∧ q.2.2.1.length ≤ 1048576 ∧ q.2.2.2.length ≤ 1048576 ∧ Below w.heap.size w w'
theorem queryAns_zero {w w' : World} {r : Option QD} (h : r = none) (b : Below w.heap.size w w') : QueryAns w r (.returned (.tuple #[qV 0 0 (.slice none 0 0) (.slice none 0 0), .bool false])) w' :=
  ⟨q0D, .slice none 0 0, .slice none 0 0, by rw [h]; rfl, ownsC_nil _ _, ownsN_nil _ _, fun b hb => by simp [Value.ownBlock] at hb, fun q' hq => by rw [h] at hq; simp at hq, by simp [q0D], by simp [q0D], b⟩
theorem pQ_short {P : List (List UInt8)} (h : P.length < 4) : pQ P = none := by unfold pQ; rw [if_pos (Or.inl h)]
theorem pQ_word {P : List (List UInt8)} (h : P.getD (P.length - 2) [] ≠ [111, 117, 116]) : pQ P = none := by unfold pQ; rw [if_pos (Or.inr h)]
theorem pQ_go {P : List (List UInt8)} (h1 : ¬ P.length < 4) (h2 : P.getD (P.length - 2) [] = [111, 117, 116]) : pQ P = pickQ (tagP 113 (P.getD 0 [])) (tagP 116 (P.getD 1 [])) (condsGo [] ((P.drop 2).take (P.length - 4))) (intsGo [] (cutL 44 (P.getD (P.length - 1) []))) := by
  unfold pQ; rw [if_neg (fun g => g.elim h1 (fun g => g h2))]
theorem queryAns_any {w w' : World} {r : Option QD} {n0 n1 : Int} {cs : List CondD} {os : List Int} {cv ov : Value} {ok : Bool} (h1 : r.isSome = ok) (h2 : ∀ q, r = some q → q = (n0, n1, cs, os)) (o : OwnsC w' w.heap.size cv cs) (n : OwnsN w' w.heap.size ov os) (d : ∀ b, cv.ownBlock = some b → ov.ownBlock ≠ some b) (l1 : cs.length ≤ 1048576) (l2 : os.length ≤ 1048576) (b : Below w.heap.size w w') :
    QueryAns w r (.returned (.tuple #[qV n0 n1 cv ov, .bool ok])) w' := ⟨(n0, n1, cs, os), cv, ov, by rw [h1], o, n, d, h2, l1, l2, b⟩
theorem condsGo_len : ∀ (P : List (List UInt8)) (acc r : List CondD), condsGo acc P = some r → r.length ≤ acc.length + P.length
  | [], acc, r, h => by simp [condsGo] at h; rw [h]; simp
  | [_], acc, r, h => by simp [condsGo] at h
  | a :: b :: q, acc, r, h => by
    change (if _ then _ else _) = _ at h
    split at h
    · have := condsGo_len q _ r h
      simp at this ⊢; omega
    · simp at h
set_option maxHeartbeats 8000000 in
set_option maxRecDepth 100000 in
theorem queryOf_any (b : Nat) (cap : Nat) (P : List (List UInt8)) (w : World) (hc : ∀ j, j < P.length → w.cell? ⟨b, j, none⟩ = some (.string (strB (P.getD j [])))) (hbl : b < w.heap.size) (hn : P.length ≤ 1048577) (hcap : P.length ≤ cap) (hq : ∀ j, (P.getD j []).length ≤ 1048576) (hq2 : 4 ≤ P.length → ∀ j, (P.getD j []).length ≤ 1048575) (hT : Tab w) (hM : TabM w) :
    Calls Tryz.prog 34 #[.slice (some ⟨b, 0, none⟩) P.length cap] w (QueryAns w (pQ P)) := by
  have HC := Lib.hid hc
  have HN := Lib.hid hn
  have HQ := Lib.hid hq
  have HT := Lib.hid hT
  have HM := Lib.hid hM
  have HCAP := Lib.hid hcap
  clear hc hq hT hM
  have wa : IntKind.i64.wrap ((P.length : Int) - 2) = (P.length : Int) - 2 := IntWalk.i64_in _ (by omega)
  have hb0 : Below w.heap.size w (w.alloc (.cells #[.int .i64 0, .int .i64 0, .slice none 0 0, .slice none 0 0] 27)) := (Below.refl _ w).alloc (Nat.le_refl _) _
  have g0 := heap_alloc_new w (.cells #[.int .i64 0, .int .i64 0, .slice none 0 0, .slice none 0 0] 27)
  have hlt : w.heap.size < (w.alloc (.cells #[.int .i64 0, .int .i64 0, .slice none 0 0, .slice none 0 0] 27)).heap.size := by simp
  have z0 := (cell_of_row (w.alloc (.cells #[.int .i64 0, .int .i64 0, .slice none 0 0, .slice none 0 0] 27)) _ 0 _ _ _ g0).trans (show _ = some (Value.int .i64 0) from rfl)
  have z1 := (cell_of_row (w.alloc (.cells #[.int .i64 0, .int .i64 0, .slice none 0 0, .slice none 0 0] 27)) _ 1 _ _ _ g0).trans (show _ = some (Value.int .i64 0) from rfl)
  have z2 := (cell_of_row (w.alloc (.cells #[.int .i64 0, .int .i64 0, .slice none 0 0, .slice none 0 0] 27)) _ 2 _ _ _ g0).trans (show _ = some (Value.slice none 0 0) from rfl)
  have z3 := (cell_of_row (w.alloc (.cells #[.int .i64 0, .int .i64 0, .slice none 0 0, .slice none 0 0] 27)) _ 3 _ _ _ g0).trans (show _ = some (Value.slice none 0 0) from rfl)
  have f0 := frozen_of_row (w.alloc (.cells #[.int .i64 0, .int .i64 0, .slice none 0 0, .slice none 0 0] 27)) _ 0 _ _ g0
  have f1 := frozen_of_row (w.alloc (.cells #[.int .i64 0, .int .i64 0, .slice none 0 0, .slice none 0 0] 27)) _ 1 _ _ g0
  have f2 := frozen_of_row (w.alloc (.cells #[.int .i64 0, .int .i64 0, .slice none 0 0, .slice none 0 0] 27)) _ 2 _ _ g0
  have f3 := frozen_of_row (w.alloc (.cells #[.int .i64 0, .int .i64 0, .slice none 0 0, .slice none 0 0] 27)) _ 3 _ _ g0
  by_cases h4 : P.length < 4
  · have HF := Lib.hid (pQ_short h4)
    clear hq2
    have i0 : (P.length : Int) - 2 < 2 := by omega
    clear h4 hcap hn
    go_enter Tryz.func34, Tryz.ntmps34
    go_wp2
    generalize w.alloc (.cells #[.int .i64 0, .int .i64 0, .slice none 0 0, .slice none 0 0] 27) = W at *
    have e0 := cell_of_row W _ 0 _ _ _ g0
    have e1 := cell_of_row W _ 1 _ _ _ g0
    have e2 := cell_of_row W _ 2 _ _ _ g0
    have e3 := cell_of_row W _ 3 _ _ _ g0
    simp at e0 e1 e2 e3
    refine bodyPost_ret (v := .tuple #[qV 0 0 (.slice none 0 0) (.slice none 0 0), .bool false]) ?_ rfl ?_
    · simp [results, Tryz.f34, go_sem, e0, e1, e2, e3, qV]
    · exact queryAns_zero HF.out hb0
  obtain ⟨m, hm⟩ : ∃ m, P.length = m + 2 := ⟨P.length - 2, by omega⟩
  have hm2 : 2 ≤ m := by omega
  have wb : IntKind.i64.wrap ((P.length : Int) - 2) = (m : Int) := by rw [wa]; omega
  have we : (P.length : Int) - 2 = (m : Int) := by omega
  have j0 : (0 : Int) ≤ (m : Int) := by omega
  have j1 : (m : Int) < (P.length : Int) := by omega
  have j2 : ¬ (m : Int) < 2 := by omega
  have cm := (hb0.cell (p := ⟨b, m, none⟩) hbl).trans (HC.out m (by omega))
  have HMM := Lib.hid hm
  have hGO := pQ_go (P := P) h4
  rw [show P.length - 2 = m by omega] at hGO
  have hWD := pQ_word (P := P)
  rw [show P.length - 2 = m by omega] at hWD
  have HGO := Lib.hid hGO
  have HWD := Lib.hid hWD
  have em : (strB (P.getD m [])).toList = P.getD m [] := strB_toList _
  have HQ3 := hq2 (by omega)
  clear hm hGO hWD wa h4
  by_cases ho : P.getD m [] = [111, 117, 116]
  · have ho' : (!((strB (P.getD m [])).toList == [111, 117, 116])) = false := by rw [em, ho]; rfl
    have HG := Lib.hid (HGO.out ho)
    have HP4 : Hid (P.length - 4 = m - 2) := Lib.hid (by have := HMM.out; omega)
    rw [show P.length - 4 = m - 2 from HP4.out, show P.length - 1 = m + 1 by have := HMM.out; omega] at HG
    obtain ⟨P2, hP2⟩ : ∃ P2, (P.drop 2).take (m - 2) = P2 := ⟨_, rfl⟩
    have hl2 : P2.length = m - 2 := by rw [← hP2, List.length_take, List.length_drop]; have := HMM.out; omega
    have hg2 : ∀ j, j < P2.length → P2.getD j [] = P.getD (2 + j) [] := fun j hj => by
      rw [hl2] at hj
      rw [← hP2, List.getD, List.getD, List.getElem?_take, if_pos hj, List.getElem?_drop]
    have hq3 : ∀ j, (P2.getD j []).length ≤ 1048576 := fun j => by
      by_cases hj : j < P2.length
      · rw [hg2 j hj]; exact HQ.out _
      · rw [List.getD, List.getElem?_eq_none (by omega)]; simp
    have HCO : Hid (∀ cap' w', Below w.heap.size w w' → Calls Tryz.prog 65 #[.slice (some ⟨b, 2, none⟩) P2.length cap'] w' (CondsAns w' (condsGo [] P2))) := Lib.hid (fun cap' w' hb => parseConds_any b 2 cap' P2 w' (fun j hj => by
      rw [hg2 j hj]
      exact (hb.cell (p := ⟨b, 2 + j, none⟩) hbl).trans (HC.out (2 + j) (by have := HMM.out; omega))) (Nat.lt_of_lt_of_le hbl hb.size) (by have := HN.out; have := HMM.out; omega) hq3 (HT.out.on hb) (HM.out.on hb))
    have HCL : Hid (∀ cs, condsGo [] P2 = some cs → cs.length ≤ 1048576) := Lib.hid (fun cs h => by have := condsGo_len P2 [] cs h; simp at this; have := HN.out; have := HMM.out; omega)
    rw [hP2] at HG
    have HL2 := Lib.hid hl2
    rw [hl2] at HCO
    have HA := Lib.hid (fun w h => parseTagged_any (P.getD 0 []) 113 w (HQ.out 0) h)
    have HB := Lib.hid (fun w h => parseTagged_any (P.getD 1 []) 116 w (HQ.out 1) h)
    have HS := Lib.hid (fun w h => Comma.splitInts_any (P.getD (m + 1) []) w (HQ.out (m + 1)) h)
    have HIL : Hid (∀ os, intsGo [] (cutL 44 (P.getD (m + 1) [])) = some os → os.length ≤ 1048576) := Lib.hid (fun os h => by
      obtain ⟨_, e⟩ := intsGo_some _ _ _ h
      rw [e, List.nil_append, List.length_map]; have := cut_len 44 (P.getD (m + 1) []); have := HQ3 (m + 1); omega)
    have c0 := (hb0.cell (p := ⟨b, 0, none⟩) hbl).trans (HC.out 0 (by omega))
    have c1 := HC.out 1 (by omega)
    have cl := HC.out (m + 1) (by have := HMM.out; omega)
    have k1 : (0 : Int) < (P.length : Int) := by omega
    have k2 : (1 : Int) < (P.length : Int) := by omega
    have k3 : (m : Int) + 1 < (P.length : Int) := by have := HMM.out; omega
    have k4 : (0 : Int) ≤ (m : Int) + 1 := by omega
    have k5 : ((m : Int) + 1).toNat = m + 1 := by omega
    have k6 : IntKind.i64.wrap ((m : Int) + 1) = (m : Int) + 1 := IntWalk.i64_in _ (by omega)
    have k7 : (2 : Int) ≤ (m : Int) := by omega
    have k8 : (m : Int) ≤ (cap : Int) := by have := HCAP.out; omega
    clear hP2 hl2 hg2 hq2 hq3 em ho HGO HWD HQ3
    generalize P.getD 0 [] = p0 at *
    generalize P.getD 1 [] = p1 at *
    generalize P.getD (m + 1) [] = pl at *
    generalize strB (P.getD m []) = sm at *
    have hpf := pickQ_facts (tagP 113 p0) (tagP 116 p1) (condsGo [] P2) (intsGo [] (cutL 44 pl))
    rw [← HG.out] at hpf
    obtain ⟨n0, hn0⟩ : ∃ x, (tagP 113 p0).1 = x := ⟨_, rfl⟩
    obtain ⟨t0, ht0⟩ : ∃ x, (tagP 113 p0).2 = x := ⟨_, rfl⟩
    obtain ⟨n1, hn1⟩ : ∃ x, (tagP 116 p1).1 = x := ⟨_, rfl⟩
    obtain ⟨t1, ht1⟩ : ∃ x, (tagP 116 p1).2 = x := ⟨_, rfl⟩
    rw [hn0, ht0] at HA hpf
    rw [hn1, ht1] at HB hpf
    clear hn0 ht0 hn1 ht1 HG
    generalize condsGo [] P2 = r1 at *
    generalize intsGo [] (cutL 44 pl) = r2 at *
    have HOK := Lib.hid hpf.1
    have HEQ := Lib.hid hpf.2
    have HL1 : Hid ((r1.getD []).length ≤ 1048576) := Lib.hid (by cases r1 with | none => simp | some cs => exact HCL.out cs rfl)
    have HL3 : Hid ((r2.getD []).length ≤ 1048576) := Lib.hid (by cases r2 with | none => simp | some cs => exact HIL.out cs rfl)
    clear hpf HCL HIL
    go_enter Tryz.func34, Tryz.ntmps34
    go_wp2_with fail
    generalize w.alloc (.cells #[.int .i64 0, .int .i64 0, .slice none 0 0, .slice none 0 0] 27) = W at *
    refine (HA.out _ (HT.out.on hb0)).mono ?_
    rintro e w1 ⟨rfl, b1⟩
    have d1 := hb0.trans (b1.mono hb0.size)
    have g1 := (b1.block w.heap.size hlt).trans g0
    have l1 := Nat.lt_of_lt_of_le hlt b1.size
    replace c1 := (d1.cell (p := ⟨b, 1, none⟩) hbl).trans c1
    clear hb0 g0 hlt b1 z0 z1 z2 z3 f0 f1 f2 f3 cm c0
    go_wp2_with fail
    refine (HB.out _ (HT.out.on d1)).mono ?_
    rintro e w2 ⟨rfl, b2⟩
    have d2 := d1.trans (b2.mono d1.size)
    have g2 := (b2.block w.heap.size l1).trans g1
    have l2 := Nat.lt_of_lt_of_le l1 b2.size
    clear d1 g1 l1 b2 c1
    go_wp2_with fail
    have L1 := Lib.hid l2
    refine (HCO.out _ _ d2).mono ?_
    rintro e w3 ⟨cv, rfl, oc, b3⟩
    have d3 := d2.trans (b3.mono d2.size)
    have g3 := (b3.block w.heap.size l2).trans g2
    have l3 := Nat.lt_of_lt_of_le l2 b3.size
    replace cl := (d3.cell (p := ⟨b, m + 1, none⟩) hbl).trans cl
    go_wp2_with fail
    refine (HS.out _ (HT.out.on d3)).mono ?_
    rintro e w4 ⟨ov, rfl, oo, b4⟩
    have d4 := d3.trans (b4.mono d3.size)
    have g4 := (b4.block w.heap.size l3).trans g3
    have l4 := Nat.lt_of_lt_of_le l3 b4.size
    have hap : ∀ x, cv.ownBlock = some x → ov.ownBlock ≠ some x := fun x h1 h2 => by have := (oc.lt x h1).2; have := (oo.lt x h2).1; omega
    have oc4 := ownsC_below oc b4
    clear oc d2 g2 l2 b3 g3 cl b4
    obtain ⟨ca, ccap, rfl⟩ := ownsC_len oc4
    obtain ⟨oa, ocap, rfl⟩ := ints_len (ownsN_ints oo)
    generalize r1.getD [] = cs at *
    generalize r2.getD [] = os at *
    generalize r1.isSome = s1 at *
    generalize r2.isSome = s2 at *
    have hb5 : Below w4.heap.size w4 (w4.alloc (.cells #[.int .i64 n0, .int .i64 n1, .slice ca cs.length ccap, .slice oa os.length ocap] 27)) := (Below.refl _ _).alloc (Nat.le_refl _) _
    have g5 := (hb5.block w.heap.size l4).trans g4
    have o5 := Lib.hid (ownsC_below oc4 hb5)
    have n5 := Lib.hid (ownsN_below oo hb5)
    have D5 := Lib.hid (d4.trans (hb5.mono d4.size))
    have L2 := Lib.hid l3
    have hq5 := heap_alloc_new w4 (.cells #[.int .i64 n0, .int .i64 n1, .slice ca cs.length ccap, .slice oa os.length ocap] 27)
    have y0 := (cell_of_row (w4.alloc (.cells #[.int .i64 n0, .int .i64 n1, .slice ca cs.length ccap, .slice oa os.length ocap] 27)) _ 0 _ _ _ hq5).trans (show _ = some (Value.int .i64 n0) from rfl)
    have y1 := (cell_of_row (w4.alloc (.cells #[.int .i64 n0, .int .i64 n1, .slice ca cs.length ccap, .slice oa os.length ocap] 27)) _ 1 _ _ _ hq5).trans (show _ = some (Value.int .i64 n1) from rfl)
    have y2 := (cell_of_row (w4.alloc (.cells #[.int .i64 n0, .int .i64 n1, .slice ca cs.length ccap, .slice oa os.length ocap] 27)) _ 2 _ _ _ hq5).trans (show _ = some (Value.slice ca cs.length ccap) from rfl)
    have y3 := (cell_of_row (w4.alloc (.cells #[.int .i64 n0, .int .i64 n1, .slice ca cs.length ccap, .slice oa os.length ocap] 27)) _ 3 _ _ _ hq5).trans (show _ = some (Value.slice oa os.length ocap) from rfl)
    have z0 := (cell_of_row (w4.alloc (.cells #[.int .i64 n0, .int .i64 n1, .slice ca cs.length ccap, .slice oa os.length ocap] 27)) _ 0 _ _ _ g5).trans (show _ = some (Value.int .i64 0) from rfl)
    have f0 := frozen_of_row (w4.alloc (.cells #[.int .i64 n0, .int .i64 n1, .slice ca cs.length ccap, .slice oa os.length ocap] 27)) _ 0 _ _ g5
    have z1 := (cell_of_row (w4.alloc (.cells #[.int .i64 n0, .int .i64 n1, .slice ca cs.length ccap, .slice oa os.length ocap] 27)) _ 1 _ _ _ g5).trans (show _ = some (Value.int .i64 0) from rfl)
    have f1 := frozen_of_row (w4.alloc (.cells #[.int .i64 n0, .int .i64 n1, .slice ca cs.length ccap, .slice oa os.length ocap] 27)) _ 1 _ _ g5
    have z2 := (cell_of_row (w4.alloc (.cells #[.int .i64 n0, .int .i64 n1, .slice ca cs.length ccap, .slice oa os.length ocap] 27)) _ 2 _ _ _ g5).trans (show _ = some (Value.slice none 0 0) from rfl)
    have f2 := frozen_of_row (w4.alloc (.cells #[.int .i64 n0, .int .i64 n1, .slice ca cs.length ccap, .slice oa os.length ocap] 27)) _ 2 _ _ g5
    have z3 := (cell_of_row (w4.alloc (.cells #[.int .i64 n0, .int .i64 n1, .slice ca cs.length ccap, .slice oa os.length ocap] 27)) _ 3 _ _ _ g5).trans (show _ = some (Value.slice none 0 0) from rfl)
    have f3 := frozen_of_row (w4.alloc (.cells #[.int .i64 n0, .int .i64 n1, .slice ca cs.length ccap, .slice oa os.length ocap] 27)) _ 3 _ _ g5
    have HG5 := Lib.hid g5
    have HAP := Lib.hid hap
    clear hap oc4 oo hb5 g5 hq5 d4 g4 l4
    cases t0 with
    | false =>
      have HO2 : Hid ((pQ P).isSome = false) := Lib.hid (by rw [HOK.out]; rfl)
      clear HOK
      go_wp2
      generalize (w4.alloc (.cells #[.int .i64 n0, .int .i64 n1, .slice ca cs.length ccap, .slice oa os.length ocap] 27)) = W5 at *
      have r1 := heap_setCell_same W5 (w.heap.size) 0 _ _ (.int .i64 n0) HG5.out
      have r2 := heap_setCell_same _ (w.heap.size) 1 _ _ (.int .i64 n1) r1
      have r3 := heap_setCell_same _ (w.heap.size) 2 _ _ (.slice ca cs.length ccap) r2
      have r4 := heap_setCell_same _ (w.heap.size) 3 _ _ (.slice oa os.length ocap) r3
      have B6 := ((((D5.out.setCell (p := ⟨w.heap.size, 0, none⟩) (Nat.le_refl _) (.int .i64 n0)).setCell (p := ⟨w.heap.size, 1, none⟩) (Nat.le_refl _) (.int .i64 n1)).setCell (p := ⟨w.heap.size, 2, none⟩) (Nat.le_refl _) (.slice ca cs.length ccap)).setCell (p := ⟨w.heap.size, 3, none⟩) (Nat.le_refl _) (.slice oa os.length ocap))
      have O6 := (ownsC_low (ownsC_low (ownsC_low (ownsC_low o5.out (b := w.heap.size) L1.out 0 (.int .i64 n0)) (b := w.heap.size) L1.out 1 (.int .i64 n1)) (b := w.heap.size) L1.out 2 (.slice ca cs.length ccap)) (b := w.heap.size) L1.out 3 (.slice oa os.length ocap))
      have N6 := (ownsN_low (ownsN_low (ownsN_low (ownsN_low n5.out (b := w.heap.size) L2.out 0 (.int .i64 n0)) (b := w.heap.size) L2.out 1 (.int .i64 n1)) (b := w.heap.size) L2.out 2 (.slice ca cs.length ccap)) (b := w.heap.size) L2.out 3 (.slice oa os.length ocap))
      have e0 := cell_of_row _ _ 0 _ _ _ r4
      have e1 := cell_of_row _ _ 1 _ _ _ r4
      have e2 := cell_of_row _ _ 2 _ _ _ r4
      have e3 := cell_of_row _ _ 3 _ _ _ r4
      simp at e0 e1 e2 e3
      refine bodyPost_ret (v := .tuple #[qV n0 n1 (.slice ca cs.length ccap) (.slice oa os.length ocap), .bool false]) ?_ rfl ?_
      · simp [results, Tryz.f34, go_sem, e0, e1, e2, e3, qV]
      · exact queryAns_any HO2.out HEQ.out (ownsC_up O6 (Nat.le_of_lt L1.out)) (ownsN_up N6 (Nat.le_of_lt L2.out)) HAP.out HL1.out HL3.out B6
    | true =>
      cases t1 with
      | false =>
        have HO2 : Hid ((pQ P).isSome = false) := Lib.hid (by rw [HOK.out]; rfl)
        clear HOK
        go_wp2
        generalize (w4.alloc (.cells #[.int .i64 n0, .int .i64 n1, .slice ca cs.length ccap, .slice oa os.length ocap] 27)) = W5 at *
        have r1 := heap_setCell_same W5 (w.heap.size) 0 _ _ (.int .i64 n0) HG5.out
        have r2 := heap_setCell_same _ (w.heap.size) 1 _ _ (.int .i64 n1) r1
        have r3 := heap_setCell_same _ (w.heap.size) 2 _ _ (.slice ca cs.length ccap) r2
        have r4 := heap_setCell_same _ (w.heap.size) 3 _ _ (.slice oa os.length ocap) r3
        have B6 := ((((D5.out.setCell (p := ⟨w.heap.size, 0, none⟩) (Nat.le_refl _) (.int .i64 n0)).setCell (p := ⟨w.heap.size, 1, none⟩) (Nat.le_refl _) (.int .i64 n1)).setCell (p := ⟨w.heap.size, 2, none⟩) (Nat.le_refl _) (.slice ca cs.length ccap)).setCell (p := ⟨w.heap.size, 3, none⟩) (Nat.le_refl _) (.slice oa os.length ocap))
        have O6 := (ownsC_low (ownsC_low (ownsC_low (ownsC_low o5.out (b := w.heap.size) L1.out 0 (.int .i64 n0)) (b := w.heap.size) L1.out 1 (.int .i64 n1)) (b := w.heap.size) L1.out 2 (.slice ca cs.length ccap)) (b := w.heap.size) L1.out 3 (.slice oa os.length ocap))
        have N6 := (ownsN_low (ownsN_low (ownsN_low (ownsN_low n5.out (b := w.heap.size) L2.out 0 (.int .i64 n0)) (b := w.heap.size) L2.out 1 (.int .i64 n1)) (b := w.heap.size) L2.out 2 (.slice ca cs.length ccap)) (b := w.heap.size) L2.out 3 (.slice oa os.length ocap))
        have e0 := cell_of_row _ _ 0 _ _ _ r4
        have e1 := cell_of_row _ _ 1 _ _ _ r4
        have e2 := cell_of_row _ _ 2 _ _ _ r4
        have e3 := cell_of_row _ _ 3 _ _ _ r4
        simp at e0 e1 e2 e3
        refine bodyPost_ret (v := .tuple #[qV n0 n1 (.slice ca cs.length ccap) (.slice oa os.length ocap), .bool false]) ?_ rfl ?_
        · simp [results, Tryz.f34, go_sem, e0, e1, e2, e3, qV]
        · exact queryAns_any HO2.out HEQ.out (ownsC_up O6 (Nat.le_of_lt L1.out)) (ownsN_up N6 (Nat.le_of_lt L2.out)) HAP.out HL1.out HL3.out B6
      | true =>
        cases s1 with
        | false =>
          have HO2 : Hid ((pQ P).isSome = false) := Lib.hid (by rw [HOK.out]; rfl)
          clear HOK
          go_wp2
          generalize (w4.alloc (.cells #[.int .i64 n0, .int .i64 n1, .slice ca cs.length ccap, .slice oa os.length ocap] 27)) = W5 at *
          have r1 := heap_setCell_same W5 (w.heap.size) 0 _ _ (.int .i64 n0) HG5.out
          have r2 := heap_setCell_same _ (w.heap.size) 1 _ _ (.int .i64 n1) r1
          have r3 := heap_setCell_same _ (w.heap.size) 2 _ _ (.slice ca cs.length ccap) r2
          have r4 := heap_setCell_same _ (w.heap.size) 3 _ _ (.slice oa os.length ocap) r3
          have B6 := ((((D5.out.setCell (p := ⟨w.heap.size, 0, none⟩) (Nat.le_refl _) (.int .i64 n0)).setCell (p := ⟨w.heap.size, 1, none⟩) (Nat.le_refl _) (.int .i64 n1)).setCell (p := ⟨w.heap.size, 2, none⟩) (Nat.le_refl _) (.slice ca cs.length ccap)).setCell (p := ⟨w.heap.size, 3, none⟩) (Nat.le_refl _) (.slice oa os.length ocap))
          have O6 := (ownsC_low (ownsC_low (ownsC_low (ownsC_low o5.out (b := w.heap.size) L1.out 0 (.int .i64 n0)) (b := w.heap.size) L1.out 1 (.int .i64 n1)) (b := w.heap.size) L1.out 2 (.slice ca cs.length ccap)) (b := w.heap.size) L1.out 3 (.slice oa os.length ocap))
          have N6 := (ownsN_low (ownsN_low (ownsN_low (ownsN_low n5.out (b := w.heap.size) L2.out 0 (.int .i64 n0)) (b := w.heap.size) L2.out 1 (.int .i64 n1)) (b := w.heap.size) L2.out 2 (.slice ca cs.length ccap)) (b := w.heap.size) L2.out 3 (.slice oa os.length ocap))
          have e0 := cell_of_row _ _ 0 _ _ _ r4
          have e1 := cell_of_row _ _ 1 _ _ _ r4
          have e2 := cell_of_row _ _ 2 _ _ _ r4
          have e3 := cell_of_row _ _ 3 _ _ _ r4
          simp at e0 e1 e2 e3
          refine bodyPost_ret (v := .tuple #[qV n0 n1 (.slice ca cs.length ccap) (.slice oa os.length ocap), .bool false]) ?_ rfl ?_
          · simp [results, Tryz.f34, go_sem, e0, e1, e2, e3, qV]
          · exact queryAns_any HO2.out HEQ.out (ownsC_up O6 (Nat.le_of_lt L1.out)) (ownsN_up N6 (Nat.le_of_lt L2.out)) HAP.out HL1.out HL3.out B6
        | true =>
          have HO2 : Hid ((pQ P).isSome = s2) := Lib.hid (by rw [HOK.out]; cases s2 <;> rfl)
          clear HOK
          go_wp2
          generalize (w4.alloc (.cells #[.int .i64 n0, .int .i64 n1, .slice ca cs.length ccap, .slice oa os.length ocap] 27)) = W5 at *
          have r1 := heap_setCell_same W5 (w.heap.size) 0 _ _ (.int .i64 n0) HG5.out
          have r2 := heap_setCell_same _ (w.heap.size) 1 _ _ (.int .i64 n1) r1
          have r3 := heap_setCell_same _ (w.heap.size) 2 _ _ (.slice ca cs.length ccap) r2
          have r4 := heap_setCell_same _ (w.heap.size) 3 _ _ (.slice oa os.length ocap) r3
          have B6 := ((((D5.out.setCell (p := ⟨w.heap.size, 0, none⟩) (Nat.le_refl _) (.int .i64 n0)).setCell (p := ⟨w.heap.size, 1, none⟩) (Nat.le_refl _) (.int .i64 n1)).setCell (p := ⟨w.heap.size, 2, none⟩) (Nat.le_refl _) (.slice ca cs.length ccap)).setCell (p := ⟨w.heap.size, 3, none⟩) (Nat.le_refl _) (.slice oa os.length ocap))
          have O6 := (ownsC_low (ownsC_low (ownsC_low (ownsC_low o5.out (b := w.heap.size) L1.out 0 (.int .i64 n0)) (b := w.heap.size) L1.out 1 (.int .i64 n1)) (b := w.heap.size) L1.out 2 (.slice ca cs.length ccap)) (b := w.heap.size) L1.out 3 (.slice oa os.length ocap))
          have N6 := (ownsN_low (ownsN_low (ownsN_low (ownsN_low n5.out (b := w.heap.size) L2.out 0 (.int .i64 n0)) (b := w.heap.size) L2.out 1 (.int .i64 n1)) (b := w.heap.size) L2.out 2 (.slice ca cs.length ccap)) (b := w.heap.size) L2.out 3 (.slice oa os.length ocap))
          have e0 := cell_of_row _ _ 0 _ _ _ r4
          have e1 := cell_of_row _ _ 1 _ _ _ r4
          have e2 := cell_of_row _ _ 2 _ _ _ r4
          have e3 := cell_of_row _ _ 3 _ _ _ r4
          simp at e0 e1 e2 e3
          refine bodyPost_ret (v := .tuple #[qV n0 n1 (.slice ca cs.length ccap) (.slice oa os.length ocap), .bool s2]) ?_ rfl ?_
          · simp [results, Tryz.f34, go_sem, e0, e1, e2, e3, qV]
          · exact queryAns_any HO2.out HEQ.out (ownsC_up O6 (Nat.le_of_lt L1.out)) (ownsN_up N6 (Nat.le_of_lt L2.out)) HAP.out HL1.out HL3.out B6
  · have HF := Lib.hid (HWD.out ho)
    have ho' : (!((strB (P.getD m [])).toList == [111, 117, 116])) = true := by rw [em, Bool.not_eq_true', beq_eq_false_iff_ne]; exact ho
    clear ho em HGO HWD HQ3 hq2
    generalize strB (P.getD m []) = sm at *
    go_enter Tryz.func34, Tryz.ntmps34
    go_wp2
    generalize w.alloc (.cells #[.int .i64 0, .int .i64 0, .slice none 0 0, .slice none 0 0] 27) = W at *
    have e0 := cell_of_row W _ 0 _ _ _ g0
    have e1 := cell_of_row W _ 1 _ _ _ g0
    have e2 := cell_of_row W _ 2 _ _ _ g0
    have e3 := cell_of_row W _ 3 _ _ _ g0
    simp at e0 e1 e2 e3
    refine bodyPost_ret (v := .tuple #[qV 0 0 (.slice none 0 0) (.slice none 0 0), .bool false]) ?_ rfl ?_
    · simp [results, Tryz.f34, go_sem, e0, e1, e2, e3, qV]
    · exact queryAns_zero HF.out hb0
theorem split_any (l : List UInt8) (w : World) (hl : l.length ≤ 1048576) (hM : TabM w) :
    Calls Tryz.prog 35 #[.string (strB l), .string ⟨#[32]⟩] w fun e w' => e = .returned (.slice (some ⟨w.heap.size, 0, none⟩) (cutL 32 l).length (cutL 32 l).length) ∧ w' = w.alloc (.cells ((cutL 32 l).map (fun p => Value.string (strB p))).toArray 9) := by
  obtain ⟨m, hm⟩ := hM
  refine (Tryz.strings_Split (strB l) ⟨#[32]⟩ m w (by rw [strB_size]; omega) hm (by decide)).mono ?_
  rintro e w' ⟨rfl, rfl⟩
  have hc : Lib.countB (strB l) ⟨#[32]⟩ + 1 = (cutL 32 l).length := (split_len _ _ (Nat.lt_succ_self _)).symm
  have hs : Lib.splitB ⟨#[32]⟩ 0 (Lib.countB (strB l) ⟨#[32]⟩) (strB l) = (cutL 32 l).map strB := by
    have h1 := Lib.splitB_data ⟨#[32]⟩ 0 (Lib.countB (strB l) ⟨#[32]⟩) (strB l)
    have h2 : Lib.splitK (⟨#[32]⟩ : ByteArray).data.toList 0 (Lib.countB (strB l) ⟨#[32]⟩) (strB l).data.toList = cutL 32 l := split_cut 32 l
    rw [h2] at h1
    rw [← h1, List.map_map]
    conv => lhs; rw [← List.map_id (Lib.splitB ⟨#[32]⟩ 0 (Lib.countB (strB l) ⟨#[32]⟩) (strB l))]
    exact List.map_congr_left fun x _ => by cases x; simp [strB]
  refine ⟨by rw [hc], ?_⟩
  rw [hs, List.map_map]
  rfl
set_option maxHeartbeats 8000000 in
set_option maxRecDepth 100000 in
theorem implParseQuery (l : List UInt8) (w : World) (hl : l.length ≤ 1048576) (hT : Tab w) (hM : TabM w) :
    Calls Tryz.prog 12 #[.string (strB l)] w (ParAnsQ w (parQ l)) := by
  have HT := Lib.hid hT
  have HM := Lib.hid hM
  have HACC := Lib.hid (fun q => parQ_acc (l := l) (q := q))
  have HREJ := Lib.hid (parQ_rej (l := l))
  have hpl := cut_len 32 l
  have hp1 : ∀ j, ((cutL 32 l).getD j []).length ≤ 1048576 := fun j => Nat.le_trans (cut_piece 32 l j) hl
  have hp2 : 4 ≤ (cutL 32 l).length → ∀ j, ((cutL 32 l).getD j []).length ≤ 1048575 := fun h j => by have := cut_short (l := l) (b := 32) (by omega) j; omega
  have HS := Lib.hid (fun w h => split_any l w hl h)
  have hb0 : Below w.heap.size w (w.alloc (.cells #[.int .i64 0, .int .i64 0, .slice none 0 0, .slice none 0 0] 27)) := (Below.refl _ w).alloc (Nat.le_refl _) _
  have g0 := heap_alloc_new w (.cells #[.int .i64 0, .int .i64 0, .slice none 0 0, .slice none 0 0] 27)
  have hlt : w.heap.size < (w.alloc (.cells #[.int .i64 0, .int .i64 0, .slice none 0 0, .slice none 0 0] 27)).heap.size := by simp
  generalize parQ l = ans at *
  generalize cutL 32 l = P at *
  have HQ : Hid (∀ (w : World), TabM w → Tab w → Calls Tryz.prog 34 #[.slice (some ⟨w.heap.size, 0, none⟩) P.length P.length] (w.alloc (.cells (P.map (fun p => Value.string (strB p))).toArray 9)) (QueryAns (w.alloc (.cells (P.map (fun p => Value.string (strB p))).toArray 9)) (pQ P))) := Lib.hid (fun w hM hT => by
    have hb : Below w.heap.size w (w.alloc (.cells (P.map (fun p => Value.string (strB p))).toArray 9)) := (Below.refl _ w).alloc (Nat.le_refl _) _
    refine queryOf_any w.heap.size P.length P _ (fun j hj => ?_) (by simp) (by omega) (Nat.le_refl _) hp1 hp2 (hT.on hb) (hM.on hb)
    rw [cell_lit]
    simp [List.getD, hj])
  generalize strB l = sl at *
  clear hp1 hp2 hpl hT hM hl
  go_enter Tryz.func12, Tryz.ntmps12
  go_wp2_with fail
  generalize w.alloc (.cells #[.int .i64 0, .int .i64 0, .slice none 0 0, .slice none 0 0] 27) = W at *
  refine (HS.out _ (HM.out.on hb0)).mono ?_
  rintro e w1 ⟨rfl, hw1⟩
  have b1 : Below W.heap.size W w1 := by rw [hw1]; exact (Below.refl _ _).alloc (Nat.le_refl _) _
  have HQ1 := Lib.hid (HQ.out W (HM.out.on hb0) (HT.out.on hb0))
  rw [← hw1] at HQ1
  have c1 := hb0.trans (b1.mono hb0.size)
  have g1 := (b1.block w.heap.size hlt).trans g0
  have l1 := Nat.lt_of_lt_of_le hlt b1.size
  clear hw1 b1 HQ HS hb0 g0 hlt
  go_wp2_with fail
  refine HQ1.out.mono ?_
  rintro e w2 ⟨⟨n0, n1, cs, os⟩, cv, ov, rfl, oc, oo, hap, heq, hcl, hol, b2⟩
  simp only at oc oo hcl hol
  have c2 := c1.trans (b2.mono c1.size)
  have g2 := (b2.block w.heap.size l1).trans g1
  have l2 := Nat.lt_of_lt_of_le l1 b2.size
  obtain ⟨ca, ccap, rfl⟩ := ownsC_len oc
  obtain ⟨oa, ocap, rfl⟩ := ints_len (ownsN_ints oo)
  have hb3 : Below w2.heap.size w2 (w2.alloc (.cells #[.int .i64 n0, .int .i64 n1, .slice ca cs.length ccap, .slice oa os.length ocap] 27)) := (Below.refl _ _).alloc (Nat.le_refl _) _
  have g3 := (hb3.block w.heap.size l2).trans g2
  have c3 := c2.trans (hb3.mono c2.size)
  have q3 := heap_alloc_new w2 (.cells #[.int .i64 n0, .int .i64 n1, .slice ca cs.length ccap, .slice oa os.length ocap] 27)
  have HOC := Lib.hid (ownsC_below oc hb3)
  have HOO := Lib.hid (ownsN_below oo hb3)
  have HAP := Lib.hid hap
  have HEQ := Lib.hid heq
  have L1 := Lib.hid l1
  have y0 := (cell_of_row (w2.alloc (.cells #[.int .i64 n0, .int .i64 n1, .slice ca cs.length ccap, .slice oa os.length ocap] 27)) _ 0 _ _ _ q3).trans (show _ = some (Value.int .i64 n0) from rfl)
  have y1 := (cell_of_row (w2.alloc (.cells #[.int .i64 n0, .int .i64 n1, .slice ca cs.length ccap, .slice oa os.length ocap] 27)) _ 1 _ _ _ q3).trans (show _ = some (Value.int .i64 n1) from rfl)
  have y2 := (cell_of_row (w2.alloc (.cells #[.int .i64 n0, .int .i64 n1, .slice ca cs.length ccap, .slice oa os.length ocap] 27)) _ 2 _ _ _ q3).trans (show _ = some (Value.slice ca cs.length ccap) from rfl)
  have y3 := (cell_of_row (w2.alloc (.cells #[.int .i64 n0, .int .i64 n1, .slice ca cs.length ccap, .slice oa os.length ocap] 27)) _ 3 _ _ _ q3).trans (show _ = some (Value.slice oa os.length ocap) from rfl)
  have z0 := (cell_of_row (w2.alloc (.cells #[.int .i64 n0, .int .i64 n1, .slice ca cs.length ccap, .slice oa os.length ocap] 27)) _ 0 _ _ _ g3).trans (show _ = some (Value.int .i64 0) from rfl)
  have f0 := frozen_of_row (w2.alloc (.cells #[.int .i64 n0, .int .i64 n1, .slice ca cs.length ccap, .slice oa os.length ocap] 27)) _ 0 _ _ g3
  have z1 := (cell_of_row (w2.alloc (.cells #[.int .i64 n0, .int .i64 n1, .slice ca cs.length ccap, .slice oa os.length ocap] 27)) _ 1 _ _ _ g3).trans (show _ = some (Value.int .i64 0) from rfl)
  have f1 := frozen_of_row (w2.alloc (.cells #[.int .i64 n0, .int .i64 n1, .slice ca cs.length ccap, .slice oa os.length ocap] 27)) _ 1 _ _ g3
  have z2 := (cell_of_row (w2.alloc (.cells #[.int .i64 n0, .int .i64 n1, .slice ca cs.length ccap, .slice oa os.length ocap] 27)) _ 2 _ _ _ g3).trans (show _ = some (Value.slice none 0 0) from rfl)
  have f2 := frozen_of_row (w2.alloc (.cells #[.int .i64 n0, .int .i64 n1, .slice ca cs.length ccap, .slice oa os.length ocap] 27)) _ 2 _ _ g3
  have z3 := (cell_of_row (w2.alloc (.cells #[.int .i64 n0, .int .i64 n1, .slice ca cs.length ccap, .slice oa os.length ocap] 27)) _ 3 _ _ _ g3).trans (show _ = some (Value.slice none 0 0) from rfl)
  have f3 := frozen_of_row (w2.alloc (.cells #[.int .i64 n0, .int .i64 n1, .slice ca cs.length ccap, .slice oa os.length ocap] 27)) _ 3 _ _ g3
  have HG3 := Lib.hid g3
  have HC3 := Lib.hid c3
  have HQ3 := Lib.hid q3
  clear oc oo hap heq c1 g1 l1 c2 g2 b2 l2 hb3 g3 c3 q3
  cases hok : (pQ P).isSome with
  | false =>
    have HF : Hid (ans = (q0D, false)) := Lib.hid (HREJ.out (fun q hq => by rw [hq] at hok; exact Bool.noConfusion hok))
    clear hok HREJ HACC
    go_wp2
    generalize (w2.alloc (.cells #[.int .i64 n0, .int .i64 n1, .slice ca cs.length ccap, .slice oa os.length ocap] 27)) = W5 at *
    have r1 := heap_setCell_same W5 (w.heap.size) 0 _ _ (.int .i64 0) HG3.out
    have r2 := heap_setCell_same _ (w.heap.size) 1 _ _ (.int .i64 0) r1
    have r3 := heap_setCell_same _ (w.heap.size) 2 _ _ (.slice none 0 0) r2
    have r4 := heap_setCell_same _ (w.heap.size) 3 _ _ (.slice none 0 0) r3
    have B6 := ((((HC3.out.setCell (p := ⟨w.heap.size, 0, none⟩) (Nat.le_refl _) (.int .i64 0)).setCell (p := ⟨w.heap.size, 1, none⟩) (Nat.le_refl _) (.int .i64 0)).setCell (p := ⟨w.heap.size, 2, none⟩) (Nat.le_refl _) (.slice none 0 0)).setCell (p := ⟨w.heap.size, 3, none⟩) (Nat.le_refl _) (.slice none 0 0))
    have e0 := cell_of_row _ _ 0 _ _ _ r4
    have e1 := cell_of_row _ _ 1 _ _ _ r4
    have e2 := cell_of_row _ _ 2 _ _ _ r4
    have e3 := cell_of_row _ _ 3 _ _ _ r4
    simp at e0 e1 e2 e3
    refine bodyPost_ret (v := .tuple #[qV 0 0 (.slice none 0 0) (.slice none 0 0), .bool false]) ?_ rfl ?_
    · simp [results, Tryz.f12, go_sem, e0, e1, e2, e3, qV]
    · exact parAnsQ_no HF.out B6
  | true =>
    obtain ⟨q, hq⟩ := Option.isSome_iff_exists.1 hok
    have hqe := HEQ.out q hq
    subst hqe
    have HI := Lib.hid (fun w h g => implIsQuery n0 n1 (.slice ca cs.length ccap) (.slice oa os.length ocap) cs os w h hcl g hol)
    cases hqb : queryB n0 n1 cs os with
    | false =>
      have HF : Hid (ans = (q0D, false)) := Lib.hid (HREJ.out (fun q' hq' => by rw [hq] at hq'; have := Option.some.inj hq'; subst this; exact hqb))
      rw [hqb] at HI
      clear hok hq hqb HREJ HACC HEQ hcl hol
      go_wp2_with fail
      generalize (w2.alloc (.cells #[.int .i64 n0, .int .i64 n1, .slice ca cs.length ccap, .slice oa os.length ocap] 27)) = W5 at *
      refine (HI.out _ (ownsC_conds HOC.out) (ownsN_ints HOO.out)).mono ?_
      rintro e w6 ⟨rfl, b6⟩
      have c6 := HC3.out.trans (b6.mono HC3.out.size)
      have g6 := (b6.block w.heap.size (Array.getElem?_eq_some_iff.1 HG3.out).1).trans HG3.out
      clear y0 y1 y2 y3 z0 z1 z2 z3 f0 f1 f2 f3
      have z0 := (cell_of_row w6 _ 0 _ _ _ g6).trans (show _ = some (Value.int .i64 0) from rfl)
      have f0 := frozen_of_row w6 _ 0 _ _ g6
      have z1 := (cell_of_row w6 _ 1 _ _ _ g6).trans (show _ = some (Value.int .i64 0) from rfl)
      have f1 := frozen_of_row w6 _ 1 _ _ g6
      have z2 := (cell_of_row w6 _ 2 _ _ _ g6).trans (show _ = some (Value.slice none 0 0) from rfl)
      have f2 := frozen_of_row w6 _ 2 _ _ g6
      have z3 := (cell_of_row w6 _ 3 _ _ _ g6).trans (show _ = some (Value.slice none 0 0) from rfl)
      have f3 := frozen_of_row w6 _ 3 _ _ g6
      have HG6 := Lib.hid g6
      have HC6 := Lib.hid c6
      clear g6 c6 b6
      go_wp2
      have r1 := heap_setCell_same w6 (w.heap.size) 0 _ _ (.int .i64 0) HG6.out
      have r2 := heap_setCell_same _ (w.heap.size) 1 _ _ (.int .i64 0) r1
      have r3 := heap_setCell_same _ (w.heap.size) 2 _ _ (.slice none 0 0) r2
      have r4 := heap_setCell_same _ (w.heap.size) 3 _ _ (.slice none 0 0) r3
      have B6 := ((((HC6.out.setCell (p := ⟨w.heap.size, 0, none⟩) (Nat.le_refl _) (.int .i64 0)).setCell (p := ⟨w.heap.size, 1, none⟩) (Nat.le_refl _) (.int .i64 0)).setCell (p := ⟨w.heap.size, 2, none⟩) (Nat.le_refl _) (.slice none 0 0)).setCell (p := ⟨w.heap.size, 3, none⟩) (Nat.le_refl _) (.slice none 0 0))
      have e0 := cell_of_row _ _ 0 _ _ _ r4
      have e1 := cell_of_row _ _ 1 _ _ _ r4
      have e2 := cell_of_row _ _ 2 _ _ _ r4
      have e3 := cell_of_row _ _ 3 _ _ _ r4
      simp at e0 e1 e2 e3
      refine bodyPost_ret (v := .tuple #[qV 0 0 (.slice none 0 0) (.slice none 0 0), .bool false]) ?_ rfl ?_
      · simp [results, Tryz.f12, go_sem, e0, e1, e2, e3, qV]
      · exact parAnsQ_no HF.out B6
    | true =>
      have HF : Hid (ans = ((n0, n1, cs, os), true)) := Lib.hid (HACC.out _ hq hqb)
      rw [hqb] at HI
      clear hok hq hqb HREJ HACC HEQ hcl hol
      go_wp2_with fail
      generalize (w2.alloc (.cells #[.int .i64 n0, .int .i64 n1, .slice ca cs.length ccap, .slice oa os.length ocap] 27)) = W5 at *
      refine (HI.out _ (ownsC_conds HOC.out) (ownsN_ints HOO.out)).mono ?_
      rintro e w6 ⟨rfl, b6⟩
      have c6 := HC3.out.trans (b6.mono HC3.out.size)
      have g6 := (b6.block w.heap.size (Array.getElem?_eq_some_iff.1 HG3.out).1).trans HG3.out
      have k6 := (b6.block w2.heap.size (Array.getElem?_eq_some_iff.1 HQ3.out).1).trans HQ3.out
      have HO6 := Lib.hid (ownsC_below HOC.out b6)
      have HN6 := Lib.hid (ownsN_below HOO.out b6)
      clear y0 y1 y2 y3 z0 z1 z2 z3 f0 f1 f2 f3
      have z0 := (cell_of_row w6 _ 0 _ _ _ g6).trans (show _ = some (Value.int .i64 0) from rfl)
      have f0 := frozen_of_row w6 _ 0 _ _ g6
      have z1 := (cell_of_row w6 _ 1 _ _ _ g6).trans (show _ = some (Value.int .i64 0) from rfl)
      have f1 := frozen_of_row w6 _ 1 _ _ g6
      have z2 := (cell_of_row w6 _ 2 _ _ _ g6).trans (show _ = some (Value.slice none 0 0) from rfl)
      have f2 := frozen_of_row w6 _ 2 _ _ g6
      have z3 := (cell_of_row w6 _ 3 _ _ _ g6).trans (show _ = some (Value.slice none 0 0) from rfl)
      have f3 := frozen_of_row w6 _ 3 _ _ g6
      have y0 := (cell_of_row w6 _ 0 _ _ _ k6).trans (show _ = some (Value.int .i64 n0) from rfl)
      have y1 := (cell_of_row w6 _ 1 _ _ _ k6).trans (show _ = some (Value.int .i64 n1) from rfl)
      have y2 := (cell_of_row w6 _ 2 _ _ _ k6).trans (show _ = some (Value.slice ca cs.length ccap) from rfl)
      have y3 := (cell_of_row w6 _ 3 _ _ _ k6).trans (show _ = some (Value.slice oa os.length ocap) from rfl)
      have HG6 := Lib.hid g6
      have HC6 := Lib.hid c6
      clear g6 c6 b6 k6
      go_wp2
      have r1 := heap_setCell_same w6 (w.heap.size) 0 _ _ (.int .i64 n0) HG6.out
      have r2 := heap_setCell_same _ (w.heap.size) 1 _ _ (.int .i64 n1) r1
      have r3 := heap_setCell_same _ (w.heap.size) 2 _ _ (.slice ca cs.length ccap) r2
      have r4 := heap_setCell_same _ (w.heap.size) 3 _ _ (.slice oa os.length ocap) r3
      have B6 := ((((HC6.out.setCell (p := ⟨w.heap.size, 0, none⟩) (Nat.le_refl _) (.int .i64 n0)).setCell (p := ⟨w.heap.size, 1, none⟩) (Nat.le_refl _) (.int .i64 n1)).setCell (p := ⟨w.heap.size, 2, none⟩) (Nat.le_refl _) (.slice ca cs.length ccap)).setCell (p := ⟨w.heap.size, 3, none⟩) (Nat.le_refl _) (.slice oa os.length ocap))
      have O6 := (ownsC_low (ownsC_low (ownsC_low (ownsC_low HO6.out (b := w.heap.size) L1.out 0 (.int .i64 n0)) (b := w.heap.size) L1.out 1 (.int .i64 n1)) (b := w.heap.size) L1.out 2 (.slice ca cs.length ccap)) (b := w.heap.size) L1.out 3 (.slice oa os.length ocap))
      have N6 := (ownsN_low (ownsN_low (ownsN_low (ownsN_low HN6.out (b := w.heap.size) L1.out 0 (.int .i64 n0)) (b := w.heap.size) L1.out 1 (.int .i64 n1)) (b := w.heap.size) L1.out 2 (.slice ca cs.length ccap)) (b := w.heap.size) L1.out 3 (.slice oa os.length ocap))
      have e0 := cell_of_row _ _ 0 _ _ _ r4
      have e1 := cell_of_row _ _ 1 _ _ _ r4
      have e2 := cell_of_row _ _ 2 _ _ _ r4
      have e3 := cell_of_row _ _ 3 _ _ _ r4
      simp at e0 e1 e2 e3
      refine bodyPost_ret (v := .tuple #[qV n0 n1 (.slice ca cs.length ccap) (.slice oa os.length ocap), .bool true]) ?_ rfl ?_
      · simp [results, Tryz.f12, go_sem, e0, e1, e2, e3, qV]
      · exact parAnsQ_yes HF.out (ownsC_up O6 (Nat.le_of_lt L1.out)) (ownsN_up N6 (Nat.le_of_lt L1.out)) HAP.out B6
end Go.Proofs.YtijfnabglblimaaGreatDoor
namespace Go.Proofs.YtijfnabglblimaaGreatDoor
open Go.RowKit
set_option linter.unusedVariables false
set_option linter.unusedSimpArgs false
set_option maxHeartbeats 8000000 in
set_option maxRecDepth 100000 in
theorem equalFunc_any (v u : Value) (rs ss : List RowD) (w : World) (h : RowsR w v rs) (g : RowsR w u ss) (hs : szL rs ≤ 1048576) (ht : szL ss ≤ 1048576) :
    Calls Tryz.prog 46 #[v, u, .func (.func 47) #[] #[]] w fun e w' => e = .returned (.bool (decide (rs = ss))) ∧ Below w.heap.size w w' := by
  have H := Lib.hid h
  have G := Lib.hid g
  have HS := Lib.hid hs
  have HT := Lib.hid ht
  have hlen := szL_len hs
  have hlen2 := szL_len ht
  obtain ⟨a, cap, rfl⟩ := rowsR_len h
  obtain ⟨a2, cap2, rfl⟩ := rowsR_len g
  clear h g hs ht
  by_cases hl : rs.length = ss.length
  · have HL := Lib.hid hl
    have hne : ((rs.length : Int) != (ss.length : Int)) = false := by rw [hl]; simp
    clear hl
    go_enter Tryz.func46, Tryz.ntmps46
    go_wp2
    clear hne
    go_loopw [17] (fun i wr => ∃ k : Nat, k ≤ rs.length ∧ i = .int .i64 k ∧ Hid (∀ j, j < k → rs.getD j (0, []) = ss.getD j (0, [])) ∧ Below w.heap.size w wr) (fun i _ => rs.length - (intOf i).toNat)
    case atStart => exact ⟨0, Nat.zero_le _, rfl, Lib.hid (fun j hj => by omega), Below.refl _ _⟩
    case round =>
      obtain ⟨k, hk, rfl, hall, hbel⟩ := hrel
      by_cases hlt : k < rs.length
      · have hlt2 : k < ss.length := by have := HL.out; omega
        obtain ⟨b, off, cap', vv, hv, hbl, hc1, hc2, hI⟩ := rowsR_at (rowsR_below H.out hbel) hlt
        simp only [Value.slice.injEq] at hv
        obtain ⟨rfl, _, rfl⟩ := hv
        obtain ⟨b2, off2, cap2', uv, hv2, hbl2, hd1, hd2, hJ⟩ := rowsR_at (rowsR_below G.out hbel) hlt2
        simp only [Value.slice.injEq] at hv2
        obtain ⟨rfl, _, rfl⟩ := hv2
        have hxl := szL_row HS.out hlt
        have hyl := szL_row HT.out hlt2
        have i1 : (0 : Int) ≤ (k : Int) := by omega
        have i2 : (k : Int) < (rs.length : Int) := by omega
        have i3 : (k : Int) < (ss.length : Int) := by omega
        have HNE := Lib.hid (fun e => decide_eq_false (rows_ne_at (rs := rs) (ss := ss) (k := k) e))
        have HALL : Hid (rs.getD k (0, []) = ss.getD k (0, []) → ∀ j, j < k + 1 → rs.getD j (0, []) = ss.getD j (0, [])) := Lib.hid (fun he j hj => by
          by_cases e : j = k
          · exact e ▸ he
          · exact hall.out j (by omega))
        clear hall
        generalize rs.getD k (0, []) = r at *
        generalize ss.getD k (0, []) = q at *
        obtain ⟨id, xs⟩ := r
        obtain ⟨id2, ys⟩ := q
        simp only at hc1 hc2 hd1 hd2 hI hJ hxl hyl
        obtain ⟨va, vcap, rfl⟩ := ints_len hI
        obtain ⟨ua, ucap, rfl⟩ := ints_len hJ
        have HSM := Lib.hid (fun w h g => equalRow_any id id2 (.slice va xs.length vcap) (.slice ua ys.length ucap) xs ys w h g hxl hyl)
        have bb := ((Below.refl wr.heap.size wr).alloc (Nat.le_refl _) (.cells #[.int .i64 id, .slice va xs.length vcap] 36)).alloc (by simp) (.cells #[.int .i64 id2, .slice ua ys.length ucap] 36)
        have hd1' := ((Below.refl wr.heap.size wr).alloc (Nat.le_refl _) (.cells #[.int .i64 id, .slice va xs.length vcap] 36)).cell (p := ⟨b2, off2 + k * 2, none⟩) hbl2
        have hd2' := ((Below.refl wr.heap.size wr).alloc (Nat.le_refl _) (.cells #[.int .i64 id, .slice va xs.length vcap] 36)).cell (p := ⟨b2, off2 + k * 2 + 1, none⟩) hbl2
        rw [hd1] at hd1'
        rw [hd2] at hd2'
        by_cases he : ((id, xs) : RowD) = (id2, ys)
        · have HA := Lib.hid (HALL.out he)
          rw [decide_eq_true he] at HSM
          clear he HNE HALL
          go_wp2_with fail
          refine (HSM.out _ (ints_below hI bb) (ints_below hJ bb)).mono ?_
          rintro e w8 ⟨rfl, b9⟩
          have b11 := hbel.trans ((bb.trans (b9.mono bb.size)).mono hbel.size)
          clear b9 bb hd1' hd2'
          go_wp2
          go_roundw
          case rel => exact ⟨k + 1, by omega, by go_num, HA, b11⟩
          case measure => simp [intOf]; omega
        · have HF := Lib.hid (HNE.out he)
          rw [decide_eq_false he] at HSM
          clear he HNE HALL
          go_wp2_with fail
          refine (HSM.out _ (ints_below hI bb) (ints_below hJ bb)).mono ?_
          rintro e w8 ⟨rfl, b9⟩
          have b11 := hbel.trans ((bb.trans (b9.mono bb.size)).mono hbel.size)
          clear b9 bb hd1' hd2'
          go_wp2
          go_ret
          exact ⟨ret_b HF.out.symm, b11⟩
      · obtain rfl : k = rs.length := by omega
        have HE := Lib.hid (decide_eq_true (rows_eq_all HL.out hall.out))
        clear hall
        go_wp2
        go_ret
        exact ⟨ret_b HE.out.symm, hbel⟩
  · have HF := Lib.hid (decide_eq_false (show ¬ rs = ss from fun e => hl (by rw [e])))
    have hne : ((rs.length : Int) != (ss.length : Int)) = true := by rw [bne_iff_ne]; omega
    clear hl
    go_enter Tryz.func46, Tryz.ntmps46
    go_wp2
    go_ret
    exact ⟨ret_b HF.out.symm, Below.refl _ _⟩
set_option maxHeartbeats 2000000 in
set_option maxRecDepth 100000 in
theorem implEqualRows (v u : Value) (rs ss : List RowD) (w : World) (h : RowsR w v rs) (g : RowsR w u ss) (hs : szL rs ≤ 1048576) (ht : szL ss ≤ 1048576) :
    Calls Tryz.prog 20 #[v, u] w fun e w' => e = .returned (.bool (decide (rs = ss))) ∧ Below w.heap.size w w' := by
  have H := Lib.hid (fun w h g => equalFunc_any v u rs ss w h g hs ht)
  have HV := Lib.hid h
  have HU := Lib.hid g
  clear h g hs ht
  generalize decide (rs = ss) = r at *
  go_enter Tryz.func20, Tryz.ntmps20
  go_wp2_with fail
  refine (H.out _ HV.out HU.out).mono ?_
  rintro e w1 ⟨rfl, b1⟩
  go_wp2
  go_ret
  exact ⟨rfl, b1⟩
end Go.Proofs.YtijfnabglblimaaGreatDoor
namespace Go.Proofs.YtijfnabglblimaaGreatDoor
open Go.RowKit
set_option linter.unusedVariables false
def tzL : List Int := Lib.deBruijn32tab.map fun n : Nat => (n : Int)
/-- The table of trailing zeros reads as its text lays it. -/
def TabZ (w : World) : Prop := Lib.TabIs Tryz.prog w "math/bits.deBruijn32tab" .u8 tzL
theorem TabZ.on {w w' : World} (h : TabZ w) (hb : Below w.heap.size w w') : TabZ w' := Lib.tabBelow_of_tabIs h w' hb
end Go.Proofs.YtijfnabglblimaaGreatDoor
namespace Go.Proofs.YtijfnabglblimaaGreatDoor
theorem wrap_laid_shaped {H : Type} {enc : TypeId × Value → H} {a : Assume} {C : Checked} {os : Os} {f : FuncId} {fn : Func} {s : ChangeSpec} {conds : List PathCond} {apart fresh handsOn again : Bool} {X : World → Array Value → Prop}
    (hX : ∀ (w w' : World) (args : Array Value), w.heap = w'.heap → X w args → X w' args)
    (own : ownKnob C.prog.godebug = none) (started : os.Started) (noInit : C.prog.inits.idxOf? f = none) (hfn : C.prog.funcs[f]? = some fn)
    (witness : ∃ (w : World) (tape : Tape) (i : Input), w.os = os ∧ (w.forCall tape i).Shaped C.prog ∧ i.vars = [] ∧ Input.okWide C.prog (w.forCall tape i) .any w.heap.size f i ∧
      ((s.pre enc C.prog fn conds apart (w.forCall tape i).memory i.args ∧ X (w.forCall tape i).memory i.args) ∧ sizedMet enc C.prog fn (OpenSpec.ofChange s) apart (w.forCall tape i).memory i.args) ∧ a.holds C.prog (lone (Frame.enter C.prog f i.args .normal) [] (w.forCall tape i)))
    (walk : ∀ (W : World) (base : Nat) (args : Array Value) (ds gs : List (DataW H)) (before : List MemPlace), W.ShapedOpen C.prog →
      (∀ (j : Nat) t v, fn.params[j]? = some t → args[j]? = some v → Value.okWide C.prog W .any base t v) →
      DataW.Whole enc C.prog fn.params.toList s.vars apart W args.toList ds gs before →
      conds.all (PathCond.test C.prog ⟨fn.params.toList, ds, s.plain.varTypes C.prog, gs⟩) = true →
      (DataW.weightsEach C.prog (fn.params.toList ++ s.plain.varTypes C.prog) (ds ++ gs)).all (· ≤ reachBytes) = true → X W args →
      a.holds C.prog (lone (Frame.enter C.prog f args .normal) [] W) →
      Calls C.prog f args W fun e W' => ∃ v, e = .returned v ∧ s.post enc C.prog fn apart fresh handsOn again W args v W') :
    ReturnsInHanded a C os f .any (fun w args => (s.pre enc C.prog fn conds apart w args ∧ X w args) ∧ sizedMet enc C.prog fn (OpenSpec.ofChange s) apart w args) (s.post enc C.prog fn apart fresh handsOn again) :=
  returnsInHanded_of_calls own started noInit witness fun w tape i _ shape _ hok hpre hh => by
    obtain ⟨_, _, _, fn2, h2, _, _, _, _, hval⟩ := hok
    obtain rfl : fn2 = fn := Option.some.inj (h2.symm.trans hfn)
    obtain ⟨⟨⟨ds, gs, before, whole, hc⟩, hx⟩, sized⟩ := hpre
    refine (walk (w.forCall tape i) w.heap.size i.args ds gs before shape hval (DataW.Whole.of_heap (w' := w.forCall tape i) (by rfl) whole) hc (sized.weights whole) (hX _ _ _ (by rfl) hx) hh).mono fun e W' ⟨v, he, hp⟩ => ?_
    subst he
    exact ChangeSpec.post_blind hp
end Go.Proofs.YtijfnabglblimaaGreatDoor
namespace Go.Proofs.YtijfnabglblimaaGreatDoor
open Go.RowKit
set_option linter.unusedVariables false
/-- The slice v reads as the bytes xs. -/
def Code (w : World) (v : Value) (xs : List Int) : Prop :=
  (xs = [] ∧ ∃ a cap, v = .slice a 0 cap) ∨ ∃ b off cap, v = .slice (some ⟨b, off, none⟩) xs.length cap ∧ xs.length ≤ cap ∧ b < w.heap.size ∧ ∀ j, j < xs.length → w.cell? ⟨b, off + j, none⟩ = some (.int .u8 (xs.getD j 0))
/-- The cursor in block c over the bytes. -/
structure Cur (w0 : World) (c : Nat) (v : Value) (xs : List Int) (w : World) : Prop where
  code : Code w0 v xs
  small : xs.length ≤ 1048576
  bytes : ∀ x ∈ xs, 0 ≤ x ∧ x ≤ 255
  new : w0.heap.size ≤ c
  cells : ∃ i : Nat, ∃ h : Int, i ≤ xs.length ∧ w.heap[c]? = some (.cells #[v, .int .i64 i, .int .i64 h] 76 (0, 0))
  old : Below w0.heap.size w0 w
theorem and255 (z : Int) : 0 ≤ bits .and .i64 z 255 ∧ bits .and .i64 z 255 ≤ 255 := by
  have h : (BitVec.ofInt 64 z &&& BitVec.ofInt 64 255).toNat ≤ 255 := by
    rw [BitVec.toNat_and]
    exact Nat.le_trans Nat.and_le_right (by decide)
  have e : bits .and .i64 z 255 = IntKind.i64.wrap (((BitVec.ofInt 64 z &&& BitVec.ofInt 64 255).toNat : Nat) : Int) := rfl
  rw [e, IntKind.wrap_i64]
  omega
/-- What one byte leaves. -/
def Drawn (w0 : World) (c : Nat) (v : Value) (xs : List Int) (w : World) (top : Int) (e : Ending) (w' : World) : Prop :=
  ∃ x : Int, 0 ≤ x ∧ x ≤ top ∧ e = .returned (.int .i64 x) ∧ Cur w0 c v xs w' ∧ w.grownBy w' (some c)
theorem grown_set2 {w : World} {c : Nat} {v : Value} {i h : Int} {T : TypeId} (hc : w.heap[c]? = some (.cells #[v, .int .i64 i, .int .i64 h] T (0, 0))) (h' : Int) :
    (w.setCell ⟨c, 2, none⟩ (.int .i64 h')).heap[c]? = some (.cells #[v, .int .i64 i, .int .i64 h'] T (0, 0)) := by
  rw [heap_setCell_same w c 2 _ T _ hc]; rfl
theorem grown_set1 {w : World} {c : Nat} {v : Value} {i h : Int} {T : TypeId} (hc : w.heap[c]? = some (.cells #[v, .int .i64 i, .int .i64 h] T (0, 0))) (i' : Int) :
    (w.setCell ⟨c, 1, none⟩ (.int .i64 i')).heap[c]? = some (.cells #[v, .int .i64 i', .int .i64 h] T (0, 0)) := by
  rw [heap_setCell_same w c 1 _ T _ hc]; rfl
theorem grownBy_setCell (w : World) (c j : Nat) (u : Value) : w.grownBy (w.setCell ⟨c, j, none⟩ u) (some c) :=
  ⟨rfl, rfl, rfl, by simp [World.setCell], fun k _ hk => heap_setCell_other w ⟨c, j, none⟩ k u (fun e => hk (by simp [e]))⟩
theorem below_like {B : Nat} {a w w' : World} (h : Below B a w) (h1 : w'.heap = w.heap) (h2 : w'.os = w.os) (h3 : w'.tape = w.tape) (h4 : w'.output = w.output) : Below B a w' :=
  ⟨h2.trans h.os, h3.trans h.tape, h4.trans h.output, by rw [h1]; exact h.size, fun k hk => by rw [h1]; exact h.block k hk⟩
theorem grown_like {a w w' : World} {r : Option Nat} (h : a.grownBy w r) (h1 : w'.heap = w.heap) (h2 : w'.os = w.os) (h3 : w'.tape = w.tape) (h4 : w'.output = w.output) : a.grownBy w' r :=
  ⟨h2.trans h.os, h3.trans h.tape, h4.trans h.output, by rw [h1]; exact h.size, fun k hk hn => by rw [h1]; exact h.block k hk hn⟩
theorem grown_chain {a b c : World} {r : Option Nat} (h : a.grownBy b r) (k : b.grownBy c r) : a.grownBy c r :=
  ⟨k.os.trans h.os, k.tape.trans h.tape, k.output.trans h.output, Nat.le_trans h.size k.size, fun i hi hne => (k.block i (Nat.lt_of_lt_of_le hi h.size) hne).trans (h.block i hi hne)⟩
set_option maxRecDepth 100000 in
theorem byte_any (w0 : World) (c : Nat) (v : Value) (xs : List Int) (w : World) (hC : Cur w0 c v xs w) :
    Calls Tryz.prog 84 #[.pointer (some ⟨c, 0, none⟩)] w (Drawn w0 c v xs w 255) := by
  obtain ⟨hcode, hsm, hby, hnew, ⟨i, h, hi, hc⟩, hold⟩ := hC
  have c0 := cell_of_row w c 0 _ _ _ hc
  have c1 := cell_of_row w c 1 _ _ _ hc
  have c2 := cell_of_row w c 2 _ _ _ hc
  have f1 := frozen_of_row w c 1 _ _ hc
  have f2 := frozen_of_row w c 2 _ _ hc
  simp at c0 c1 c2
  have HC := Lib.hid hc; clear hc
  by_cases hlt : i < xs.length
  · rcases hcode with ⟨rfl, _⟩ | ⟨b, off, cap, rfl, hcap, hbl, hb⟩
    · simp at hlt
    have hbi := hb i hlt
    have i1 : (0 : Int) ≤ (i : Int) := by omega
    have i2 : (i : Int) < (xs.length : Int) := by omega
    have HB := Lib.hid hb; clear hb
    have hcl := (Array.getElem?_eq_some_iff.1 HC.out).1
    have hcb : w.cell? ⟨b, off + i, none⟩ = some (.int .u8 (xs.getD i 0)) := (hold.cell hbl).trans hbi
    clear hbi
    generalize xs.getD i 0 = y at hcb
    go_enter Tryz.func84, Tryz.ntmps84
    go_wp2
    generalize wrap64 (wrap64 (h * 6364136223846793005) + 1442695040888963407) = g
    have hc2 := grown_set2 HC.out g
    have hg2 := grownBy_setCell w c 2 (.int .i64 g)
    have ho2 := hold.setCell (p := ⟨c, 2, none⟩) hnew (.int .i64 g)
    have hcb2 : (w.setCell ⟨c, 2, none⟩ (.int .i64 g)).cell? ⟨b, off + i, none⟩ = some (.int .u8 y) := by
      rw [World.cell?_of_block (w := w) (hg2.block b (by have := hold.size; omega) (by intro e; simp at e; omega))]; exact hcb
    generalize w.setCell ⟨c, 2, none⟩ (.int .i64 g) = w2 at *
    clear c0 c1 c2 f1 f2 hcb
    have c0 := cell_of_row w2 c 0 _ _ _ hc2
    have c1 := cell_of_row w2 c 1 _ _ _ hc2
    have c2 := cell_of_row w2 c 2 _ _ _ hc2
    have f1 := frozen_of_row w2 c 1 _ _ hc2
    simp at c0 c1 c2
    have HC2 := Lib.hid hc2; clear hc2
    go_quiet (fail)
    go_wp2
    go_quiet (fail)
    go_wp2
    go_quiet (fail)
    go_wp2
    go_ret
    refine ⟨_, (and255 _).1, (and255 _).2, rfl, ⟨Or.inr ⟨b, off, cap, rfl, hcap, hbl, HB.out⟩, hsm, hby, hnew, ⟨i + 1, g, by omega, ?_⟩, ?_⟩, grown_chain hg2 ?_⟩
    · exact grown_set1 HC2.out _
    · exact below_like (Below.setCell (w := w2) ho2 (p := ⟨c, 1, none⟩) hnew (.int .i64 ((i : Int) + 1))) rfl rfl rfl rfl
    · exact grown_like (grownBy_setCell w2 c 1 (.int .i64 ((i : Int) + 1))) rfl rfl rfl rfl
  · go_enter Tryz.func84, Tryz.ntmps84
    go_wp2
    generalize wrap64 (wrap64 (h * 6364136223846793005) + 1442695040888963407) = g
    have hc2 := grown_set2 HC.out g
    have hg2 := grownBy_setCell w c 2 (.int .i64 g)
    have ho2 := hold.setCell (p := ⟨c, 2, none⟩) hnew (.int .i64 g)
    generalize w.setCell ⟨c, 2, none⟩ (.int .i64 g) = w2 at *
    clear c0 c1 c2 f1 f2
    have c0 := cell_of_row w2 c 0 _ _ _ hc2
    have c1 := cell_of_row w2 c 1 _ _ _ hc2
    have c2 := cell_of_row w2 c 2 _ _ _ hc2
    have hlen : ∃ a cap, v = .slice a xs.length cap := by
      rcases hcode with ⟨rfl, a, cap, rfl⟩ | ⟨b, off, cap, rfl, _⟩
      · exact ⟨a, cap, rfl⟩
      · exact ⟨_, cap, rfl⟩
    obtain ⟨a, cap, rfl⟩ := hlen
    simp at c0 c1 c2
    have HC2 := Lib.hid hc2; clear hc2
    go_quiet (fail)
    go_wp2
    go_quiet (fail)
    go_wp2
    go_ret
    exact ⟨_, (and255 _).1, (and255 _).2, rfl, ⟨hcode, hsm, hby, hnew, ⟨i, g, hi, HC2.out⟩, below_like ho2 rfl rfl rfl rfl⟩, grown_like hg2 rfl rfl rfl rfl⟩
end Go.Proofs.YtijfnabglblimaaGreatDoor
namespace Go.Proofs.YtijfnabglblimaaGreatDoor
open Go.RowKit
set_option linter.unusedVariables false
theorem below_small (w0 : World) (c : Nat) (v : Value) (xs : List Int) (w : World) (hC : Cur w0 c v xs w) (n : Int) (h1 : 1 ≤ n) (h2 : n ≤ 256) :
    Calls Tryz.prog 52 #[.pointer (some ⟨c, 0, none⟩), .int .i64 n] w (Drawn w0 c v xs w (n - 1)) := by
  have hn : (n == 0) = false := by rw [beq_eq_false_iff_ne]; omega
  go_enter Tryz.func52, Tryz.ntmps52
  go_wp2_with (go_at_call 84; refine (byte_any _ _ _ _ _ (by assumption)).mono ?_; rintro e w1 ⟨x, x0, x1, rfl, hC1, hg1⟩)
  go_ret
  exact ⟨_, Int.emod_nonneg _ (by omega), by have := Int.emod_lt_of_pos x (show 0 < n by omega); omega, rfl, hC1, hg1⟩
theorem below_large (w0 : World) (c : Nat) (v : Value) (xs : List Int) (w : World) (hC : Cur w0 c v xs w) (n : Int) (h1 : 256 < n) (h2 : n ≤ 1000000000) :
    Calls Tryz.prog 52 #[.pointer (some ⟨c, 0, none⟩), .int .i64 n] w (Drawn w0 c v xs w (n - 1)) := by
  have hn : (n == 0) = false := by rw [beq_eq_false_iff_ne]; omega
  go_enter Tryz.func52, Tryz.ntmps52
  go_wp2_with fail
  refine (byte_any _ _ _ _ _ hC).mono ?_
  rintro e w1 ⟨x, x0, x1, rfl, hC1, hg1⟩
  go_wp2_with fail
  refine (byte_any _ _ _ _ _ hC1).mono ?_
  rintro e w2 ⟨y, y0, y1, rfl, hC2, hg2⟩
  go_wp2_with fail
  refine (byte_any _ _ _ _ _ hC2).mono ?_
  rintro e w3 ⟨z, z0, z1, rfl, hC3, hg3⟩
  go_wp2_with fail
  refine (byte_any _ _ _ _ _ hC3).mono ?_
  rintro e w4 ⟨t, t0, t1, rfl, hC4, hg4⟩
  go_wp2
  go_ret
  exact ⟨_, Int.emod_nonneg _ (by omega), by have := Int.emod_lt_of_pos (x * 16777216 + y * 65536 + z * 256 + t) (show 0 < n by omega); omega, rfl, hC4, grown_chain hg1 (grown_chain hg2 (grown_chain hg3 hg4))⟩
theorem below_any (w0 : World) (c : Nat) (v : Value) (xs : List Int) (w : World) (hC : Cur w0 c v xs w) (n : Int) (h1 : 1 ≤ n) (h2 : n ≤ 1000000000) :
    Calls Tryz.prog 52 #[.pointer (some ⟨c, 0, none⟩), .int .i64 n] w (Drawn w0 c v xs w (n - 1)) := by
  by_cases h : n ≤ 256
  · exact below_small w0 c v xs w hC n h1 h
  · exact below_large w0 c v xs w hC n (by omega) h2
/-- A number between lo and hi is drawn. -/
def DrawnIn (w0 : World) (c : Nat) (v : Value) (xs : List Int) (w : World) (lo hi : Int) (e : Ending) (w' : World) : Prop :=
  ∃ x : Int, lo ≤ x ∧ x ≤ hi ∧ e = .returned (.int .i64 x) ∧ Cur w0 c v xs w' ∧ w.grownBy w' (some c)
theorem pick_any (w0 : World) (c : Nat) (v : Value) (xs : List Int) (w : World) (hC : Cur w0 c v xs w) (g : Nat) (L : List Int) (lo hi : Int) (hL : ∀ x ∈ L, lo ≤ x ∧ x ≤ hi) (h1 : 1 ≤ L.length) (h2 : L.length ≤ 256)
    (hg : w.heap[g]? = some (.cells (L.map (Value.int .i64)).toArray 3 (0, 0))) (hne : g ≠ c) :
    Calls Tryz.prog 53 #[.pointer (some ⟨c, 0, none⟩), .slice (some ⟨g, 0, none⟩) L.length L.length] w (DrawnIn w0 c v xs w lo hi) := by
  have HL := Lib.hid hL; clear hL
  have HG := Lib.hid hg; clear hg
  go_enter Tryz.func53, Tryz.ntmps53
  go_wp2_with fail
  refine (below_any w0 c v xs _ hC L.length (by omega) (by omega)).mono ?_
  rintro e w1 ⟨x, x0, x1, rfl, hC1, hg1⟩
  obtain ⟨k, rfl⟩ := Int.eq_ofNat_of_zero_le x0
  have hk : k < L.length := by omega
  have hcell : w1.cell? ⟨g, k, none⟩ = some (.int .i64 L[k]) := by
    have hgl := (Array.getElem?_eq_some_iff.1 HG.out).1
    have := cell_of_row w1 g k _ _ _ ((hg1.block g hgl (by intro e; simp at e; exact hne e)).trans HG.out)
    rw [this]; simp [hk]
  have hm := HL.out L[k] (List.getElem_mem hk)
  obtain ⟨m0, m1⟩ := hm
  generalize L[k] = y at hcell m0 m1
  go_wp2
  go_ret
  exact ⟨y, m0, m1, rfl, hC1, hg1⟩
theorem cur_alloc {w0 : World} {c : Nat} {v : Value} {xs : List Int} {w : World} (h : Cur w0 c v xs w) (o : Obj) : Cur w0 c v xs (w.alloc o) := by
  obtain ⟨h1, h2, h3, h4, ⟨i, hh, h5, h6⟩, h7⟩ := h
  refine ⟨h1, h2, h3, h4, ⟨i, hh, h5, ?_⟩, h7.alloc h7.size o⟩
  rw [Below.heap_alloc w o c (Array.getElem?_eq_some_iff.1 h6).1]; exact h6
theorem cur_lt {w0 : World} {c : Nat} {v : Value} {xs : List Int} {w : World} (h : Cur w0 c v xs w) : c < w.heap.size := by
  obtain ⟨_, _, _, _, ⟨i, hh, h5, h6⟩, _⟩ := h
  exact (Array.getElem?_eq_some_iff.1 h6).1
theorem cur_below {w0 : World} {c : Nat} {v : Value} {xs : List Int} {w w' : World} {B : Nat} (h : Cur w0 c v xs w) (hc : c < B) (h0 : w0.heap.size ≤ B) (hb : Below B w w') : Cur w0 c v xs w' := by
  obtain ⟨h1, h2, h3, h4, ⟨i, hh, h5, h6⟩, h7⟩ := h
  exact ⟨h1, h2, h3, h4, ⟨i, hh, h5, (hb.block c hc).trans h6⟩, h7.trans (hb.mono h0)⟩
theorem grown_below {a b b' : World} {c : Nat} (h : a.grownBy b (some c)) (hb : Below a.heap.size b b') : a.grownBy b' (some c) :=
  ⟨hb.os.trans h.os, hb.tape.trans h.tape, hb.output.trans h.output, Nat.le_trans h.size hb.size, fun k hk hn => (hb.block k hk).trans (h.block k hk hn)⟩
end Go.Proofs.YtijfnabglblimaaGreatDoor
namespace Go.Proofs.YtijfnabglblimaaGreatDoor
open Go.RowKit
set_option linter.unusedVariables false
theorem code_below {W w : World} {v : Value} {xs : List Int} (h : Code W v xs) (hb : Below W.heap.size W w) : Code w v xs := by
  rcases h with h | ⟨b, off, cap, h1, h2, h3, h4⟩
  · exact Or.inl h
  · exact Or.inr ⟨b, off, cap, h1, h2, Nat.lt_of_lt_of_le h3 hb.size, fun j hj => (hb.cell (p := ⟨b, off + j, none⟩) h3).trans (h4 j hj)⟩
/-- A new cursor. -/
def NewCur (v : Value) (xs : List Int) (w : World) (e : Ending) (w' : World) : Prop :=
  e = .returned (.pointer (some ⟨w.heap.size, 0, none⟩)) ∧ Cur w w.heap.size v xs w'
set_option maxRecDepth 100000 in
theorem new_any (v : Value) (xs : List Int) (w : World) (hcode : Code w v xs) (hsm : xs.length ≤ 1048576) (hby : ∀ x ∈ xs, 0 ≤ x ∧ x ≤ 255) :
    Calls Tryz.prog 22 #[v] w (NewCur v xs w) := by
  have HCODE := Lib.hid hcode
  have HBY := Lib.hid hby; clear hby
  rcases hcode with ⟨rfl, ao, cap, rfl⟩ | ⟨b, off, cap, rfl, hcap, hbl, hb⟩
  · go_enter Tryz.func22, Tryz.ntmps22
    go_wp2
    go_loop [3, 4] (fun h i => ∃ z : Int, i = .int .i64 0 ∧ h = .int .i64 z) (fun _ _ => 0)
    case atStart => exact ⟨_, rfl, rfl⟩
    case round =>
      obtain ⟨z, rfl, rfl⟩ := hrel
      go_wp2
      go_ret
      exact ⟨rfl, HCODE.out, hsm, HBY.out, Nat.le_refl _, ⟨0, _, Nat.le_refl _, heap_alloc_new w _⟩, (Below.refl _ _).alloc (Nat.le_refl _) _⟩
  · have HB := Lib.hid hb; clear hb
    go_enter Tryz.func22, Tryz.ntmps22
    go_wp2
    go_loop [3, 4] (fun h i => ∃ k : Nat, ∃ z : Int, k ≤ xs.length ∧ k ≤ 4000 ∧ i = .int .i64 k ∧ h = .int .i64 z) (fun _ i => 4000 - (intOf i).toNat)
    case atStart => exact ⟨0, _, by omega, by omega, rfl, rfl⟩
    case round =>
      obtain ⟨k, z, hk, hk4, rfl, rfl⟩ := hrel
      by_cases hlt : k < xs.length
      · by_cases h4 : k < 4000
        · have hcell := HB.out k hlt
          have i1 : (0 : Int) ≤ (k : Int) := by omega
          have i2 : (k : Int) < (xs.length : Int) := by omega
          generalize xs.getD k 0 = y at hcell
          go_wp2
          go_round
          case rel => exact ⟨k + 1, _, by omega, by omega, by go_num, rfl⟩
          case measure => simp [intOf]; omega
        · go_wp2
          go_ret
          exact ⟨rfl, HCODE.out, hsm, HBY.out, Nat.le_refl _, ⟨0, _, Nat.zero_le _, heap_alloc_new w _⟩, (Below.refl _ _).alloc (Nat.le_refl _) _⟩
      · have hge : ¬ ((k : Int) < (xs.length : Int)) := by omega
        go_wp2
        go_ret
        exact ⟨rfl, HCODE.out, hsm, HBY.out, Nat.le_refl _, ⟨0, _, Nat.zero_le _, heap_alloc_new w _⟩, (Below.refl _ _).alloc (Nat.le_refl _) _⟩
end Go.Proofs.YtijfnabglblimaaGreatDoor
namespace Go.Proofs.YtijfnabglblimaaGreatDoor
open Go.RowKit
set_option linter.unusedVariables false
theorem ownsN_grown {w w' : World} {B c : Nat} {v : Value} {xs : List Int} (h : OwnsN w B v xs) (hg : w.grownBy w' (some c)) (hc : c < B) : OwnsN w' B v xs := by
  refine h.kept hg ?_
  cases hv : v.ownBlock with
  | none => exact Or.inl rfl
  | some k => exact Or.inr (by intro e; have := (h.lt k hv).1; simp at e; omega)
/-- A choice is drawn. -/
def DrawnBool (w0 : World) (c : Nat) (v : Value) (xs : List Int) (w : World) (e : Ending) (w' : World) : Prop :=
  (∃ b : Bool, e = .returned (.bool b)) ∧ Cur w0 c v xs w' ∧ w.grownBy w' (some c)
set_option maxRecDepth 100000 in
theorem once_any (w0 : World) (c : Nat) (v : Value) (xs : List Int) (w : World) (hC : Cur w0 c v xs w) (n : Int) (h1 : 1 ≤ n) (h2 : n ≤ 256) :
    Calls Tryz.prog 55 #[.pointer (some ⟨c, 0, none⟩), .int .i64 n] w (DrawnBool w0 c v xs w) := by
  go_enter Tryz.func55, Tryz.ntmps55
  go_wp2_with fail
  refine (below_any w0 c v xs _ hC n h1 (by omega)).mono ?_
  rintro e w1 ⟨x, x0, x1, rfl, hC1, hg1⟩
  go_wp2
  go_ret
  exact ⟨⟨_, rfl⟩, hC1, hg1⟩
/-- Two lists are drawn. -/
def Two (w : World) (e : Ending) (w' : World) : Prop :=
  ∃ (u t : Value) (a b : List Int), a.length ≤ 7 ∧ b.length ≤ 7 ∧ e = .returned (.tuple #[u, t]) ∧ OwnsN w' w.heap.size u a ∧ OwnsN w' w.heap.size t b ∧ Below w.heap.size w w'
end Go.Proofs.YtijfnabglblimaaGreatDoor
namespace Go.Proofs.YtijfnabglblimaaGreatDoor
open Go.RowKit
set_option linter.unusedVariables false
set_option linter.unusedSimpArgs false
/-- The cursor goes on from w to wr; of what was there only the cursor turned. -/
structure Dr (w0 : World) (c : Nat) (v : Value) (xs : List Int) (w wr : World) : Prop where
  cur : Cur w0 c v xs wr
  gr : w.grownBy wr (some c)
  lt : c < w.heap.size
  low : w0.heap.size ≤ w.heap.size
theorem grownBy_refl (w : World) (r : Option Nat) : w.grownBy w r := ⟨rfl, rfl, rfl, Nat.le_refl _, fun _ _ _ => rfl⟩
theorem Dr.start {w0 : World} {c : Nat} {v : Value} {xs : List Int} {w : World} (h : Cur w0 c v xs w) : Dr w0 c v xs w w := ⟨h, grownBy_refl _ _, cur_lt h, h.old.size⟩
theorem Dr.alloc {w0 : World} {c : Nat} {v : Value} {xs : List Int} {w wr : World} (h : Dr w0 c v xs w wr) (o : Obj) : Dr w0 c v xs w (wr.alloc o) := ⟨cur_alloc h.cur o, grown_chain h.gr (World.grownBy_alloc wr o _), h.lt, h.low⟩
theorem Dr.call {w0 : World} {c : Nat} {v : Value} {xs : List Int} {w wr w' : World} (h : Dr w0 c v xs w wr) (hC : Cur w0 c v xs w') (hg : wr.grownBy w' (some c)) : Dr w0 c v xs w w' := ⟨hC, grown_chain h.gr hg, h.lt, h.low⟩
theorem Dr.below {w0 : World} {c : Nat} {v : Value} {xs : List Int} {w wr w' : World} {B : Nat} (h : Dr w0 c v xs w wr) (hb : Below B wr w') (hB : w.heap.size ≤ B) : Dr w0 c v xs w w' :=
  ⟨cur_below h.cur (Nat.lt_of_lt_of_le h.lt hB) (Nat.le_trans h.low hB) hb, grown_below h.gr (hb.mono hB), h.lt, h.low⟩
theorem Dr.set {w0 : World} {c : Nat} {v : Value} {xs : List Int} {w wr : World} (h : Dr w0 c v xs w wr) {R : Nat} (hR : w.heap.size ≤ R) (j : Nat) (u : Value) : Dr w0 c v xs w (wr.setCell ⟨R, j, none⟩ u) :=
  h.below ((Below.refl w.heap.size wr).setCell (p := ⟨R, j, none⟩) hR u) (Nat.le_refl _)
theorem Dr.size {w0 : World} {c : Nat} {v : Value} {xs : List Int} {w wr : World} (h : Dr w0 c v xs w wr) : w.heap.size ≤ wr.heap.size := h.gr.size
theorem Dr.ne {w0 : World} {c : Nat} {v : Value} {xs : List Int} {w wr : World} (h : Dr w0 c v xs w wr) {R : Nat} (hR : w.heap.size ≤ R) : R ≠ c := by have := h.lt; omega
/-- What the cursor's turning leaves alone. -/
theorem keep {w w' : World} {c k : Nat} {o : Obj} (hg : w.grownBy w' (some c)) (hne : k ≠ c) (h : w.heap[k]? = some o) : w'.heap[k]? = some o := (hg.block k (Array.getElem?_eq_some_iff.1 h).1 (fun e => hne (Option.some.inj e))).trans h
theorem keepA {w : World} {k : Nat} {o : Obj} (x : Obj) (h : w.heap[k]? = some o) : (w.alloc x).heap[k]? = some o := (Below.heap_alloc _ _ _ (Array.getElem?_eq_some_iff.1 h).1).trans h
theorem keepB {w w' : World} {B k : Nat} {o : Obj} (hb : Below B w w') (hk : k < B) (h : w.heap[k]? = some o) : w'.heap[k]? = some o := (hb.block k hk).trans h
def wides : List Int := [3, 6, 100]
theorem wides_in : ∀ x ∈ wides, 3 ≤ x ∧ x ≤ 100 := by decide
/-- A row is drawn, in new memory. -/
def DrawnRow (w0 : World) (c : Nat) (v : Value) (xs : List Int) (w : World) (e : Ending) (w' : World) : Prop :=
  ∃ (id : Int) (u : Value) (ys : List Int), e = .returned (.agg #[.int .i64 id, u]) ∧ OwnsN w' w.heap.size u ys ∧ ys.length ≤ 4 ∧ Dr w0 c v xs w w'
def DrawnRow3 (w0 : World) (c : Nat) (v : Value) (xs : List Int) (w : World) (e : Ending) (w' : World) : Prop :=
  ∃ (id : Int) (u : Value) (ys : List Int), e = .returned (.agg #[.int .i64 id, u]) ∧ OwnsN w' w.heap.size u ys ∧ ys.length = 3 ∧ Dr w0 c v xs w w'
set_option maxHeartbeats 4000000 in
set_option maxRecDepth 100000 in
theorem row_any (w0 : World) (c : Nat) (v : Value) (xs : List Int) (w : World) (hC : Cur w0 c v xs w) (id : Int) :
    Calls Tryz.prog 72 #[.pointer (some ⟨c, 0, none⟩), .int .i64 id] w (DrawnRow3 w0 c v xs w) := by
  have hD := (((Dr.start hC).alloc (.cells #[.int .i64 0, .slice none 0 0] 36)).alloc (.cells #[.int .i64 id, .slice none 0 0] 36)).alloc (.cells (wides.map (Value.int .i64)).toArray 3 (0, 0))
  have hz := keepA (.cells (wides.map (Value.int .i64)).toArray 3 (0, 0)) (keepA (.cells #[.int .i64 id, .slice none 0 0] 36) (heap_alloc_new w (.cells #[.int .i64 0, .slice none 0 0] 36)))
  have hb := keepA (.cells (wides.map (Value.int .i64)).toArray 3 (0, 0)) (heap_alloc_new (w.alloc (.cells #[.int .i64 0, .slice none 0 0] 36)) (.cells #[.int .i64 id, .slice none 0 0] 36))
  have hl := heap_alloc_new ((w.alloc (.cells #[.int .i64 0, .slice none 0 0] 36)).alloc (.cells #[.int .i64 id, .slice none 0 0] 36)) (.cells (wides.map (Value.int .i64)).toArray 3 (0, 0))
  simp only [World.size_alloc] at hb hl
  have hne : w.heap.size + 1 + 1 ≠ c := hD.ne (by omega)
  have HP := Lib.hid (pick_any w0 c v xs _ hD.cur (w.heap.size + 1 + 1) wides 3 100 wides_in (by decide) (by decide) hl hne)
  have HD := Lib.hid hD
  have HZ := Lib.hid hz
  have HB := Lib.hid hb
  clear hD hz hb hl hne hC
  go_enter Tryz.func72, Tryz.ntmps72
  go_wp2_with fail
  refine Calls.mono HP.out ?_
  rintro e w1 ⟨wd, d0, d1, rfl, hC1, hg1⟩
  have D1 := HD.out.call hC1 hg1
  have z1 := keep hg1 (HD.out.ne (Nat.le_refl _)) HZ.out
  have b1 := keep hg1 (HD.out.ne (by omega)) HB.out
  have s1 : w.heap.size + 1 + 1 ≤ w1.heap.size := by have := hg1.size; simp only [World.size_alloc] at this; omega
  clear hC1 hg1 HP HD HZ HB
  go_wp2
  go_loopw [7] (fun i wr => ∃ (k : Nat) (u : Value) (ys : List Int), k ≤ 3 ∧ ys.length = k ∧ i = .int .i64 k ∧ wr.heap[w.heap.size + 1]? = some (.cells #[.int .i64 id, u] 36 (0, 0)) ∧ wr.heap[w.heap.size]? = some (.cells #[.int .i64 0, .slice none 0 0] 36 (0, 0)) ∧ OwnsN wr (w.heap.size + 1 + 1) u ys ∧ Dr w0 c v xs w wr) (fun i _ => 3 - (intOf i).toNat)
  case atStart => exact ⟨0, .slice none 0 0, [], by omega, rfl, rfl, b1, z1, ownsN_nil _ _, D1⟩
  case round =>
    obtain ⟨k, u, ys, hk, hyl, rfl, hb, hz, hown, hD⟩ := hrel
    clear D1 b1 z1
    have HL := Lib.hid hyl
    clear hyl
    obtain ⟨ua, ucap, rfl⟩ := ints_len (ownsN_ints hown)
    have hsz : w.heap.size + 1 + 1 ≤ wr.heap.size := by have := (Array.getElem?_eq_some_iff.1 hb).1; omega
    by_cases hlt : k < 3
    · go_wp2_with fail
      refine (below_any w0 c v xs _ hD.cur wd (by omega) (by omega)).mono ?_
      rintro e w2 ⟨x, x0, x1, rfl, hC2, hg2⟩
      have D2 := hD.call hC2 hg2
      have b2 := keep hg2 (hD.ne (by omega)) hb
      have z2 := keep hg2 (hD.ne (Nat.le_refl _)) hz
      have o2 := ownsN_grown hown hg2 (by have := hD.lt; omega)
      have s2 := Nat.le_trans hsz hg2.size
      clear hD hC2 hg2 hb hz hown hsz
      have al : Below w2.heap.size w2 (w2.alloc (.cells #[.int .i64 x] 3)) := (Below.refl _ _).alloc (Nat.le_refl _) _
      have q7 := (cell_lit w2 #[.int .i64 x] 3 0).trans (show _ = some (Value.int .i64 x) from rfl)
      have l7 : w2.heap.size < (w2.alloc (.cells #[.int .i64 x] 3)).heap.size := by simp
      have p1 := (cell_of_row w2 _ 1 _ _ _ b2).trans (show _ = some (Value.slice ua ys.length ucap) from rfl)
      have HI7 : Hid (Ints (w2.alloc (.cells #[.int .i64 x] 3)) (.slice (some ⟨w2.heap.size, 0, none⟩) 1 1) [x]) := Lib.hid (Or.inr ⟨w2.heap.size, 0, 1, rfl, by simp, l7, fun j hj => by
        have : j = 0 := by simp at hj; omega
        subst this
        simp⟩)
      have o3 := ownsN_below o2 al
      have D3 := D2.alloc (.cells #[.int .i64 x] 3)
      have b3 := keepA (.cells #[.int .i64 x] 3) b2
      have z3 := keepA (.cells #[.int .i64 x] 3) z2
      have s3 := Nat.le_trans s2 al.size
      clear o2 D2 b2 z2 s2 al q7 l7
      go_wp2_with (at_builtin; refine wpl_append_ints rfl (.tmp 22) (.tmp 24) rfl (w.heap.size + 1 + 1) _ _ ys [x] rfl rfl o3 HI7.out s3 (by have := HL.out; simp; omega) ?_; intro u4 w4 o4 bl4; obtain ⟨ua4, ucap4, rfl⟩ := ints_len (ownsN_ints o4); have D4 := D3.below bl4 (by omega); have b4 := keepB bl4 (by omega) b3; have z4 := keepB bl4 (by omega) z3; have y1 := (cell_of_row w4 _ 1 _ _ _ b4).trans (show _ = some (Value.slice ua ys.length ucap) from rfl); have f1 := frozen_of_row w4 _ 1 _ _ b4; clear o3 D3 b3 z3 bl4)
      have r1 := heap_setCell_same w4 (w.heap.size + 1) 1 _ _ (.slice ua4 (ys ++ [x]).length ucap4) b4
      have zz := (heap_setCell_other w4 ⟨w.heap.size + 1, 1, none⟩ w.heap.size (.slice ua4 (ys ++ [x]).length ucap4) (by simp)).trans z4
      have D5 := D4.set (R := w.heap.size + 1) (by omega) 1 (.slice ua4 (ys ++ [x]).length ucap4)
      have o5 := ownsN_low o4 (b := w.heap.size + 1) (by omega) 1 (.slice ua4 (ys ++ [x]).length ucap4)
      go_roundw
      case rel => exact ⟨k + 1, .slice ua4 (ys ++ [x]).length ucap4, ys ++ [x], by omega, by simp; exact HL.out, by go_num, by simpa using r1, by simpa using zz, by simpa using o5, by simpa using D5⟩
      case measure => simp [intOf]; omega
    · obtain rfl : k = 3 := by omega
      have q0 := (cell_of_row wr _ 0 _ _ _ hb).trans (show _ = some (Value.int .i64 id) from rfl)
      have q1 := (cell_of_row wr _ 1 _ _ _ hb).trans (show _ = some (Value.slice ua ys.length ucap) from rfl)
      have y0 := (cell_of_row wr _ 0 _ _ _ hz).trans (show _ = some (Value.int .i64 0) from rfl)
      have y1 := (cell_of_row wr _ 1 _ _ _ hz).trans (show _ = some (Value.slice none 0 0) from rfl)
      have f0 := frozen_of_row wr _ 0 _ _ hz
      have f1 := frozen_of_row wr _ 1 _ _ hz
      go_wp2
      have r1 := heap_setCell_same wr w.heap.size 0 _ _ (.int .i64 id) hz
      have r2 := heap_setCell_same _ w.heap.size 1 _ _ (.slice ua ys.length ucap) r1
      have D5 := (hD.set (R := w.heap.size) (Nat.le_refl _) 0 (.int .i64 id)).set (R := w.heap.size) (Nat.le_refl _) 1 (.slice ua ys.length ucap)
      have o5 := ownsN_low (ownsN_low hown (b := w.heap.size) (by omega) 0 (.int .i64 id)) (b := w.heap.size) (by omega) 1 (.slice ua ys.length ucap)
      have e0 := cell_of_row _ _ 0 _ _ _ r2
      have e1 := cell_of_row _ _ 1 _ _ _ r2
      simp at e0 e1
      refine bodyPost_ret (v := .agg #[.int .i64 id, .slice ua ys.length ucap]) ?_ rfl ?_
      · simp [results, Tryz.f72, go_sem, e0, e1]
      · exact ⟨id, _, ys, rfl, ownsN_up o5 (by omega), HL.out, D5⟩
end Go.Proofs.YtijfnabglblimaaGreatDoor
namespace Go.Proofs.YtijfnabglblimaaGreatDoor
open Go.RowKit
set_option linter.unusedVariables false
set_option linter.unusedSimpArgs false
def ids3 : List Int := [-1, 999, 1000]
def vals3 : List Int := [-1, 99, 100]
theorem ownsN_off {w : World} {B : Nat} {v : Value} {xs : List Int} (h : OwnsN w B v xs) {b : Nat} (hne : v.ownBlock ≠ some b) (j : Nat) (u : Value) : OwnsN (w.setCell ⟨b, j, none⟩ u) B v xs := by
  refine ⟨h.1, ?_⟩
  rcases h.2 with hn | ⟨g, cap, cur, rfl, hb', hg, rest⟩
  · exact .inl hn
  · refine .inr ⟨g, cap, cur, rfl, hb', ?_, rest⟩
    have hgb : ¬ b = g := fun e => hne (by rw [e]; rfl)
    exact (heap_setCell_other w ⟨b, j, none⟩ g u (by simpa using fun e => hgb e.symm)).trans hg
theorem ownsN_apart {w : World} {B R : Nat} {v : Value} {xs : List Int} {vals : Array Value} {T : TypeId} {fr : Nat × Nat} (h : OwnsN w B v xs) (hb : w.heap[R]? = some (.cells vals T fr)) (hT : T ≠ 3) : v.ownBlock ≠ some R := by
  intro e
  rcases h.2 with ⟨rfl, _⟩ | ⟨g, cap, cur, rfl, _, hg, _⟩
  · simp [Value.ownBlock] at e
  · have : g = R := by simpa [Value.ownBlock] using e
    subst this
    rw [hg] at hb
    simp only [Option.some.injEq, Obj.cells.injEq] at hb
    exact hT hb.2.1.symm
theorem wpl_append_one {w : World} {ops : Array Oper} {rest : List Oper} {o : Oper} {a : Act} {Q : Exit → Act → World → Prop} (hgd : o.guard = none) (s x : Operand)
    (ho : o.op = .call { callee := .builtin .append, args := #[s, x], argTypes := #[25, 25] })
    (B : Nat) (v : Value) (xs : List Int) (b : Nat) (y : Int) (hs : a.eval s = v) (hx : a.eval x = .slice (some ⟨b, 0, none⟩) 1 1) (hown : OwnsN w B v xs) (hu : w.cell? ⟨b, 0, none⟩ = some (.int .i64 y)) (hB : B ≤ w.heap.size) (h63 : xs.length ≤ 1048576)
    (h : ∀ v' w', OwnsN w' B v' (xs ++ [y]) → w.grownBy w' v.ownBlock → wpList Tryz.prog ops Q rest (a.put o.dst v') w') : wpList Tryz.prog ops Q (o :: rest) a w := by
  obtain ⟨i0, hi, hz0, hz1, hz2⟩ := info_parts Tryz.infoI64
  refine wpList_plain hgd fun K hK => ?_
  obtain ⟨v', w', hr, h2, h3, h4⟩ := run_append_own (P := Tryz.prog) w B 25 o.type 3 i0 (.int .i64 0) 1 8 Tryz.underlying25 hi hz0 hz1 hz2 rfl (by decide) v xs.length _ hown ⟨b, 0, none⟩ 1 1 [Value.int .i64 y] (by simp) (by
    intro j q hj
    rw [Go.WideShapes.add_plain]
    have : j = 0 := by
      by_cases e : j = 0
      · exact e
      · rw [List.getElem?_eq_none (by simp; omega)] at hj; simp at hj
    subst this
    simp at hj
    rw [← hj]; exact hu) (by intro q hq; simp at hq; rw [hq]; rfl) (by unfold maxLen; omega) (by omega) hB
  unfold Oper.wp
  simp [execOp, ho, resolve, invoke, builtin, hs, hx, hr, Result.andThen]
  refine hK _ _ (h v' w' ?_ h3)
  unfold OwnsN
  simpa using h2
set_option maxHeartbeats 8000000 in
set_option maxRecDepth 100000 in
theorem rowAny_any (w0 : World) (c : Nat) (v : Value) (xs : List Int) (w : World) (hC : Cur w0 c v xs w) :
    Calls Tryz.prog 37 #[.pointer (some ⟨c, 0, none⟩)] w (DrawnRow w0 c v xs w) := by
  have D0 := (Dr.start hC).alloc (.cells #[.int .i64 0, .slice none 0 0] 36)
  have z0 := heap_alloc_new w (.cells #[.int .i64 0, .slice none 0 0] 36)
  have s0 : (w.alloc (.cells #[.int .i64 0, .slice none 0 0] 36)).heap.size = w.heap.size + 1 := by simp
  have HD0 := Lib.hid D0
  have HZ0 := Lib.hid z0
  have HS0 := Lib.hid s0
  clear D0 z0 s0 hC
  go_enter Tryz.func37, Tryz.ntmps37
  go_wp2_with fail
  generalize w.alloc (.cells #[.int .i64 0, .slice none 0 0] 36) = W at *
  refine (below_any w0 c v xs _ HD0.out.cur 9 (by omega) (by omega)).mono ?_
  rintro e w1 ⟨x, x0, x1, rfl, hC1, hg1⟩
  have D1 := HD0.out.call hC1 hg1
  have z1 := keep hg1 (D1.ne (Nat.le_refl _)) HZ0.out
  have s1 : w.heap.size + 1 ≤ w1.heap.size := by rw [← HS0.out]; exact hg1.size
  clear HD0 HZ0 HS0 hC1 hg1
  go_wp2_with fail
  refine (row_any w0 c v xs _ D1.cur x).mono ?_
  rintro e w2 ⟨id, u, ys, rfl, ou, hyl, d2⟩
  have D2 := D1.call d2.cur d2.gr
  have z2 := keep d2.gr (D1.ne (Nat.le_refl _)) z1
  have s2 := Nat.le_trans s1 d2.size
  obtain ⟨g, ucap, rfl⟩ : ∃ g ucap, u = .slice (some ⟨g, 0, none⟩) ys.length ucap := by
    rcases ownsN_form ou with ⟨_, e⟩ | ⟨g, cap, e, _⟩
    · rw [e] at hyl; simp at hyl
    · exact ⟨g, cap, e⟩
  have HYL := Lib.hid hyl
  have hgl := ou.lt g rfl
  clear D1 z1 hyl
  have D3 := D2.alloc (.cells #[.int .i64 id, .slice (some ⟨g, 0, none⟩) ys.length ucap] 36)
  have z3 := keepA (.cells #[.int .i64 id, .slice (some ⟨g, 0, none⟩) ys.length ucap] 36) z2
  have b3 := heap_alloc_new w2 (.cells #[.int .i64 id, .slice (some ⟨g, 0, none⟩) ys.length ucap] 36)
  have o3 : OwnsN _ w1.heap.size _ ys := ou.alloc (.cells #[.int .i64 id, .slice (some ⟨g, 0, none⟩) ys.length ucap] 36)
  have HOU := Lib.hid o3
  have HD3 := Lib.hid D3
  have HZ3 := Lib.hid z3
  have HB3 := Lib.hid b3
  have HG := Lib.hid hgl
  have HS1 := Lib.hid s1
  have HS2 := Lib.hid s2
  clear D2 z2 D3 z3 b3 o3 ou hgl s1 s2 d2
  go_wp2_with fail
  generalize w2.alloc (.cells #[.int .i64 id, .slice (some ⟨g, 0, none⟩) ys.length ucap] 36) = W3 at *
  refine (below_any w0 c v xs _ HD3.out.cur 8 (by omega) (by omega)).mono ?_
  rintro e w4 ⟨d, d0, d1, rfl, hC4, hg4⟩
  have D4 := HD3.out.call hC4 hg4
  have z4 := keep hg4 (HD3.out.ne (Nat.le_refl _)) HZ3.out
  have b4 := keep hg4 (HD3.out.ne (by have := HS2.out; omega)) HB3.out
  have o4 := ownsN_grown HOU.out hg4 (by have := HD3.out.lt; have := HS1.out; omega)
  clear HOU HD3 HZ3 HB3 hC4 hg4
  by_cases hd0 : d = 0
  · have t0 : (d == 0) = true := by rw [beq_iff_eq]; exact hd0
    clear hd0
    have HP := Lib.hid (pick_any w0 c v xs (w4.alloc (.cells (ids3.map (Value.int .i64)).toArray 3 (0, 0))) (cur_alloc D4.cur _) w4.heap.size ids3 (-1) 1000 (by decide) (by decide) (by decide) (heap_alloc_new w4 _) (D4.ne D4.size))
    have D5 := D4.alloc (.cells (ids3.map (Value.int .i64)).toArray 3 (0, 0))
    have z5 := keepA (.cells (ids3.map (Value.int .i64)).toArray 3 (0, 0)) z4
    have b5 := keepA (.cells (ids3.map (Value.int .i64)).toArray 3 (0, 0)) b4
    have o5 : OwnsN _ w1.heap.size _ ys := o4.alloc (.cells (ids3.map (Value.int .i64)).toArray 3 (0, 0))
    go_wp2_with fail
    refine Calls.mono HP.out ?_
    rintro e w6 ⟨y, yl, yh, rfl, hC6, hg6⟩
    have D6 := D5.call hC6 hg6
    have z6 := keep hg6 (D5.ne (Nat.le_refl _)) z5
    have b6 := keep hg6 (D5.ne (by have := HS2.out; omega)) b5
    have o6 := ownsN_grown o5 hg6 (by have := D5.lt; have := HS1.out; omega)
    have hn1 : ¬ w2.heap.size = w.heap.size := by have := HS2.out; omega
    have hn2 : ¬ w.heap.size = w2.heap.size := by have := HS2.out; omega
    have hn3 : ¬ g = w2.heap.size := by have := HG.out; omega
    have hn4 : ¬ w2.heap.size = g := by have := HG.out; omega
    have hn5 : ¬ g = w.heap.size := by have := HG.out; have := HS1.out; omega
    have hn6 : ¬ w.heap.size = g := by have := HG.out; have := HS1.out; omega
    have p0 := (cell_of_row w6 _ 0 _ _ _ b6).trans (show _ = some (Value.int .i64 id) from rfl)
    have p1 := (cell_of_row w6 _ 1 _ _ _ b6).trans (show _ = some (Value.slice (some ⟨g, 0, none⟩) ys.length ucap) from rfl)
    have g0 := frozen_of_row w6 _ 0 _ _ b6
    have b7 := heap_setCell_same w6 w2.heap.size 0 _ _ (.int .i64 y) b6
    have z7 := (heap_setCell_other w6 ⟨w2.heap.size, 0, none⟩ w.heap.size (.int .i64 y) (by simpa using hn2)).trans z6
    have D7 := D6.set (R := w2.heap.size) (by have := HS2.out; omega) 0 (.int .i64 y)
    have o7 := ownsN_off o6 (b := w2.heap.size) (by simp [Value.ownBlock, hn3]) 0 (.int .i64 y)
    clear D5 z5 b5 o5 D6 o6 HP D4 z4 b4 o4 hC6 hg6
    have q0 := (cell_of_row (w6.setCell ⟨w2.heap.size, 0, none⟩ (.int .i64 y)) _ 0 _ _ _ b7).trans (show _ = some (Value.int .i64 y) from rfl)
    have q1 := (cell_of_row (w6.setCell ⟨w2.heap.size, 0, none⟩ (.int .i64 y)) _ 1 _ _ _ b7).trans (show _ = some (Value.slice (some ⟨g, 0, none⟩) ys.length ucap) from rfl)
    have y0 := (cell_of_row (w6.setCell ⟨w2.heap.size, 0, none⟩ (.int .i64 y)) _ 0 _ _ _ z7).trans (show _ = some (Value.int .i64 0) from rfl)
    have y1 := (cell_of_row (w6.setCell ⟨w2.heap.size, 0, none⟩ (.int .i64 y)) _ 1 _ _ _ z7).trans (show _ = some (Value.slice none 0 0) from rfl)
    have f0 := frozen_of_row (w6.setCell ⟨w2.heap.size, 0, none⟩ (.int .i64 y)) _ 0 _ _ z7
    have f1 := frozen_of_row (w6.setCell ⟨w2.heap.size, 0, none⟩ (.int .i64 y)) _ 1 _ _ z7
    go_wp2
    have r1 := heap_setCell_same (w6.setCell ⟨w2.heap.size, 0, none⟩ (.int .i64 y)) w.heap.size 0 _ _ (.int .i64 y) z7
    have r2 := heap_setCell_same _ w.heap.size 1 _ _ (.slice (some ⟨g, 0, none⟩) ys.length ucap) r1
    have D9 := (D7.set (R := w.heap.size) (Nat.le_refl _) 0 (.int .i64 y)).set (R := w.heap.size) (Nat.le_refl _) 1 (.slice (some ⟨g, 0, none⟩) ys.length ucap)
    have o9 := ownsN_low (ownsN_low o7 (b := w.heap.size) (by have := HS1.out; omega) 0 (.int .i64 y)) (b := w.heap.size) (by have := HS1.out; omega) 1 (.slice (some ⟨g, 0, none⟩) ys.length ucap)
    have e0 := cell_of_row _ _ 0 _ _ _ r2
    have e1 := cell_of_row _ _ 1 _ _ _ r2
    simp at e0 e1
    refine bodyPost_ret (v := .agg #[.int .i64 y, .slice (some ⟨g, 0, none⟩) ys.length ucap]) ?_ rfl ?_
    · simp [results, Tryz.f37, go_sem, e0, e1]
    · exact ⟨y, _, _, rfl, ownsN_up o9 (by have := HS1.out; omega), by have := HYL.out; omega, D9⟩
  · by_cases hd1 : d = 1
    · have t0 : (d == 0) = false := by rw [beq_eq_false_iff_ne]; exact hd0
      have t1 : (d == 1) = true := by rw [beq_iff_eq]; exact hd1
      clear hd0 hd1
      have hn1 : ¬ w2.heap.size = w.heap.size := by have := HS2.out; omega
      have hn2 : ¬ w.heap.size = w2.heap.size := by have := HS2.out; omega
      have hn3 : ¬ g = w2.heap.size := by have := HG.out; omega
      have hn4 : ¬ w2.heap.size = g := by have := HG.out; omega
      have hn5 : ¬ g = w.heap.size := by have := HG.out; have := HS1.out; omega
      have hn6 : ¬ w.heap.size = g := by have := HG.out; have := HS1.out; omega
      have p1 := (cell_of_row w4 _ 1 _ _ _ b4).trans (show _ = some (Value.slice (some ⟨g, 0, none⟩) ys.length ucap) from rfl)
      have n0 : (0 : Int) < (ys.length : Int) := by have := HYL.out; omega
      have n1 : 0 < ys.length := by have := HYL.out; omega
      have D4d : Dr w0 c v xs w w4.drew := D4.below (below_drew (Below.refl w4.heap.size w4)) D4.size
      have o4d : OwnsN w4.drew w1.heap.size _ ys := ownsN_below o4 (below_drew (Below.refl w4.heap.size w4))
      have z4d : w4.drew.heap[w.heap.size]? = some _ := z4
      have b4d : w4.drew.heap[w2.heap.size]? = some _ := b4
      clear D4 o4 z4 b4
      go_wp2
      refine wp_region_held_drew (S := fun w' => w'.cell? ⟨w2.heap.size, 1, none⟩ = some (.slice (some ⟨g, 0, none⟩) ys.length ucap)) (by kernel_rfl) p1 (fun hHeld => ?_)
      refine take_runs (i := 0) (v := ?_) (by simp only [List.getElem?_toArray, List.getElem?_cons_succ, List.getElem?_cons_zero]; rfl) (by kernel_rfl) (by kernel_rfl) (by kernel_rfl) rfl (by exact fun _ _ _ h => h) (by rfl) ?_ (by assumption) ?_
      rotate_left
      · intro w hSw; (try dsimp only at hSw); go_simp; try (with_reducible rfl)
      try simp only [Act.put, List.setIfInBounds_toArray, List.set_cons_zero, List.set_cons_succ]
      refine take_runs (i := 1) (v := ?_) (by simp only [List.getElem?_toArray, List.getElem?_cons_succ, List.getElem?_cons_zero]; rfl) (by kernel_rfl) (by kernel_rfl) (by kernel_rfl) rfl (by exact fun _ _ _ h => h) (by rfl) ?_ (by assumption) ?_
      rotate_left
      · intro w hSw; (try dsimp only at hSw); go_simp; try (with_reducible rfl)
      try simp only [Act.put, List.setIfInBounds_toArray, List.set_cons_zero, List.set_cons_succ]
      refine take_runs (i := 2) (v := ?_) (by simp only [List.getElem?_toArray, List.getElem?_cons_succ, List.getElem?_cons_zero]; rfl) (by kernel_rfl) (by kernel_rfl) (by kernel_rfl) rfl (by exact fun _ _ _ h => h) (by rfl) ?_ (by assumption) ?_
      rotate_left
      · intro w hSw; (try dsimp only at hSw); go_simp; try (with_reducible rfl)
      try simp only [Act.put, List.setIfInBounds_toArray, List.set_cons_zero, List.set_cons_succ]
      refine wpAnyH_ready (rs := [3]) (by kernel_rfl) (by simp) ?_
      refine (AllReadyH.cons (o := _) (by simp only [List.getElem?_toArray, List.getElem?_cons_succ, List.getElem?_cons_zero]; rfl) (fun K hK => ?_) AllReadyH.nil)
      go_simp
      have D5 := D4d.alloc (.cells (vals3.map (Value.int .i64)).toArray 3 (0, 0))
      have z5 := keepA (.cells (vals3.map (Value.int .i64)).toArray 3 (0, 0)) z4d
      have b5 := keepA (.cells (vals3.map (Value.int .i64)).toArray 3 (0, 0)) b4d
      have o5 : OwnsN _ w1.heap.size _ ys := o4d.alloc (.cells (vals3.map (Value.int .i64)).toArray 3 (0, 0))
      have l5 := heap_alloc_new w4.drew (.cells (vals3.map (Value.int .i64)).toArray 3 (0, 0))
      have s_b5 := (cell_of_row (w4.drew.alloc (.cells (vals3.map (Value.int .i64)).toArray 3 (0, 0))) _ 1 _ _ _ b5).trans (show _ = some (Value.slice (some ⟨g, 0, none⟩) ys.length ucap) from rfl)
      have HP := Lib.hid (pick_any w0 c v xs (w4.drew.alloc (.cells (vals3.map (Value.int .i64)).toArray 3 (0, 0))) D5.cur w4.drew.heap.size vals3 (-1) 100 (by decide) (by decide) (by decide) l5 (D4d.ne D4d.size))
      refine hK.out _ _ (s_b5) (fun hHeld => ?_)
      clear hK K
      try simp only [Act.put, List.setIfInBounds_toArray, List.set_cons_zero, List.set_cons_succ]
      refine wpAnyH_ready (rs := [4]) (by kernel_rfl) (by simp) ?_
      refine (AllReadyH.cons (o := _) (by simp only [List.getElem?_toArray, List.getElem?_cons_succ, List.getElem?_cons_zero]; rfl) (fun K hK => ?_) AllReadyH.nil)
      go_simp
      refine Calls.mono HP.out ?_
      rintro e w6 ⟨y, yl, yh, rfl, hC6, hg6⟩
      have D6 := D5.call hC6 hg6
      have z6 := keep hg6 (D5.ne (Nat.le_refl _)) z5
      have b6 := keep hg6 (D5.ne (by have := HS2.out; omega)) b5
      have o6 := ownsN_grown o5 hg6 (by have := D5.lt; have := HS1.out; omega)
      have s_b6 := (cell_of_row w6 _ 1 _ _ _ b6).trans (show _ = some (Value.slice (some ⟨g, 0, none⟩) ys.length ucap) from rfl)
      refine hK.out _ _ (s_b6) (fun hHeld => ?_)
      clear hK K
      try simp only [Act.put, List.setIfInBounds_toArray, List.set_cons_zero, List.set_cons_succ]
      refine take_runs (i := 5) (v := ?_) (by simp only [List.getElem?_toArray, List.getElem?_cons_succ, List.getElem?_cons_zero]; rfl) (by kernel_rfl) (by kernel_rfl) (by kernel_rfl) rfl (by exact fun _ _ _ h => h) (by rfl) ?_ (by assumption) ?_
      rotate_left
      · intro w hSw; (try dsimp only at hSw); go_simp; try (with_reducible rfl)
      try simp only [Act.put, List.setIfInBounds_toArray, List.set_cons_zero, List.set_cons_succ]
      have x0c := ownsN_cell o6 (j := 0) (List.getElem?_eq_getElem n1)
      have x0f := ownsN_frozen o6 0
      refine wpAnyH_ready (rs := [6]) (by kernel_rfl) (by simp) ?_
      refine (AllReadyH.cons (o := _) (by simp only [List.getElem?_toArray, List.getElem?_cons_succ, List.getElem?_cons_zero]; rfl) (fun K hK => ?_) AllReadyH.nil)
      go_simp
      have b7 := (heap_setCell_other w6 ⟨g, 0, none⟩ w2.heap.size (.int .i64 y) (by simpa using hn4)).trans b6
      have z7 := (heap_setCell_other w6 ⟨g, 0, none⟩ w.heap.size (.int .i64 y) (by simpa using hn6)).trans z6
      have D7 := D6.set (R := g) (by have := HG.out; have := HS1.out; omega) 0 (.int .i64 y)
      have o7 := ownsN_store o6 0 y
      have s_b7 := (cell_of_row (w6.setCell ⟨g, 0, none⟩ (.int .i64 y)) _ 1 _ _ _ b7).trans (show _ = some (Value.slice (some ⟨g, 0, none⟩) ys.length ucap) from rfl)
      refine hK.out _ _ (s_b7) (fun hHeld => ?_)
      clear hK K
      try simp only [Act.put, List.setIfInBounds_toArray, List.set_cons_zero, List.set_cons_succ]
      refine wpAnyH_done (by kernel_rfl) ?_ _
      have hls : (ys.set 0 y).length = ys.length := List.length_set ..
      clear D4d z4d b4d o4d D5 z5 b5 o5 l5 HP D6 z6 b6 o6 hC6 hg6 s_b5 s_b6 s_b7 hHeld x0c x0f p1
      have q0 := (cell_of_row (w6.setCell ⟨g, 0, none⟩ (.int .i64 y)) _ 0 _ _ _ b7).trans (show _ = some (Value.int .i64 id) from rfl)
      have q1 := (cell_of_row (w6.setCell ⟨g, 0, none⟩ (.int .i64 y)) _ 1 _ _ _ b7).trans (show _ = some (Value.slice (some ⟨g, 0, none⟩) ys.length ucap) from rfl)
      have y0 := (cell_of_row (w6.setCell ⟨g, 0, none⟩ (.int .i64 y)) _ 0 _ _ _ z7).trans (show _ = some (Value.int .i64 0) from rfl)
      have y1 := (cell_of_row (w6.setCell ⟨g, 0, none⟩ (.int .i64 y)) _ 1 _ _ _ z7).trans (show _ = some (Value.slice none 0 0) from rfl)
      have f0 := frozen_of_row (w6.setCell ⟨g, 0, none⟩ (.int .i64 y)) _ 0 _ _ z7
      have f1 := frozen_of_row (w6.setCell ⟨g, 0, none⟩ (.int .i64 y)) _ 1 _ _ z7
      go_wp2
      have r1 := heap_setCell_same (w6.setCell ⟨g, 0, none⟩ (.int .i64 y)) w.heap.size 0 _ _ (.int .i64 id) z7
      have r2 := heap_setCell_same _ w.heap.size 1 _ _ (.slice (some ⟨g, 0, none⟩) ys.length ucap) r1
      have D9 := (D7.set (R := w.heap.size) (Nat.le_refl _) 0 (.int .i64 id)).set (R := w.heap.size) (Nat.le_refl _) 1 (.slice (some ⟨g, 0, none⟩) ys.length ucap)
      have o9 := ownsN_low (ownsN_low o7 (b := w.heap.size) (by have := HS1.out; omega) 0 (.int .i64 id)) (b := w.heap.size) (by have := HS1.out; omega) 1 (.slice (some ⟨g, 0, none⟩) ys.length ucap)
      have e0 := cell_of_row _ _ 0 _ _ _ r2
      have e1 := cell_of_row _ _ 1 _ _ _ r2
      simp at e0 e1
      refine bodyPost_ret (v := .agg #[.int .i64 id, .slice (some ⟨g, 0, none⟩) ys.length ucap]) ?_ rfl ?_
      · simp [results, Tryz.f37, go_sem, e0, e1]
      · exact ⟨id, _, _, rfl, ownsN_up o9 (by have := HS1.out; omega), by rw [hls]; have := HYL.out; omega, D9⟩
    · by_cases hd2 : d = 2
      · have t0 : (d == 0) = false := by rw [beq_eq_false_iff_ne]; exact hd0
        have t1 : (d == 1) = false := by rw [beq_eq_false_iff_ne]; exact hd1
        have t2 : (d == 2) = true := by rw [beq_iff_eq]; exact hd2
        clear hd0 hd1 hd2
        have hn1 : ¬ w2.heap.size = w.heap.size := by have := HS2.out; omega
        have hn2 : ¬ w.heap.size = w2.heap.size := by have := HS2.out; omega
        have hn3 : ¬ g = w2.heap.size := by have := HG.out; omega
        have hn4 : ¬ w2.heap.size = g := by have := HG.out; omega
        have hn5 : ¬ g = w.heap.size := by have := HG.out; have := HS1.out; omega
        have hn6 : ¬ w.heap.size = g := by have := HG.out; have := HS1.out; omega
        have p1 := (cell_of_row w4 _ 1 _ _ _ b4).trans (show _ = some (Value.slice (some ⟨g, 0, none⟩) ys.length ucap) from rfl)
        have b5 := keepA (.cells #[.int .i64 1] 3) b4
        have z5 := keepA (.cells #[.int .i64 1] 3) z4
        have D5 := D4.alloc (.cells #[.int .i64 1] 3)
        have o5 : OwnsN _ w1.heap.size _ ys := o4.alloc (.cells #[.int .i64 1] 3)
        have u5 := (cell_lit w4 #[.int .i64 1] 3 0).trans (show _ = some (Value.int .i64 1) from rfl)
        have s5 : w1.heap.size ≤ (w4.alloc (.cells #[.int .i64 1] 3)).heap.size := by have := (o4.lt g rfl); simp; omega
        clear D4 z4 b4 o4
        go_wp2_with (at_builtin; refine wpl_append_one rfl (.tmp 27) (.tmp 28) rfl w1.heap.size (.slice (some ⟨g, 0, none⟩) ys.length ucap) ys w4.heap.size 1 rfl rfl o5 u5 s5 (by have := HYL.out; omega) ?_)
        intro u6 w6 o6 g6
        obtain ⟨ub, ucap6, rfl⟩ := ints_len (ownsN_ints o6)
        have o7 : OwnsN w6 w1.heap.size (.slice ub (ys.length + 1) ucap6) (ys ++ [1]) := by simpa using o6
        have bl6 := (Below.refl w1.heap.size _).grown g6 s5 (fun k hk => (o5.lt k hk).1)
        have D6 := D5.below bl6 (by have := HS1.out; omega)
        have b6 := (g6.block w2.heap.size (Array.getElem?_eq_some_iff.1 b5).1 (by simp [Value.ownBlock, hn4])).trans b5
        have z6 := (g6.block w.heap.size (Array.getElem?_eq_some_iff.1 z5).1 (by simp [Value.ownBlock, hn6])).trans z5
        have h1 := (cell_of_row w6 _ 1 _ _ _ b6).trans (show _ = some (Value.slice (some ⟨g, 0, none⟩) ys.length ucap) from rfl)
        have k1 := frozen_of_row w6 _ 1 _ _ b6
        have b7 := heap_setCell_same w6 w2.heap.size 1 _ _ (.slice ub (ys.length + 1) ucap6) b6
        have z7 := (heap_setCell_other w6 ⟨w2.heap.size, 1, none⟩ w.heap.size (.slice ub (ys.length + 1) ucap6) (by simpa using hn2)).trans z6
        simp only [List.length_append, List.length_cons, List.length_nil, Nat.zero_add]
        have q0 := (cell_of_row (w6.setCell ⟨w2.heap.size, 1, none⟩ (.slice ub (ys.length + 1) ucap6)) _ 0 _ _ _ b7).trans (show _ = some (Value.int .i64 id) from rfl)
        have q1 := (cell_of_row (w6.setCell ⟨w2.heap.size, 1, none⟩ (.slice ub (ys.length + 1) ucap6)) _ 1 _ _ _ b7).trans (show _ = some (Value.slice ub (ys.length + 1) ucap6) from rfl)
        have y0 := (cell_of_row (w6.setCell ⟨w2.heap.size, 1, none⟩ (.slice ub (ys.length + 1) ucap6)) _ 0 _ _ _ z7).trans (show _ = some (Value.int .i64 0) from rfl)
        have y1 := (cell_of_row (w6.setCell ⟨w2.heap.size, 1, none⟩ (.slice ub (ys.length + 1) ucap6)) _ 1 _ _ _ z7).trans (show _ = some (Value.slice none 0 0) from rfl)
        have f0 := frozen_of_row (w6.setCell ⟨w2.heap.size, 1, none⟩ (.slice ub (ys.length + 1) ucap6)) _ 0 _ _ z7
        have f1 := frozen_of_row (w6.setCell ⟨w2.heap.size, 1, none⟩ (.slice ub (ys.length + 1) ucap6)) _ 1 _ _ z7
        clear D5 z5 b5 o5 u5 s5 bl6 o6 g6 p1
        go_wp2
        have D8 := D6.set (R := w2.heap.size) (by have := HS2.out; omega) 1 (.slice ub (ys.length + 1) ucap6)
        have o8 : OwnsN (w6.setCell ⟨w2.heap.size, 1, none⟩ (.slice ub (ys.length + 1) ucap6)) w1.heap.size (.slice ub (ys.length + 1) ucap6) (ys ++ [1]) := ownsN_off o7 (ownsN_apart o7 b6 (by decide)) 1 _
        have r1 := heap_setCell_same (w6.setCell ⟨w2.heap.size, 1, none⟩ (.slice ub (ys.length + 1) ucap6)) w.heap.size 0 _ _ (.int .i64 id) z7
        have r2 := heap_setCell_same _ w.heap.size 1 _ _ (.slice ub (ys.length + 1) ucap6) r1
        have D9 := (D8.set (R := w.heap.size) (Nat.le_refl _) 0 (.int .i64 id)).set (R := w.heap.size) (Nat.le_refl _) 1 (.slice ub (ys.length + 1) ucap6)
        have o9 := ownsN_low (ownsN_low o8 (b := w.heap.size) (by have := HS1.out; omega) 0 (.int .i64 id)) (b := w.heap.size) (by have := HS1.out; omega) 1 (.slice ub (ys.length + 1) ucap6)
        have e0 := cell_of_row _ _ 0 _ _ _ r2
        have e1 := cell_of_row _ _ 1 _ _ _ r2
        simp at e0 e1
        refine bodyPost_ret (v := .agg #[.int .i64 id, .slice ub (ys.length + 1) ucap6]) ?_ rfl ?_
        · simp [results, Tryz.f37, go_sem, e0, e1]
        · exact ⟨id, _, _, rfl, ownsN_up o9 (by have := HS1.out; omega), by have := HYL.out; simp; omega, D9⟩
      · have t0 : (d == 0) = false := by rw [beq_eq_false_iff_ne]; exact hd0
        have t1 : (d == 1) = false := by rw [beq_eq_false_iff_ne]; exact hd1
        have t2 : (d == 2) = false := by rw [beq_eq_false_iff_ne]; exact hd2
        clear hd0 hd1 hd2
        have hn1 : ¬ w2.heap.size = w.heap.size := by have := HS2.out; omega
        have hn2 : ¬ w.heap.size = w2.heap.size := by have := HS2.out; omega
        have q0 := (cell_of_row w4 _ 0 _ _ _ b4).trans (show _ = some (Value.int .i64 id) from rfl)
        have q1 := (cell_of_row w4 _ 1 _ _ _ b4).trans (show _ = some (Value.slice (some ⟨g, 0, none⟩) ys.length ucap) from rfl)
        have y0 := (cell_of_row w4 _ 0 _ _ _ z4).trans (show _ = some (Value.int .i64 0) from rfl)
        have y1 := (cell_of_row w4 _ 1 _ _ _ z4).trans (show _ = some (Value.slice none 0 0) from rfl)
        have f0 := frozen_of_row w4 _ 0 _ _ z4
        have f1 := frozen_of_row w4 _ 1 _ _ z4
        go_wp2
        have r1 := heap_setCell_same w4 w.heap.size 0 _ _ (.int .i64 id) z4
        have r2 := heap_setCell_same _ w.heap.size 1 _ _ (.slice (some ⟨g, 0, none⟩) ys.length ucap) r1
        have D9 := (D4.set (R := w.heap.size) (Nat.le_refl _) 0 (.int .i64 id)).set (R := w.heap.size) (Nat.le_refl _) 1 (.slice (some ⟨g, 0, none⟩) ys.length ucap)
        have o9 := ownsN_low (ownsN_low o4 (b := w.heap.size) (by have := HS1.out; omega) 0 (.int .i64 id)) (b := w.heap.size) (by have := HS1.out; omega) 1 (.slice (some ⟨g, 0, none⟩) ys.length ucap)
        have e0 := cell_of_row _ _ 0 _ _ _ r2
        have e1 := cell_of_row _ _ 1 _ _ _ r2
        simp at e0 e1
        refine bodyPost_ret (v := .agg #[.int .i64 id, .slice (some ⟨g, 0, none⟩) ys.length ucap]) ?_ rfl ?_
        · simp [results, Tryz.f37, go_sem, e0, e1]
        · exact ⟨id, _, _, rfl, ownsN_up o9 (by have := HS1.out; omega), by have := HYL.out; omega, D9⟩
theorem kept_low {w w' : World} {B c : Nat} {e : TypeId} {size : Nat} {v : Value} {n : Nat} {xs : List Value} (h : w.ownsRow B e size v n xs) (hg : w.grownBy w' (some c)) (hc : c < B) : w'.ownsRow B e size v n xs := by
  refine h.kept hg ?_
  cases hv : v.ownBlock with
  | none => exact Or.inl rfl
  | some k => exact Or.inr (by intro e; have := (h.lt k hv).1; simp at e; omega)
theorem ownsR_grown {w w' : World} {B c : Nat} {v : Value} {rs : List RowD} (h : OwnsR w B v rs) (hg : w.grownBy w' (some c)) (hc : c < B) : OwnsR w' B v rs := by
  obtain ⟨cs, vs, h1, h2, h3⟩ := h
  exact ⟨cs, vs, kept_low h1 hg hc, fun j hj => ⟨(h2 j hj).1, (h2 j hj).2.1, ownsN_grown (h2 j hj).2.2.1 hg hc, (h2 j hj).2.2.2⟩, h3⟩
theorem ownsR_next {wa wb : World} {B c : Nat} {v uu : Value} {rs : List RowD} {id : Int} {ys : List Int} (h : OwnsR wa B v rs) (hg : wa.grownBy wb (some c)) (hc : c < B) (hB : B ≤ wa.heap.size) (hu : OwnsN wb wa.heap.size uu ys) :
    ∃ cs, RowsC wb B v rs.length cs ∧ ∀ wc wd v', Below wb.heap.size wb wc → wc.grownBy wd v.ownBlock → RowsC wd B v' (rs.length + 1) (cs ++ [.int .i64 id, uu]) → (v'.ownBlock = v.ownBlock ∨ v'.ownBlock = some wc.heap.size) → OwnsR wd B v' (rs ++ [(id, ys)]) := by
  obtain ⟨cs, vs, h1, h2, h3⟩ := h
  have H1 : RowsC wb B v rs.length cs := kept_low h1 hg hc
  exact ⟨cs, H1, fun wc wd v' hb hg' hx hat => append_owns (r := (id, ys)) H1 (fun j hj => ⟨(h2 j hj).1, (h2 j hj).2.1, ownsN_grown (h2 j hj).2.2.1 hg hc, (h2 j hj).2.2.2⟩) h3 (fun j hj q e => ((h2 j hj).2.2.1.lt q e).2) (fun q e => (h1.lt q e).2) hB hu hb hg' hx hat⟩
/-- Rows are drawn, in new memory. -/
def DrawnRows (w0 : World) (c : Nat) (v : Value) (xs : List Int) (w : World) (e : Ending) (w' : World) : Prop :=
  ∃ (u : Value) (rs : List RowD), e = .returned u ∧ OwnsR w' w.heap.size u rs ∧ rs.length ≤ 9 ∧ (∀ r ∈ rs, r.2.length ≤ 4) ∧ Dr w0 c v xs w w'
set_option maxHeartbeats 8000000 in
set_option maxRecDepth 100000 in
theorem rows_any (w0 : World) (c : Nat) (v : Value) (xs : List Int) (w : World) (hC : Cur w0 c v xs w) :
    Calls Tryz.prog 54 #[.pointer (some ⟨c, 0, none⟩), .int .i64 8] w fun e w' => ∃ (u : Value) (rs : List RowD), e = .returned u ∧ OwnsR w' w.heap.size u rs ∧ rs.length ≤ 8 ∧ (∀ r ∈ rs, r.2.length ≤ 4) ∧ Dr w0 c v xs w w' := by
  have D0 := (Dr.start hC).alloc (.cells #[] 36)
  have o0 : OwnsR (w.alloc (.cells #[] 36)) w.heap.size (.slice (some ⟨w.heap.size, 0, none⟩) 0 0) [] := ownsR_empty w
  have hcB := cur_lt hC
  clear hC
  go_enter Tryz.func54, Tryz.ntmps54
  go_wp2_with fail
  generalize w.alloc (.cells #[] 36) = W at *
  refine (below_any w0 c v xs _ D0.cur 3 (by omega) (by omega)).mono ?_
  rintro e w1 ⟨x, x0, x1, rfl, hC1, hg1⟩
  have D1 := D0.call hC1 hg1
  have o1 := ownsR_grown o0 hg1 hcB
  clear D0 o0 hC1 hg1
  go_wp2_with fail
  refine (below_any w0 c v xs _ D1.cur 9 (by omega) (by omega)).mono ?_
  rintro e w2 ⟨n, n0, n1, rfl, hC2, hg2⟩
  obtain ⟨n, rfl⟩ := Int.eq_ofNat_of_zero_le n0
  have D2 := D1.call hC2 hg2
  have o2 := ownsR_grown o1 hg2 hcB
  clear D1 o1 hC2 hg2
  go_wp2_with fail
  go_loopw [5, 6, 7] (fun l y i wr => ∃ (m : Nat) (z : Int) (rs : List RowD), rs.length + m ≤ 8 ∧ 0 ≤ z ∧ z + 3 * (m : Int) ≤ 26 ∧ y = .int .i64 z ∧ i = .int .i64 m ∧ OwnsR wr w.heap.size l rs ∧ Hid (∀ r ∈ rs, r.2.length ≤ 4) ∧ Dr w0 c v xs w wr) (fun _ _ i _ => (intOf i).toNat)
  case atStart => exact ⟨n, x, [], by simp; omega, x0, by omega, rfl, rfl, o2, Lib.hid (fun r hr => by simp at hr), D2⟩
  case round =>
    obtain ⟨m, z, rs, hrm, z0, z1, rfl, rfl, hown, hall, hD⟩ := hrel
    clear D2 o2
    by_cases hlt : 0 < m
    · go_wp2_with fail
      refine (row_any w0 c v xs _ hD.cur z).mono ?_
      rintro e w3 ⟨id, u, ys, rfl, ou, hyl, d3⟩
      obtain ⟨ua, ucap, rfl⟩ := ints_len (ownsN_ints ou)
      have D3 := hD.call d3.cur d3.gr
      obtain ⟨cs, oX, hnext⟩ := ownsR_next (id := id) hown d3.gr hcB hD.size ou
      have HN := Lib.hid hnext
      have HRM : Hid (rs.length + m ≤ 8) := Lib.hid hrm
      have HALL : Hid (∀ r ∈ rs ++ [(id, ys)], r.2.length ≤ 4) := Lib.hid (by
        intro r hr
        rcases List.mem_append.1 hr with h | h
        · exact hall.out r h
        · simp at h; rw [h]; simp only; omega)
      have al : Below w3.heap.size w3 (w3.alloc (.cells #[.int .i64 id, .slice ua ys.length ucap] 36)) := (Below.refl _ _).alloc (Nat.le_refl _) _
      have oX4 := rowsC_kept oX al
      have D4 := D3.alloc (.cells #[.int .i64 id, .slice ua ys.length ucap] 36)
      have HAL := Lib.hid al
      have HD4 := Lib.hid D4
      clear hown hnext hall d3 D3 oX al ou hD hyl D4
      go_wp2_with (at_builtin; refine append_rows rfl (.tmp 19) (.tmp 23) rfl w.heap.size _ _ _ rfl oX4 HD4.out.size ⟨w3.heap.size, 0, none⟩ 1 1 [.int .i64 id, .slice ua ys.length ucap] rfl rfl (fun j u hj => by rw [Go.WideShapes.add_plain, Nat.zero_add, cell_lit]; simpa using hj) (by intro u hu; simp at hu; rcases hu with rfl | rfl <;> rfl) (by have := HRM.out; omega) ?_)
      intro u5 w5 o5 g5 _ hat
      have oR5 := HN.out _ w5 u5 HAL.out g5 o5 (by simpa [World.size_alloc] using hat)
      have D5 := HD4.out.below ((Below.refl w.heap.size _).grown g5 HD4.out.size (fun k hk => (oX4.lt k hk).1)) (Nat.le_refl _)
      clear o5 g5 hat oX4 HN HAL HD4
      go_wp2_with fail
      refine (below_any w0 c v xs _ D5.cur 3 (by omega) (by omega)).mono ?_
      rintro e w6 ⟨p, p0, p1, rfl, hC6, hg6⟩
      have D6 := D5.call hC6 hg6
      have o6 := ownsR_grown oR5 hg6 hcB
      clear D5 oR5 hC6 hg6
      go_wp2
      go_roundw
      case rel => exact ⟨m - 1, z + 1 + p, rs ++ [(id, ys)], by have := HRM.out; simp; omega, by omega, by omega, by go_num, by go_num, o6, HALL, D6⟩
      case measure => simp [intOf]; omega
    · obtain rfl : m = 0 := by omega
      go_wp2
      go_ret
      exact ⟨_, rs, rfl, hown, by omega, hall.out, hD⟩
set_option maxHeartbeats 8000000 in
set_option maxRecDepth 100000 in
theorem anyRows_any (w0 : World) (c : Nat) (v : Value) (xs : List Int) (w : World) (hC : Cur w0 c v xs w) :
    Calls Tryz.prog 24 #[.pointer (some ⟨c, 0, none⟩)] w (DrawnRows w0 c v xs w) := by
  have hcB := cur_lt hC
  go_enter Tryz.func24, Tryz.ntmps24
  go_wp2_with fail
  refine (rows_any w0 c v xs _ hC).mono ?_
  rintro e w1 ⟨u, rs, rfl, o1, hl, hall, D1⟩
  go_wp2_with fail
  refine (once_any w0 c v xs _ D1.cur 6 (by omega) (by omega)).mono ?_
  rintro e w2 ⟨⟨b, rfl⟩, hC2, hg2⟩
  have D2 := D1.call hC2 hg2
  have o2 := ownsR_grown o1 hg2 hcB
  clear D1 o1 hC2 hg2 hC
  cases b with
  | false =>
    go_wp2
    go_ret
    exact ⟨_, rs, rfl, o2, by omega, hall, D2⟩
  | true =>
    have HALL0 := Lib.hid hall
    clear hall
    go_wp2_with fail
    refine (rowAny_any w0 c v xs _ D2.cur).mono ?_
    rintro e w3 ⟨id, u3, ys, rfl, ou, hyl, d3⟩
    obtain ⟨ua, ucap, rfl⟩ := ints_len (ownsN_ints ou)
    have D3 := D2.call d3.cur d3.gr
    obtain ⟨cs, oX, hnext⟩ := ownsR_next (id := id) o2 d3.gr hcB D2.size ou
    have HN := Lib.hid hnext
    have HRM : Hid (rs.length ≤ 8) := Lib.hid hl
    have HALL : Hid (∀ r ∈ rs ++ [(id, ys)], r.2.length ≤ 4) := Lib.hid (by
      intro r hr
      rcases List.mem_append.1 hr with h | h
      · exact HALL0.out r h
      · simp at h; rw [h]; simp only; omega)
    have al : Below w3.heap.size w3 (w3.alloc (.cells #[.int .i64 id, .slice ua ys.length ucap] 36)) := (Below.refl _ _).alloc (Nat.le_refl _) _
    have oX4 := rowsC_kept oX al
    have D4 := D3.alloc (.cells #[.int .i64 id, .slice ua ys.length ucap] 36)
    have HAL := Lib.hid al
    have HD4 := Lib.hid D4
    clear o2 hnext d3 D3 oX al ou D2 hyl D4 hl
    go_wp2_with (at_builtin; refine append_rows rfl (.tmp 8) (.tmp 11) rfl w.heap.size _ _ _ rfl oX4 HD4.out.size ⟨w3.heap.size, 0, none⟩ 1 1 [.int .i64 id, .slice ua ys.length ucap] rfl rfl (fun j u hj => by rw [Go.WideShapes.add_plain, Nat.zero_add, cell_lit]; simpa using hj) (by intro u hu; simp at hu; rcases hu with rfl | rfl <;> rfl) (by have := HRM.out; omega) ?_)
    intro u5 w5 o5 g5 _ hat
    have oR5 := HN.out _ w5 u5 HAL.out g5 o5 (by simpa [World.size_alloc] using hat)
    have D5 := HD4.out.below ((Below.refl w.heap.size _).grown g5 HD4.out.size (fun k hk => (oX4.lt k hk).1)) (Nat.le_refl _)
    clear o5 g5 hat oX4 HN HAL HD4
    go_wp2
    go_ret
    exact ⟨_, _, rfl, oR5, by have := HRM.out; simp; omega, HALL.out, D5⟩
end Go.Proofs.YtijfnabglblimaaGreatDoor
namespace Go.Proofs.YtijfnabglblimaaGreatDoor
open Go.RowKit
set_option linter.unusedVariables false
set_option linter.unusedSimpArgs false
theorem owns_belowC {w w' : World} {B C : Nat} {e : TypeId} {size : Nat} {v : Value} {n : Nat} {xs : List Value} (h : w.ownsRow B e size v n xs) (hb : Below C w w') (hC : ∀ b, v.ownBlock = some b → b < C) : w'.ownsRow B e size v n xs := by
  refine ⟨h.1, ?_⟩
  rcases h.2 with hn | ⟨g, cap, cur, rfl, hb', hg, rest⟩
  · exact .inl hn
  · exact .inr ⟨g, cap, cur, rfl, hb', (hb.block g (hC g rfl)).trans hg, rest⟩
/-- A query is drawn, in new memory. -/
def DrawnQ (w0 : World) (c : Nat) (v : Value) (xs : List Int) (w : World) (e : Ending) (w' : World) : Prop :=
  ∃ (id tn : Int) (cs : List CondD) (os : List Int) (cv ov : Value), e = .returned (qV id tn cv ov) ∧ OwnsC w' w.heap.size cv cs ∧ OwnsN w' w.heap.size ov os ∧ cs.length ≤ 4 ∧ os.length ≤ 4 ∧ Dr w0 c v xs w w'
def DrawnQ3 (w0 : World) (c : Nat) (v : Value) (xs : List Int) (w : World) (e : Ending) (w' : World) : Prop :=
  ∃ (id tn : Int) (cs : List CondD) (os : List Int) (cv ov : Value), e = .returned (qV id tn cv ov) ∧ OwnsC w' w.heap.size cv cs ∧ OwnsN w' w.heap.size ov os ∧ cs.length ≤ 3 ∧ os.length ≤ 3 ∧ (∀ b, cv.ownBlock = some b → ov.ownBlock ≠ some b) ∧ Dr w0 c v xs w w'
set_option maxHeartbeats 16000000 in
set_option maxRecDepth 100000 in
theorem query_drawn (w0 : World) (c : Nat) (v : Value) (xs : List Int) (w : World) (hC : Cur w0 c v xs w) (id : Int) :
    Calls Tryz.prog 51 #[.pointer (some ⟨c, 0, none⟩), .int .i64 id] w (DrawnQ3 w0 c v xs w) := by
  have D0 := (Dr.start hC).alloc (.cells #[.int .i64 0, .int .i64 0, .slice none 0 0, .slice none 0 0] 27)
  have z0 := heap_alloc_new w (.cells #[.int .i64 0, .int .i64 0, .slice none 0 0, .slice none 0 0] 27)
  have s0 : (w.alloc (.cells #[.int .i64 0, .int .i64 0, .slice none 0 0, .slice none 0 0] 27)).heap.size = w.heap.size + 1 := by simp
  have hcB := cur_lt hC
  clear hC
  go_enter Tryz.func51, Tryz.ntmps51
  go_wp2_with fail
  generalize w.alloc (.cells #[.int .i64 0, .int .i64 0, .slice none 0 0, .slice none 0 0] 27) = W at *
  refine (below_any w0 c v xs _ D0.cur 4 (by omega) (by omega)).mono ?_
  rintro e w1 ⟨tn, x0, x1, rfl, hC1, hg1⟩
  have D1 := D0.call hC1 hg1
  have z1 := keep hg1 (D0.ne (Nat.le_refl _)) z0
  have s1 : w.heap.size + 1 ≤ w1.heap.size := by rw [← s0]; exact hg1.size
  clear D0 z0 s0 hC1 hg1
  have D2 := (D1.alloc (.cells #[.int .i64 id, .int .i64 tn, .slice none 0 0, .slice none 0 0] 27)).alloc (.cells (wides.map (Value.int .i64)).toArray 3 (0, 0))
  have z2 := keepA (.cells (wides.map (Value.int .i64)).toArray 3 (0, 0)) (keepA (.cells #[.int .i64 id, .int .i64 tn, .slice none 0 0, .slice none 0 0] 27) z1)
  have b2 := keepA (.cells (wides.map (Value.int .i64)).toArray 3 (0, 0)) (heap_alloc_new w1 (.cells #[.int .i64 id, .int .i64 tn, .slice none 0 0, .slice none 0 0] 27))
  have l2 := heap_alloc_new (w1.alloc (.cells #[.int .i64 id, .int .i64 tn, .slice none 0 0, .slice none 0 0] 27)) (.cells (wides.map (Value.int .i64)).toArray 3 (0, 0))
  have s2 : ((w1.alloc (.cells #[.int .i64 id, .int .i64 tn, .slice none 0 0, .slice none 0 0] 27)).alloc (.cells (wides.map (Value.int .i64)).toArray 3 (0, 0))).heap.size = w1.heap.size + 1 + 1 := by simp
  simp only [World.size_alloc] at l2
  have hne : w1.heap.size + 1 ≠ c := D1.ne (by omega)
  have HP := Lib.hid (pick_any w0 c v xs _ D2.cur (w1.heap.size + 1) wides 3 100 wides_in (by decide) (by decide) l2 hne)
  have HS1 := Lib.hid s1
  have HD2 := Lib.hid D2
  have HZ2 := Lib.hid z2
  have HB2 := Lib.hid b2
  have HS2 := Lib.hid s2
  clear D1 z1 D2 z2 b2 l2 s2 s1 hne
  go_wp2_with fail
  refine Calls.mono HP.out ?_
  rintro e w3 ⟨wd, wd0, wd1, rfl, hC3, hg3⟩
  obtain ⟨R, hR⟩ : ∃ R, w1.heap.size = R := ⟨_, rfl⟩
  have D3 := HD2.out.call hC3 hg3
  have z3 := keep hg3 (HD2.out.ne (Nat.le_refl _)) HZ2.out
  have b3 := keep hg3 (HD2.out.ne (by have := HS1.out; omega)) HB2.out
  have s3 : w1.heap.size + 1 ≤ w3.heap.size := by have h2 := hg3.size; rw [HS2.out] at h2; omega
  rw [hR] at b3 s3 HS1 ⊢
  clear HP HD2 HZ2 HB2 HS2 hC3 hg3 hR
  go_wp2
  go_loopw [7] (fun i wr => ∃ (k : Nat) (cv : Value) (cs : List CondD), k ≤ 3 ∧ Hid (cs.length ≤ k) ∧ i = .int .i64 k ∧ wr.heap[R]? = some (.cells #[.int .i64 id, .int .i64 tn, cv, .slice none 0 0] 27 (0, 0)) ∧ wr.heap[w.heap.size]? = some (.cells #[.int .i64 0, .int .i64 0, .slice none 0 0, .slice none 0 0] 27 (0, 0)) ∧ OwnsC wr (R + 1) cv cs ∧ Dr w0 c v xs w wr) (fun i _ => 3 - (intOf i).toNat)
  case atStart => exact ⟨0, .slice none 0 0, [], by omega, Lib.hid (by simp), rfl, b3, z3, ownsC_nil _ _, D3⟩
  case round =>
    obtain ⟨k, cv, cs, hk, hcl, rfl, hb, hz, hown, hD⟩ := hrel
    clear D3 b3 z3 s3
    obtain ⟨ca, ccap, rfl⟩ := ownsC_len hown
    have hRl := (Array.getElem?_eq_some_iff.1 hb).1
    by_cases hlt : k < 3
    · go_wp2_with fail
      refine (once_any w0 c v xs _ hD.cur 2 (by omega) (by omega)).mono ?_
      rintro e w4 ⟨⟨b, rfl⟩, hC4, hg4⟩
      have D4 := hD.call hC4 hg4
      have b4 := keep hg4 (hD.ne (by have := HS1.out; omega)) hb
      have z4 := keep hg4 (hD.ne (Nat.le_refl _)) hz
      have o4 : OwnsC w4 (R + 1) _ cs := kept_low hown hg4 (by have := hD.lt; have := HS1.out; omega)
      have l4 := Nat.lt_of_lt_of_le hRl hg4.size
      clear hD hC4 hg4 hb hz hown hRl
      cases b with
      | false =>
        go_wp2
        go_roundw
        case rel => exact ⟨k + 1, _, cs, by omega, Lib.hid (by have := hcl.out; omega), by go_num, b4, z4, o4, D4⟩
        case measure => simp [intOf]; omega
      | true =>
        go_wp2_with fail
        refine (below_any w0 c v xs _ D4.cur wd (by omega) (by omega)).mono ?_
        rintro e w5 ⟨lo, lo0, lo1, rfl, hC5, hg5⟩
        have D5 := D4.call hC5 hg5
        have b5 := keep hg5 (D4.ne (by have := HS1.out; omega)) b4
        have z5 := keep hg5 (D4.ne (Nat.le_refl _)) z4
        have o5 : OwnsC w5 (R + 1) _ cs := kept_low o4 hg5 (by have := D4.lt; have := HS1.out; omega)
        have l5 := Nat.lt_of_lt_of_le l4 hg5.size
        clear D4 hC5 hg5 b4 z4 o4 l4
        go_wp2_with fail
        refine (below_any w0 c v xs _ D5.cur wd (by omega) (by omega)).mono ?_
        rintro e w6 ⟨x, xl, xh, rfl, hC6, hg6⟩
        have D6 := D5.call hC6 hg6
        have b6 := keep hg6 (D5.ne (by have := HS1.out; omega)) b5
        have z6 := keep hg6 (D5.ne (Nat.le_refl _)) z5
        have o6 : OwnsC w6 (R + 1) _ cs := kept_low o5 hg6 (by have := D5.lt; have := HS1.out; omega)
        have l6 := Nat.lt_of_lt_of_le l5 hg6.size
        clear D5 hC6 hg6 b5 z5 o5 l5
        have wsum : IntKind.i64.wrap (lo + x) = lo + x := IntWalk.i64_in _ (by omega)
        go_wp2_with fail
        generalize min 99 (lo + x) = hi at *
        clear wsum
        refine (once_any w0 c v xs _ D6.cur 3 (by omega) (by omega)).mono ?_
        rintro e w7 ⟨⟨b7', rfl⟩, hC7, hg7⟩
        have D7 := D6.call hC7 hg7
        have b7 := keep hg7 (D6.ne (by have := HS1.out; omega)) b6
        have z7 := keep hg7 (D6.ne (Nat.le_refl _)) z6
        have o7 : OwnsC w7 (R + 1) _ cs := kept_low o6 hg7 (by have := D6.lt; have := HS1.out; omega)
        have l7 := Nat.lt_of_lt_of_le l6 hg7.size
        clear D6 hC7 hg7 b6 z6 o6 l6
        cases b7' with
        | false =>
          have al : Below w7.heap.size w7 (w7.alloc (.cells #[.int .i64 (k : Int), .int .i64 lo, .int .i64 hi] 67)) := (Below.refl _ _).alloc (Nat.le_refl _) _
          have q7 : (w7.alloc (.cells #[.int .i64 (k : Int), .int .i64 lo, .int .i64 hi] 67)).cell? ⟨w7.heap.size, 0, none⟩ = some (.int .i64 (k : Int)) ∧ (w7.alloc (.cells #[.int .i64 (k : Int), .int .i64 lo, .int .i64 hi] 67)).cell? ⟨w7.heap.size, 1, none⟩ = some (.int .i64 lo) ∧ (w7.alloc (.cells #[.int .i64 (k : Int), .int .i64 lo, .int .i64 hi] 67)).cell? ⟨w7.heap.size, 2, none⟩ = some (.int .i64 hi) := ⟨(cell_lit w7 #[.int .i64 (k : Int), .int .i64 lo, .int .i64 hi] 67 0).trans rfl, (cell_lit w7 #[.int .i64 (k : Int), .int .i64 lo, .int .i64 hi] 67 1).trans rfl, (cell_lit w7 #[.int .i64 (k : Int), .int .i64 lo, .int .i64 hi] 67 2).trans rfl⟩
          have l8 : w7.heap.size < (w7.alloc (.cells #[.int .i64 (k : Int), .int .i64 lo, .int .i64 hi] 67)).heap.size := by simp
          have HC7 := Lib.hid (conds_one q7 l8)
          have b8 := keepA (.cells #[.int .i64 (k : Int), .int .i64 lo, .int .i64 hi] 67) b7
          have z8 := keepA (.cells #[.int .i64 (k : Int), .int .i64 lo, .int .i64 hi] 67) z7
          have o8 := ownsC_below o7 al
          have D8 := D7.alloc (.cells #[.int .i64 (k : Int), .int .i64 lo, .int .i64 hi] 67)
          have s8 := Nat.le_trans (Nat.succ_le_of_lt l7) al.size
          have p2 := (cell_of_row w7 _ 2 _ _ _ b7).trans (show _ = some (Value.slice ca cs.length ccap) from rfl)
          clear al q7 l8 b7 z7 o7 D7 l7
          go_wp2_with (at_builtin; refine wpl_append_conds rfl (.tmp 38) (.tmp 43) rfl (R + 1) _ _ cs [((k : Int), lo, hi)] rfl rfl o8 HC7.out s8 (by have := hcl.out; simp; omega) ?_)
          intro u9 w9 o9 bl9
          obtain ⟨ub, ubc, rfl⟩ := ownsC_len o9
          have o9c : OwnsC w9 (R + 1) (.slice ub (cs.length + 1) ubc) (cs ++ [((k : Int), lo, hi)]) := by simpa using o9
          have b9 := keepB bl9 (Nat.lt_succ_self _) b8
          have z9 := keepB bl9 (by have := HS1.out; omega) z8
          have D9 := D8.below bl9 (by have := HS1.out; omega)
          simp only [List.length_append, List.length_cons, List.length_nil, Nat.zero_add]
          have y2 := (cell_of_row w9 _ 2 _ _ _ b9).trans (show _ = some (Value.slice ca cs.length ccap) from rfl)
          have f2 := frozen_of_row w9 _ 2 _ _ b9
          clear o8 b8 z8 D8 s8 bl9 o9 p2
          go_wp2
          have r9 := heap_setCell_same w9 R 2 _ _ (.slice ub (cs.length + 1) ubc) b9
          have zz := (heap_setCell_other w9 ⟨R, 2, none⟩ w.heap.size (.slice ub (cs.length + 1) ubc) (by have := HS1.out; simp; omega)).trans z9
          have D10 := D9.set (R := R) (by have := HS1.out; omega) 2 (.slice ub (cs.length + 1) ubc)
          have o10 := ownsC_low o9c (b := R) (Nat.lt_succ_self _) 2 (.slice ub (cs.length + 1) ubc)
          go_roundw
          case rel => exact ⟨k + 1, _, _, by omega, Lib.hid (by have := hcl.out; simp; omega), by go_num, r9, zz, o10, D10⟩
          case measure => simp [intOf]; omega
        | true =>
          have al : Below w7.heap.size w7 (w7.alloc (.cells #[.int .i64 (k : Int), .int .i64 lo, .int .i64 lo] 67)) := (Below.refl _ _).alloc (Nat.le_refl _) _
          have q7 : (w7.alloc (.cells #[.int .i64 (k : Int), .int .i64 lo, .int .i64 lo] 67)).cell? ⟨w7.heap.size, 0, none⟩ = some (.int .i64 (k : Int)) ∧ (w7.alloc (.cells #[.int .i64 (k : Int), .int .i64 lo, .int .i64 lo] 67)).cell? ⟨w7.heap.size, 1, none⟩ = some (.int .i64 lo) ∧ (w7.alloc (.cells #[.int .i64 (k : Int), .int .i64 lo, .int .i64 lo] 67)).cell? ⟨w7.heap.size, 2, none⟩ = some (.int .i64 lo) := ⟨(cell_lit w7 #[.int .i64 (k : Int), .int .i64 lo, .int .i64 lo] 67 0).trans rfl, (cell_lit w7 #[.int .i64 (k : Int), .int .i64 lo, .int .i64 lo] 67 1).trans rfl, (cell_lit w7 #[.int .i64 (k : Int), .int .i64 lo, .int .i64 lo] 67 2).trans rfl⟩
          have l8 : w7.heap.size < (w7.alloc (.cells #[.int .i64 (k : Int), .int .i64 lo, .int .i64 lo] 67)).heap.size := by simp
          have HC7 := Lib.hid (conds_one q7 l8)
          have b8 := keepA (.cells #[.int .i64 (k : Int), .int .i64 lo, .int .i64 lo] 67) b7
          have z8 := keepA (.cells #[.int .i64 (k : Int), .int .i64 lo, .int .i64 lo] 67) z7
          have o8 := ownsC_below o7 al
          have D8 := D7.alloc (.cells #[.int .i64 (k : Int), .int .i64 lo, .int .i64 lo] 67)
          have s8 := Nat.le_trans (Nat.succ_le_of_lt l7) al.size
          have p2 := (cell_of_row w7 _ 2 _ _ _ b7).trans (show _ = some (Value.slice ca cs.length ccap) from rfl)
          clear al q7 l8 b7 z7 o7 D7 l7
          go_wp2_with (at_builtin; refine wpl_append_conds rfl (.tmp 38) (.tmp 43) rfl (R + 1) _ _ cs [((k : Int), lo, lo)] rfl rfl o8 HC7.out s8 (by have := hcl.out; simp; omega) ?_)
          intro u9 w9 o9 bl9
          obtain ⟨ub, ubc, rfl⟩ := ownsC_len o9
          have o9c : OwnsC w9 (R + 1) (.slice ub (cs.length + 1) ubc) (cs ++ [((k : Int), lo, lo)]) := by simpa using o9
          have b9 := keepB bl9 (Nat.lt_succ_self _) b8
          have z9 := keepB bl9 (by have := HS1.out; omega) z8
          have D9 := D8.below bl9 (by have := HS1.out; omega)
          simp only [List.length_append, List.length_cons, List.length_nil, Nat.zero_add]
          have y2 := (cell_of_row w9 _ 2 _ _ _ b9).trans (show _ = some (Value.slice ca cs.length ccap) from rfl)
          have f2 := frozen_of_row w9 _ 2 _ _ b9
          clear o8 b8 z8 D8 s8 bl9 o9 p2
          go_wp2
          have r9 := heap_setCell_same w9 R 2 _ _ (.slice ub (cs.length + 1) ubc) b9
          have zz := (heap_setCell_other w9 ⟨R, 2, none⟩ w.heap.size (.slice ub (cs.length + 1) ubc) (by have := HS1.out; simp; omega)).trans z9
          have D10 := D9.set (R := R) (by have := HS1.out; omega) 2 (.slice ub (cs.length + 1) ubc)
          have o10 := ownsC_low o9c (b := R) (Nat.lt_succ_self _) 2 (.slice ub (cs.length + 1) ubc)
          go_roundw
          case rel => exact ⟨k + 1, _, _, by omega, Lib.hid (by have := hcl.out; simp; omega), by go_num, r9, zz, o10, D10⟩
          case measure => simp [intOf]; omega
    · obtain rfl : k = 3 := by omega
      go_wp2_with fail
      refine (below_any w0 c v xs _ hD.cur 3 (by omega) (by omega)).mono ?_
      rintro e w4 ⟨n, n0, n1, rfl, hC4, hg4⟩
      obtain ⟨n, rfl⟩ := Int.eq_ofNat_of_zero_le n0
      have D4 := hD.call hC4 hg4
      have b4 := keep hg4 (hD.ne (by have := HS1.out; omega)) hb
      have z4 := keep hg4 (hD.ne (Nat.le_refl _)) hz
      have o4 : OwnsC w4 (R + 1) _ cs := kept_low hown hg4 (by have := hD.lt; have := HS1.out; omega)
      have HL4 := Lib.hid (Nat.lt_of_lt_of_le hRl hg4.size)
      have HCB := Lib.hid (fun b (hb : (Value.slice ca cs.length ccap).ownBlock = some b) => o4.lt b hb)
      have HCL := Lib.hid hcl.out
      clear hD hC4 hg4 hb hz hown hRl hcl hlt hk
      obtain ⟨C, hCC⟩ : ∃ C, w4.heap.size = C := ⟨_, rfl⟩
      have HCS : Hid (C ≤ w4.heap.size) := Lib.hid (by omega)
      rw [hCC] at HL4 HCB
      clear hCC
      have wn : IntKind.i64.wrap (1 + (n : Int)) = ((n + 1 : Nat) : Int) := by rw [IntWalk.i64_in _ (by omega)]; omega
      go_wp2
      clear wn
      go_loopw [10] (fun i wr => ∃ (m : Nat) (ov : Value) (os : List Int), Hid (os.length + m ≤ 3) ∧ i = .int .i64 m ∧ wr.heap[R]? = some (.cells #[.int .i64 id, .int .i64 tn, .slice ca cs.length ccap, ov] 27 (0, 0)) ∧ wr.heap[w.heap.size]? = some (.cells #[.int .i64 0, .int .i64 0, .slice none 0 0, .slice none 0 0] 27 (0, 0)) ∧ OwnsC wr (R + 1) (.slice ca cs.length ccap) cs ∧ OwnsN wr C ov os ∧ Hid (C ≤ wr.heap.size) ∧ Dr w0 c v xs w wr) (fun i _ => (intOf i).toNat)
      case atStart => exact ⟨n + 1, .slice none 0 0, [], Lib.hid (by simp; omega), by simp, b4, z4, o4, ownsN_nil _ _, HCS, D4⟩
      case round =>
        obtain ⟨m, ov, os, hom, rfl, hb, hz, hoc, hon, hCs, hD⟩ := hrel
        clear D4 b4 z4 o4 HCS
        obtain ⟨oa, ocap, rfl⟩ := ints_len (ownsN_ints hon)
        by_cases hlt : 0 < m
        · have hm4 : m ≤ 3 := by have := hom.out; omega
          go_wp2_with fail
          refine (below_any w0 c v xs _ hD.cur 3 (by omega) (by omega)).mono ?_
          rintro e w5 ⟨f, fl, fh, rfl, hC5, hg5⟩
          have D5 := hD.call hC5 hg5
          have b5 := keep hg5 (hD.ne (by have := HS1.out; omega)) hb
          have z5 := keep hg5 (hD.ne (Nat.le_refl _)) hz
          have oc5 : OwnsC w5 (R + 1) _ cs := kept_low hoc hg5 (by have := hD.lt; have := HS1.out; omega)
          have on5 := ownsN_grown hon hg5 (by have := hD.lt; have := HS1.out; have := HL4.out; omega)
          have s5 := Nat.le_trans hCs.out hg5.size
          clear hD hC5 hg5 hb hz hoc hon hCs
          have al : Below w5.heap.size w5 (w5.alloc (.cells #[.int .i64 f] 3)) := (Below.refl _ _).alloc (Nat.le_refl _) _
          have q7 := (cell_lit w5 #[.int .i64 f] 3 0).trans (show _ = some (Value.int .i64 f) from rfl)
          have b6 := keepA (.cells #[.int .i64 f] 3) b5
          have z6 := keepA (.cells #[.int .i64 f] 3) z5
          have oc6 := ownsC_below oc5 al
          have on6 := ownsN_below on5 al
          have D6 := D5.alloc (.cells #[.int .i64 f] 3)
          have s6 := Nat.le_trans s5 al.size
          have p3 := (cell_of_row w5 _ 3 _ _ _ b5).trans (show _ = some (Value.slice oa os.length ocap) from rfl)
          clear D5 b5 z5 oc5 on5 s5 al
          go_wp2_with (at_builtin; refine wpl_append_one rfl (.tmp 56) (.tmp 58) rfl C (.slice oa os.length ocap) os w5.heap.size f rfl rfl on6 q7 s6 (by have := hom.out; omega) ?_)
          intro u9 w9 o9 g9
          obtain ⟨ub, ubc, rfl⟩ := ints_len (ownsN_ints o9)
          have on9 : OwnsN w9 C (.slice ub (os.length + 1) ubc) (os ++ [f]) := by simpa using o9
          have bl9 := (Below.refl C _).grown g9 s6 (fun q hq => (on6.lt q hq).1)
          have b9 := keepB bl9 HL4.out b6
          have z9 := keepB bl9 (by have := HS1.out; have := HL4.out; omega) z6
          have D9 := D6.below bl9 (by have := HS1.out; have := HL4.out; omega)
          have oc9 : OwnsC w9 (R + 1) _ cs := owns_belowC oc6 bl9 (fun q hq => (HCB.out q hq).2)
          simp only [List.length_append, List.length_cons, List.length_nil, Nat.zero_add]
          have y3 := (cell_of_row w9 _ 3 _ _ _ b9).trans (show _ = some (Value.slice oa os.length ocap) from rfl)
          have f3 := frozen_of_row w9 _ 3 _ _ b9
          have s9 := Nat.le_trans s6 g9.size
          clear o9 g9 b6 z6 oc6 on6 D6 s6 p3 q7 bl9
          go_wp2
          have r9 := heap_setCell_same w9 R 3 _ _ (.slice ub (os.length + 1) ubc) b9
          have zz := (heap_setCell_other w9 ⟨R, 3, none⟩ w.heap.size (.slice ub (os.length + 1) ubc) (by have := HS1.out; simp; omega)).trans z9
          have D10 := D9.set (R := R) (by have := HS1.out; omega) 3 (.slice ub (os.length + 1) ubc)
          have oc10 := ownsC_low oc9 (b := R) (Nat.lt_succ_self _) 3 (.slice ub (os.length + 1) ubc)
          have on10 := ownsN_low on9 (b := R) HL4.out 3 (.slice ub (os.length + 1) ubc)
          go_roundw
          case rel => exact ⟨m - 1, _, _, Lib.hid (by have := hom.out; simp; omega), by go_num, r9, zz, oc10, on10, Lib.hid (by simpa [World.setCell] using s9), D10⟩
          case measure => simp [intOf]; omega
        · obtain rfl : m = 0 := by omega
          have q0 := (cell_of_row wr _ 0 _ _ _ hb).trans (show _ = some (Value.int .i64 id) from rfl)
          have y0 := (cell_of_row wr _ 0 _ _ _ hz).trans (show _ = some (Value.int .i64 0) from rfl)
          have f0 := frozen_of_row wr _ 0 _ _ hz
          have q1 := (cell_of_row wr _ 1 _ _ _ hb).trans (show _ = some (Value.int .i64 tn) from rfl)
          have y1 := (cell_of_row wr _ 1 _ _ _ hz).trans (show _ = some (Value.int .i64 0) from rfl)
          have f1 := frozen_of_row wr _ 1 _ _ hz
          have q2 := (cell_of_row wr _ 2 _ _ _ hb).trans (show _ = some (Value.slice ca cs.length ccap) from rfl)
          have y2 := (cell_of_row wr _ 2 _ _ _ hz).trans (show _ = some (Value.slice none 0 0) from rfl)
          have f2 := frozen_of_row wr _ 2 _ _ hz
          have q3 := (cell_of_row wr _ 3 _ _ _ hb).trans (show _ = some (Value.slice oa os.length ocap) from rfl)
          have y3 := (cell_of_row wr _ 3 _ _ _ hz).trans (show _ = some (Value.slice none 0 0) from rfl)
          have f3 := frozen_of_row wr _ 3 _ _ hz
          go_wp2
          have r1 := heap_setCell_same wr w.heap.size 0 _ _ (.int .i64 id) hz
          have r2 := heap_setCell_same _ w.heap.size 1 _ _ (.int .i64 tn) r1
          have r3 := heap_setCell_same _ w.heap.size 2 _ _ (.slice ca cs.length ccap) r2
          have r4 := heap_setCell_same _ w.heap.size 3 _ _ (.slice oa os.length ocap) r3
          have D9 := ((((hD.set (R := w.heap.size) (Nat.le_refl _) 0 (.int .i64 id)).set (R := w.heap.size) (Nat.le_refl _) 1 (.int .i64 tn)).set (R := w.heap.size) (Nat.le_refl _) 2 (.slice ca cs.length ccap)).set (R := w.heap.size) (Nat.le_refl _) 3 (.slice oa os.length ocap))
          have oc9 := (ownsC_low (ownsC_low (ownsC_low (ownsC_low hoc (b := w.heap.size) (by have := HS1.out; omega) 0 (.int .i64 id)) (b := w.heap.size) (by have := HS1.out; omega) 1 (.int .i64 tn)) (b := w.heap.size) (by have := HS1.out; omega) 2 (.slice ca cs.length ccap)) (b := w.heap.size) (by have := HS1.out; omega) 3 (.slice oa os.length ocap))
          have on9 := (ownsN_low (ownsN_low (ownsN_low (ownsN_low hon (b := w.heap.size) (by have := HS1.out; have := HL4.out; omega) 0 (.int .i64 id)) (b := w.heap.size) (by have := HS1.out; have := HL4.out; omega) 1 (.int .i64 tn)) (b := w.heap.size) (by have := HS1.out; have := HL4.out; omega) 2 (.slice ca cs.length ccap)) (b := w.heap.size) (by have := HS1.out; have := HL4.out; omega) 3 (.slice oa os.length ocap))
          have e0 := cell_of_row _ _ 0 _ _ _ r4
          have e1 := cell_of_row _ _ 1 _ _ _ r4
          have e2 := cell_of_row _ _ 2 _ _ _ r4
          have e3 := cell_of_row _ _ 3 _ _ _ r4
          simp at e0 e1 e2 e3
          have hap : ∀ b, (Value.slice ca cs.length ccap).ownBlock = some b → (Value.slice oa os.length ocap).ownBlock ≠ some b := fun b h1 h2 => by have := (HCB.out b h1).2; have := (hon.lt b h2).1; omega
          refine bodyPost_ret (v := qV id tn (.slice ca cs.length ccap) (.slice oa os.length ocap)) ?_ rfl ?_
          · simp [results, Tryz.f51, go_sem, e0, e1, e2, e3, qV]
          · exact ⟨id, tn, cs, os, _, _, rfl, ownsC_up oc9 (by have := HS1.out; omega), ownsN_up on9 (by have := HS1.out; have := HL4.out; omega), HCL.out, by have := hom.out; omega, hap, D9⟩
end Go.Proofs.YtijfnabglblimaaGreatDoor
