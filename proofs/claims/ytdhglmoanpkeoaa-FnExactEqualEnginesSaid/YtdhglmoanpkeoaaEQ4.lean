/-
 Texts of the proof, merged: TActiveS, TFinished, TFinishedS.
-/
import Derived.Test.YtdhglmoanpkeoaaEQ1
import Derived.Test.YtdhglmoanpkeoaaEQ3
import Derived.BigQuiet
import Derived.Deep.QuietTactic
import Derived.Deep.RegionHeld3
namespace Go.Proofs.Ytdhglmoanpkeoaa
open Go.RowKit
set_option linter.unusedVariables false
set_option linter.unusedSimpArgs false
abbrev tActiveS : Ty (List ((Int × Int × List (Int × Int × Int) × List Int) × Int × List Int × Int × Int × Int × List (Int × List Int))) := tSl 92 tActive
theorem tActiveS_law : tActiveS.Law := tSl_law tActive_law (by decide)
set_option maxHeartbeats 8000000 in
set_option maxRecDepth 100000 in
theorem szActiveS_Y (v : Value) (xs : List ((Int × Int × List (Int × Int × Int) × List Int) × Int × List Int × Int × Int × Int × List (Int × List Int))) (k0 : Int) (w : World) (h : SlR tActive w v xs) (hs : ((zL tActive xs : Nat) : Int) ≤ k0) (hk : k0 ≤ 1048576) :
  Calls Try.prog 56 #[v, .int .i64 k0] w fun e w' => e = .returned (.int .i64 (k0 - ((zL tActive xs : Nat) : Int))) ∧ Below w.heap.size w w' := by
 have H := Lib.hid h
 obtain ⟨a, cap, rfl⟩ := slR_len h
 clear h
 have h00 := zTo_le (T := tActive) (xs := xs) (Nat.zero_le _)
 rw [zTo_zero] at h00
 have HS := Lib.hid hs
 go_enter Try.func56, Try.ntmps56
 have hneg : ¬ k0 - (xs.length : Int) < 0 := by omega
 go_wp2
 clear hneg
 go_loopw [1, 5] (fun l i wr => ∃ k : Nat, k ≤ xs.length ∧ i = .int .i64 k ∧ l = .int .i64 (k0 - (zTo tActive xs k : Int)) ∧ Below w.heap.size w wr) (fun _ i _ => xs.length - (intOf i).toNat)
 case atStart => exact ⟨0, Nat.zero_le _, rfl, by rw [zTo_zero], Below.refl _ _⟩
 case round =>
  obtain ⟨k, hk', rfl, rfl, hbel⟩ := hrel
  by_cases hlt : k < xs.length
  ·
   have HST := Lib.hid (zTo_step (T := tActive) hlt)
   have HLE := Lib.hid (zTo_le (T := tActive) (xs := xs) (k := k + 1) (by omega))
   have i1 : (0 : Int) ≤ (k : Int) := by omega
   have i2 : (k : Int) < (xs.length : Int) := by omega
   obtain ⟨b, off, cap', cs, hv, hbl, hcs, hR⟩ := slR_at (slR_below tActive_law H.out hbel) hlt
   simp only [Value.slice.injEq] at hv
   obtain ⟨rfl, _, rfl⟩ := hv
   generalize xs.getD k tActive.d = x at *
   obtain ⟨⟨a0, a1, x2, x3⟩, a4, x5, a6, a7, a8, x9⟩ := x
   obtain ⟨v2, v3, v5, v9, hR'⟩ := tActive_R hR
   obtain ⟨rfl, h2, h3, h5, h9⟩ := hR'
   have p0 : wr.cell? ⟨b, off + k * 10, none⟩ = some (Value.int .i64 a0) := hcs 0 (by decide)
   have p1 : wr.cell? ⟨b, off + k * 10 + 1, none⟩ = some (Value.int .i64 a1) := hcs 1 (by decide)
   have p2 : wr.cell? ⟨b, off + k * 10 + 2, none⟩ = some (v2) := hcs 2 (by decide)
   have p3 : wr.cell? ⟨b, off + k * 10 + 3, none⟩ = some (v3) := hcs 3 (by decide)
   have p4 : wr.cell? ⟨b, off + k * 10 + 4, none⟩ = some (Value.int .i64 a4) := hcs 4 (by decide)
   have p5 : wr.cell? ⟨b, off + k * 10 + 5, none⟩ = some (v5) := hcs 5 (by decide)
   have p6 : wr.cell? ⟨b, off + k * 10 + 6, none⟩ = some (Value.int .i64 a6) := hcs 6 (by decide)
   have p7 : wr.cell? ⟨b, off + k * 10 + 7, none⟩ = some (Value.int .i64 a7) := hcs 7 (by decide)
   have p8 : wr.cell? ⟨b, off + k * 10 + 8, none⟩ = some (Value.int .i64 a8) := hcs 8 (by decide)
   have p9 : wr.cell? ⟨b, off + k * 10 + 9, none⟩ = some (v9) := hcs 9 (by decide)
   clear hcs
   have HQ : Hid (tActive.sz ((a0, a1, x2, x3), a4, x5, a6, a7, a8, x9) = zL tCond x2 + zL tInt x3 + zL tInt x5 + zL tRow x9) := Lib.hid tActive_sz
   have hx1 : ((zL tCond x2 + zL tInt x3 + zL tInt x5 + zL tRow x9 : Nat) : Int) ≤ k0 - (zTo tActive xs k : Int) := by have := HST.out; have := HLE.out; have := HQ.out; omega
   have hx2 : k0 - (zTo tActive xs k : Int) ≤ 1048576 := by omega
   have hneg : ¬ k0 - (zTo tActive xs k : Int) - ((zL tCond x2 + zL tInt x3 + zL tInt x5 + zL tRow x9 : Nat) : Int) < 0 := by omega
   have HC := Lib.hid (fun W b => szActive_Y a0 a1 a4 a6 a7 a8 v2 v3 v5 v9 x2 x3 x5 x9 (k0 - (zTo tActive xs k : Int)) W (slR_below tCond_law h2 b) (slR_below tInt_law h3 b) (slR_below tInt_law h5 b) (slR_below tRow_law h9 b) hx1 hx2)
   go_wp2_with fail
   refine (HC.out _ (Below.refl _ _)).mono ?_
   rintro e w1 ⟨rfl, b1⟩
   have b2 := hbel.trans (b1.mono hbel.size)
   go_wp2
   go_roundw
   case rel => exact ⟨k + 1, by omega, by go_num, by rw [HST.out, HQ.out]; go_num, b2⟩
   case measure => simp [intOf]; omega
  ·
   obtain rfl : k = xs.length := by omega
   go_wp2
   go_ret
   exact ⟨rfl, hbel⟩
set_option maxHeartbeats 8000000 in
set_option maxRecDepth 100000 in
theorem szActiveS_N (v : Value) (xs : List ((Int × Int × List (Int × Int × Int) × List Int) × Int × List Int × Int × Int × Int × List (Int × List Int))) (k0 : Int) (w : World) (h : SlR tActive w v xs) (hs : k0 < ((zL tActive xs : Nat) : Int)) (hk : k0 ≤ 1048576) (hp : 0 ≤ k0) (ho : tActiveS.ok xs) :
  Calls Try.prog 56 #[v, .int .i64 k0] w fun e w' => e = .returned (.int .i64 (-1)) ∧ Below w.heap.size w w' := by
 have H := Lib.hid h
 have HX := Lib.hid ho.2
 have hn := ho.1
 have HS := Lib.hid hs
 obtain ⟨a, cap, rfl⟩ := slR_len h
 clear h ho hs
 by_cases h1 : k0 < (xs.length : Int)
 ·
  have hneg : k0 - (xs.length : Int) < 0 := by omega
  go_enter Try.func56, Try.ntmps56
  go_wp2
  go_ret
  exact ⟨rfl, Below.refl _ _⟩
 ·
  go_enter Try.func56, Try.ntmps56
  have hneg : ¬ k0 - (xs.length : Int) < 0 := by omega
  go_wp2
  clear hneg
  go_loopw [1, 5] (fun l i wr => ∃ k : Nat, k ≤ xs.length ∧ i = .int .i64 k ∧ l = .int .i64 (k0 - (zTo tActive xs k : Int)) ∧ (zTo tActive xs k : Int) ≤ k0 ∧ Below w.heap.size w wr) (fun _ i _ => xs.length - (intOf i).toNat)
  case atStart => exact ⟨0, Nat.zero_le _, rfl, by rw [zTo_zero], by rw [zTo_zero]; omega, Below.refl _ _⟩
  case round =>
   obtain ⟨k, hk', rfl, rfl, hle, hbel⟩ := hrel
   by_cases hlt : k < xs.length
   ·
    have HST := Lib.hid (zTo_step (T := tActive) hlt)
    have hx := HX.out k hlt
    have i1 : (0 : Int) ≤ (k : Int) := by omega
    have i2 : (k : Int) < (xs.length : Int) := by omega
    obtain ⟨b, off, cap', cs, hv, hbl, hcs, hR⟩ := slR_at (slR_below tActive_law H.out hbel) hlt
    simp only [Value.slice.injEq] at hv
    obtain ⟨rfl, _, rfl⟩ := hv
    generalize xs.getD k tActive.d = x at *
    obtain ⟨⟨a0, a1, x2, x3⟩, a4, x5, a6, a7, a8, x9⟩ := x
    obtain ⟨v2, v3, v5, v9, hR'⟩ := tActive_R hR
    obtain ⟨rfl, h2, h3, h5, h9⟩ := hR'
    have p0 : wr.cell? ⟨b, off + k * 10, none⟩ = some (Value.int .i64 a0) := hcs 0 (by decide)
    have p1 : wr.cell? ⟨b, off + k * 10 + 1, none⟩ = some (Value.int .i64 a1) := hcs 1 (by decide)
    have p2 : wr.cell? ⟨b, off + k * 10 + 2, none⟩ = some (v2) := hcs 2 (by decide)
    have p3 : wr.cell? ⟨b, off + k * 10 + 3, none⟩ = some (v3) := hcs 3 (by decide)
    have p4 : wr.cell? ⟨b, off + k * 10 + 4, none⟩ = some (Value.int .i64 a4) := hcs 4 (by decide)
    have p5 : wr.cell? ⟨b, off + k * 10 + 5, none⟩ = some (v5) := hcs 5 (by decide)
    have p6 : wr.cell? ⟨b, off + k * 10 + 6, none⟩ = some (Value.int .i64 a6) := hcs 6 (by decide)
    have p7 : wr.cell? ⟨b, off + k * 10 + 7, none⟩ = some (Value.int .i64 a7) := hcs 7 (by decide)
    have p8 : wr.cell? ⟨b, off + k * 10 + 8, none⟩ = some (Value.int .i64 a8) := hcs 8 (by decide)
    have p9 : wr.cell? ⟨b, off + k * 10 + 9, none⟩ = some (v9) := hcs 9 (by decide)
    clear hcs
    have HQ : Hid (tActive.sz ((a0, a1, x2, x3), a4, x5, a6, a7, a8, x9) = zL tCond x2 + zL tInt x3 + zL tInt x5 + zL tRow x9) := Lib.hid tActive_sz
    obtain ⟨⟨_, ⟨_, ⟨o2, o3⟩⟩⟩, ⟨_, ⟨o5, ⟨_, ⟨_, ⟨_, o9⟩⟩⟩⟩⟩⟩ := hx
    have hz0 : (0 : Int) ≤ (zTo tActive xs k : Int) := by omega
    by_cases hg : ((zL tCond x2 + zL tInt x3 + zL tInt x5 + zL tRow x9 : Nat) : Int) ≤ k0 - (zTo tActive xs k : Int)
    ·
     have hx2 : k0 - (zTo tActive xs k : Int) ≤ 1048576 := by omega
     have hneg : ¬ k0 - (zTo tActive xs k : Int) - ((zL tCond x2 + zL tInt x3 + zL tInt x5 + zL tRow x9 : Nat) : Int) < 0 := by omega
     have HC := Lib.hid (fun W b => szActive_Y a0 a1 a4 a6 a7 a8 v2 v3 v5 v9 x2 x3 x5 x9 (k0 - (zTo tActive xs k : Int)) W (slR_below tCond_law h2 b) (slR_below tInt_law h3 b) (slR_below tInt_law h5 b) (slR_below tRow_law h9 b) hg hx2)
     go_wp2_with fail
     refine (HC.out _ (Below.refl _ _)).mono ?_
     rintro e w1 ⟨rfl, b1⟩
     have b2 := hbel.trans (b1.mono hbel.size)
     go_wp2
     go_roundw
     case rel => exact ⟨k + 1, by omega, by go_num, by rw [HST.out, HQ.out]; go_num, by rw [HST.out, HQ.out]; omega, b2⟩
     case measure => simp [intOf]; omega
    ·
     have hx1 : k0 - (zTo tActive xs k : Int) < ((zL tCond x2 + zL tInt x3 + zL tInt x5 + zL tRow x9 : Nat) : Int) := by omega
     have hx0 : 0 ≤ k0 - (zTo tActive xs k : Int) := by omega
     have hx2 : k0 - (zTo tActive xs k : Int) ≤ 1048576 := by omega
     have HC := Lib.hid (fun W b => szActive_N a0 a1 a4 a6 a7 a8 v2 v3 v5 v9 x2 x3 x5 x9 (k0 - (zTo tActive xs k : Int)) W (slR_below tCond_law h2 b) (slR_below tInt_law h3 b) (slR_below tInt_law h5 b) (slR_below tRow_law h9 b) hx1 hx2 hx0 o2 o3 o5 o9)
     clear hg
     go_wp2_with fail
     refine (HC.out _ (Below.refl _ _)).mono ?_
     rintro e w1 ⟨rfl, b1⟩
     have b2 := hbel.trans (b1.mono hbel.size)
     go_wp2
     go_ret
     exact ⟨rfl, b2⟩
   ·
    obtain rfl : k = xs.length := by omega
    exact absurd HS.out (by show ¬ k0 < ((zTo tActive xs xs.length : Nat) : Int); omega)
theorem Try.info_Active : (Try.prog.info? 92).map (fun i => (i.zero, i.size)) = some (some (.agg #[.int .i64 0, .int .i64 0, .slice none 0 0, .slice none 0 0, .int .i64 0, .slice none 0 0, .int .i64 0, .int .i64 0, .int .i64 0, .slice none 0 0]), 10) := by kernel_rfl
theorem Try.bytes_Active : ((Try.prog.info? 92).map (fun i => decide (i.bytes ≤ 512))) = some true := by kernel_rfl
theorem tActive_zero (w : World) : tActive.O w (fun _ => False) #[.int .i64 0, .int .i64 0, .slice none 0 0, .slice none 0 0, .int .i64 0, .slice none 0 0, .int .i64 0, .int .i64 0, .int .i64 0, .slice none 0 0].toList tActive.d := tActive_mkO (slO_nil _ _ _ (fun _ => False)) (slO_nil _ _ _ (fun _ => False)) (slO_nil _ _ _ (fun _ => False)) (slO_nil _ _ _ (fun _ => False)) (fun b h => h) (fun b h => h) (fun b h => h) (fun b h => h) (fun b h _ => h) (fun b h _ => h) (fun b h _ => h) (fun b h _ => h) (fun b h _ => h) (fun b h _ => h)
set_option maxHeartbeats 8000000 in
set_option maxRecDepth 100000 in
theorem toActiveS_S (v : Value) (xs : List ((Int × Int × List (Int × Int × Int) × List Int) × Int × List Int × Int × Int × Int × List (Int × List Int))) (w : World) (h : SlR tActive w v xs) (hs : zL tActive xs ≤ 1048576) :
  Calls Try.prog 60 #[v] w (FreshS 92 tActive w xs) := by
 obtain ⟨i0, hi, hz0, hz1⟩ : ∃ i0, Try.prog.info? 92 = some i0 ∧ i0.zero = some (.agg #[.int .i64 0, .int .i64 0, .slice none 0 0, .slice none 0 0, .int .i64 0, .slice none 0 0, .int .i64 0, .int .i64 0, .int .i64 0, .slice none 0 0]) ∧ i0.size = 10 := by
  have h0 := Try.info_Active
  cases q : Try.prog.info? 92 with
  | none => rw [q] at h0; simp at h0
  | some i => rw [q] at h0; simp only [Option.map_some, Option.some.injEq, Prod.mk.injEq] at h0; exact ⟨i, rfl, h0.1, h0.2⟩
 have hz2 : i0.bytes ≤ 512 := by
  have h0 := Try.bytes_Active
  rw [hi] at h0
  simpa using h0
 have HI := Lib.hid hi; have HZ0 := Lib.hid hz0; have HZ1 := Lib.hid hz1; have HZ2 := Lib.hid hz2
 clear hi hz0 hz1 hz2
 have H := Lib.hid h
 have hlen := zL_len hs
 have HS := Lib.hid hs
 obtain ⟨a, cap, rfl⟩ := slR_len h
 clear h hs
 go_enter Try.func60, Try.ntmps60
 go_wp2_with (at_make; refine wpList_make_full _ rfl (.tmp 6) (.tmp 6) 38 rfl w.heap.size 92 i0 (.agg #[.int .i64 0, .int .i64 0, .slice none 0 0, .slice none 0 0, .int .i64 0, .slice none 0 0, .int .i64 0, .int .i64 0, .int .i64 0, .slice none 0 0]) 10 Try.underlying38 HI.out HZ0.out HZ1.out _ _ _ _ xs.length rfl rfl rfl rfl (by have h9 := Nat.mul_le_mul HZ2.out hlen; have h8 := Nat.mul_le_mul hlen HZ2.out; omega) (by unfold maxLen; omega) (Nat.le_refl _) ?_)
 intro w1 hown0 hg0
 have hown1 : SlO 92 tActive w1 (since w) (.slice (some ⟨w.heap.size, 0, none⟩) xs.length xs.length) (List.replicate xs.length tActive.d) := slO_made (z := #[.int .i64 0, .int .i64 0, .slice none 0 0, .slice none 0 0, .int .i64 0, .slice none 0 0, .int .i64 0, .int .i64 0, .int .i64 0, .slice none 0 0]) tActive_law rfl (tActive_zero w1) (Nat.le_refl _) hown0
 have hbel1 := (Below.refl w.heap.size w).grown hg0 (Nat.le_refl _) (fun k hk => by cases hk)
 clear hown0 hg0
 go_wp2
 go_loopw [4] (fun i wr => ∃ k : Nat, k ≤ xs.length ∧ i = .int .i64 k ∧ SlO 92 tActive wr (since w) (.slice (some ⟨w.heap.size, 0, none⟩) xs.length xs.length) (xs.take k ++ List.replicate (xs.length - k) tActive.d) ∧ Below w.heap.size w wr) (fun i _ => xs.length - (intOf i).toNat)
 case atStart => exact ⟨0, Nat.zero_le _, rfl, by simpa using hown1, hbel1⟩
 case round =>
  obtain ⟨k, hk, rfl, hown, hbel⟩ := hrel
  by_cases hlt : k < xs.length
  ·
   have HSET := Lib.hid (cTo_step (d := tActive.d) hlt)
   have HKL : Hid (k < (xs.take k ++ List.replicate (xs.length - k) tActive.d).length) := Lib.hid (by rw [cTo_len hk]; exact hlt)
   have HLL := Lib.hid (cTo_len (d := tActive.d) hk)
   have i1 : (0 : Int) ≤ (k : Int) := by omega
   have i2 : (k : Int) < (xs.length : Int) := by omega
   have hzx := zL_at HS.out hlt
   obtain ⟨b, off, cap', cs, hv, hbl, hcs, hR⟩ := slR_at (slR_below tActive_law H.out hbel) hlt
   simp only [Value.slice.injEq] at hv
   obtain ⟨rfl, _, rfl⟩ := hv
   obtain ⟨hme, hFg, hgl, cj, Fj, Lc, hrow, hLc, hO, hFj, hput⟩ := slO_open tActive_law hown HKL.out
   clear hme
   clear hown1 hbel1
   generalize xs.getD k tActive.d = x at *
   generalize xs.take k ++ List.replicate (xs.length - k) tActive.d = ys at *
   obtain ⟨⟨a0, a1, x2, x3⟩, a4, x5, a6, a7, a8, x9⟩ := x
   obtain ⟨v2, v3, v5, v9, hR'⟩ := tActive_R hR
   obtain ⟨rfl, h2, h3, h5, h9⟩ := hR'
   have p0 : wr.cell? ⟨b, off + k * 10, none⟩ = some (Value.int .i64 a0) := hcs 0 (by decide)
   have p1 : wr.cell? ⟨b, off + k * 10 + 1, none⟩ = some (Value.int .i64 a1) := hcs 1 (by decide)
   have p2 : wr.cell? ⟨b, off + k * 10 + 2, none⟩ = some (v2) := hcs 2 (by decide)
   have p3 : wr.cell? ⟨b, off + k * 10 + 3, none⟩ = some (v3) := hcs 3 (by decide)
   have p4 : wr.cell? ⟨b, off + k * 10 + 4, none⟩ = some (Value.int .i64 a4) := hcs 4 (by decide)
   have p5 : wr.cell? ⟨b, off + k * 10 + 5, none⟩ = some (v5) := hcs 5 (by decide)
   have p6 : wr.cell? ⟨b, off + k * 10 + 6, none⟩ = some (Value.int .i64 a6) := hcs 6 (by decide)
   have p7 : wr.cell? ⟨b, off + k * 10 + 7, none⟩ = some (Value.int .i64 a7) := hcs 7 (by decide)
   have p8 : wr.cell? ⟨b, off + k * 10 + 8, none⟩ = some (Value.int .i64 a8) := hcs 8 (by decide)
   have p9 : wr.cell? ⟨b, off + k * 10 + 9, none⟩ = some (v9) := hcs 9 (by decide)
   rw [tActive_sz] at hzx
   have S2 := Lib.hid (show zL tCond x2 ≤ 1048576 by omega)
   have S3 := Lib.hid (show zL tInt x3 ≤ 1048576 by omega)
   have S5 := Lib.hid (show zL tInt x5 ≤ 1048576 by omega)
   have S9 := Lib.hid (show zL tRow x9 ≤ 1048576 by omega)
   have HC := Lib.hid (fun w g2 g3 g5 g9 => toActive_T a0 a1 a4 a6 a7 a8 v2 v3 v5 v9 x2 x3 x5 x9 w g2 g3 g5 g9 S2.out S3.out S5.out S9.out)
   have G2 := Lib.hid h2
   have G3 := Lib.hid h3
   have G5 := Lib.hid h5
   have G9 := Lib.hid h9
   clear hcs hzx h2 h3 h5 h9
   go_wp2_with fail
   refine (HC.out _ G2.out G3.out G5.out G9.out).mono ?_
   rintro e w2 ⟨cv, rfl, ow, b2⟩
   replace ow := tActive_law.lt ow
   have ow2 := ow
   obtain ⟨u2, u3, u5, u9, K2, K3, K5, K9, rfl, o2, o3, o5, o9, _, _, _, _, _, _, _, _, _, _⟩ := tActive_O ow2
   obtain ⟨ua2, uc2, rfl⟩ := slO_len o2
   obtain ⟨ua3, uc3, rfl⟩ := slO_len o3
   obtain ⟨ua5, uc5, rfl⟩ := slO_len o5
   obtain ⟨ua9, uc9, rfl⟩ := slO_len o9
   clear o2 o3 o5 o9
   have r0 := row_turn (G := fun _ => False) hrow (turn_below b2) (fun _ _ => not_false)
   rw [HLL.out] at r0
   have q0 : ∃ x, w2.cell? ⟨w.heap.size, k * 10, none⟩ = some x := ⟨_, (World.ownsRow.cellAt r0 (k * 10) (by have := HKL.out; rw [HLL.out] at this; show _ < xs.length * 10; omega)).trans (List.getElem?_eq_getElem (by have h1 : Lc.length = xs.length * 10 := r0.1; omega))⟩
   obtain ⟨y0, q0⟩ := q0
   have f0 := World.ownsRow.frozenAt r0 (k * 10)
   have q1 : ∃ x, w2.cell? ⟨w.heap.size, k * 10 + 1, none⟩ = some x := ⟨_, (World.ownsRow.cellAt r0 (k * 10 + 1) (by have := HKL.out; rw [HLL.out] at this; show _ < xs.length * 10; omega)).trans (List.getElem?_eq_getElem (by have h1 : Lc.length = xs.length * 10 := r0.1; omega))⟩
   obtain ⟨y1, q1⟩ := q1
   have f1 := World.ownsRow.frozenAt r0 (k * 10 + 1)
   have q2 : ∃ x, w2.cell? ⟨w.heap.size, k * 10 + 2, none⟩ = some x := ⟨_, (World.ownsRow.cellAt r0 (k * 10 + 2) (by have := HKL.out; rw [HLL.out] at this; show _ < xs.length * 10; omega)).trans (List.getElem?_eq_getElem (by have h1 : Lc.length = xs.length * 10 := r0.1; omega))⟩
   obtain ⟨y2, q2⟩ := q2
   have f2 := World.ownsRow.frozenAt r0 (k * 10 + 2)
   have q3 : ∃ x, w2.cell? ⟨w.heap.size, k * 10 + 3, none⟩ = some x := ⟨_, (World.ownsRow.cellAt r0 (k * 10 + 3) (by have := HKL.out; rw [HLL.out] at this; show _ < xs.length * 10; omega)).trans (List.getElem?_eq_getElem (by have h1 : Lc.length = xs.length * 10 := r0.1; omega))⟩
   obtain ⟨y3, q3⟩ := q3
   have f3 := World.ownsRow.frozenAt r0 (k * 10 + 3)
   have q4 : ∃ x, w2.cell? ⟨w.heap.size, k * 10 + 4, none⟩ = some x := ⟨_, (World.ownsRow.cellAt r0 (k * 10 + 4) (by have := HKL.out; rw [HLL.out] at this; show _ < xs.length * 10; omega)).trans (List.getElem?_eq_getElem (by have h1 : Lc.length = xs.length * 10 := r0.1; omega))⟩
   obtain ⟨y4, q4⟩ := q4
   have f4 := World.ownsRow.frozenAt r0 (k * 10 + 4)
   have q5 : ∃ x, w2.cell? ⟨w.heap.size, k * 10 + 5, none⟩ = some x := ⟨_, (World.ownsRow.cellAt r0 (k * 10 + 5) (by have := HKL.out; rw [HLL.out] at this; show _ < xs.length * 10; omega)).trans (List.getElem?_eq_getElem (by have h1 : Lc.length = xs.length * 10 := r0.1; omega))⟩
   obtain ⟨y5, q5⟩ := q5
   have f5 := World.ownsRow.frozenAt r0 (k * 10 + 5)
   have q6 : ∃ x, w2.cell? ⟨w.heap.size, k * 10 + 6, none⟩ = some x := ⟨_, (World.ownsRow.cellAt r0 (k * 10 + 6) (by have := HKL.out; rw [HLL.out] at this; show _ < xs.length * 10; omega)).trans (List.getElem?_eq_getElem (by have h1 : Lc.length = xs.length * 10 := r0.1; omega))⟩
   obtain ⟨y6, q6⟩ := q6
   have f6 := World.ownsRow.frozenAt r0 (k * 10 + 6)
   have q7 : ∃ x, w2.cell? ⟨w.heap.size, k * 10 + 7, none⟩ = some x := ⟨_, (World.ownsRow.cellAt r0 (k * 10 + 7) (by have := HKL.out; rw [HLL.out] at this; show _ < xs.length * 10; omega)).trans (List.getElem?_eq_getElem (by have h1 : Lc.length = xs.length * 10 := r0.1; omega))⟩
   obtain ⟨y7, q7⟩ := q7
   have f7 := World.ownsRow.frozenAt r0 (k * 10 + 7)
   have q8 : ∃ x, w2.cell? ⟨w.heap.size, k * 10 + 8, none⟩ = some x := ⟨_, (World.ownsRow.cellAt r0 (k * 10 + 8) (by have := HKL.out; rw [HLL.out] at this; show _ < xs.length * 10; omega)).trans (List.getElem?_eq_getElem (by have h1 : Lc.length = xs.length * 10 := r0.1; omega))⟩
   obtain ⟨y8, q8⟩ := q8
   have f8 := World.ownsRow.frozenAt r0 (k * 10 + 8)
   have q9 : ∃ x, w2.cell? ⟨w.heap.size, k * 10 + 9, none⟩ = some x := ⟨_, (World.ownsRow.cellAt r0 (k * 10 + 9) (by have := HKL.out; rw [HLL.out] at this; show _ < xs.length * 10; omega)).trans (List.getElem?_eq_getElem (by have h1 : Lc.length = xs.length * 10 := r0.1; omega))⟩
   obtain ⟨y9, q9⟩ := q9
   have f9 := World.ownsRow.frozenAt r0 (k * 10 + 9)
   have b3 := hbel.trans (b2.mono hbel.size)
   have B3 := Lib.hid ((((((((((b3.setCell (p := ⟨w.heap.size, k * 10, none⟩) (Nat.le_refl _) (.int .i64 a0)).setCell (p := ⟨w.heap.size, k * 10 + 1, none⟩) (Nat.le_refl _) (.int .i64 a1)).setCell (p := ⟨w.heap.size, k * 10 + 2, none⟩) (Nat.le_refl _) (.slice ua2 x2.length uc2)).setCell (p := ⟨w.heap.size, k * 10 + 3, none⟩) (Nat.le_refl _) (.slice ua3 x3.length uc3)).setCell (p := ⟨w.heap.size, k * 10 + 4, none⟩) (Nat.le_refl _) (.int .i64 a4)).setCell (p := ⟨w.heap.size, k * 10 + 5, none⟩) (Nat.le_refl _) (.slice ua5 x5.length uc5)).setCell (p := ⟨w.heap.size, k * 10 + 6, none⟩) (Nat.le_refl _) (.int .i64 a6)).setCell (p := ⟨w.heap.size, k * 10 + 7, none⟩) (Nat.le_refl _) (.int .i64 a7)).setCell (p := ⟨w.heap.size, k * 10 + 8, none⟩) (Nat.le_refl _) (.int .i64 a8)).setCell (p := ⟨w.heap.size, k * 10 + 9, none⟩) (Nat.le_refl _) (.slice ua9 x9.length uc9))
   have hT : Turn (fun b => b = w.heap.size ∨ Fj b ∨ wr.heap.size ≤ b) wr ((((((((((w2.setCell ⟨w.heap.size, k * 10, none⟩ (.int .i64 a0)).setCell ⟨w.heap.size, k * 10 + 1, none⟩ (.int .i64 a1)).setCell ⟨w.heap.size, k * 10 + 2, none⟩ (.slice ua2 x2.length uc2)).setCell ⟨w.heap.size, k * 10 + 3, none⟩ (.slice ua3 x3.length uc3)).setCell ⟨w.heap.size, k * 10 + 4, none⟩ (.int .i64 a4)).setCell ⟨w.heap.size, k * 10 + 5, none⟩ (.slice ua5 x5.length uc5)).setCell ⟨w.heap.size, k * 10 + 6, none⟩ (.int .i64 a6)).setCell ⟨w.heap.size, k * 10 + 7, none⟩ (.int .i64 a7)).setCell ⟨w.heap.size, k * 10 + 8, none⟩ (.int .i64 a8)).setCell ⟨w.heap.size, k * 10 + 9, none⟩ (.slice ua9 x9.length uc9)) := (((((((((((turn_below b2).trans (turn_set (j := k * 10) (u := .int .i64 a0) (Or.inl rfl))).trans (turn_set (j := k * 10 + 1) (u := .int .i64 a1) (Or.inl rfl))).trans (turn_set (j := k * 10 + 2) (u := .slice ua2 x2.length uc2) (Or.inl rfl))).trans (turn_set (j := k * 10 + 3) (u := .slice ua3 x3.length uc3) (Or.inl rfl))).trans (turn_set (j := k * 10 + 4) (u := .int .i64 a4) (Or.inl rfl))).trans (turn_set (j := k * 10 + 5) (u := .slice ua5 x5.length uc5) (Or.inl rfl))).trans (turn_set (j := k * 10 + 6) (u := .int .i64 a6) (Or.inl rfl))).trans (turn_set (j := k * 10 + 7) (u := .int .i64 a7) (Or.inl rfl))).trans (turn_set (j := k * 10 + 8) (u := .int .i64 a8) (Or.inl rfl))).trans (turn_set (j := k * 10 + 9) (u := .slice ua9 x9.length uc9) (Or.inl rfl)))
   have hT2 : Turn (fun b => b = w.heap.size) w2 ((((((((((w2.setCell ⟨w.heap.size, k * 10, none⟩ (.int .i64 a0)).setCell ⟨w.heap.size, k * 10 + 1, none⟩ (.int .i64 a1)).setCell ⟨w.heap.size, k * 10 + 2, none⟩ (.slice ua2 x2.length uc2)).setCell ⟨w.heap.size, k * 10 + 3, none⟩ (.slice ua3 x3.length uc3)).setCell ⟨w.heap.size, k * 10 + 4, none⟩ (.int .i64 a4)).setCell ⟨w.heap.size, k * 10 + 5, none⟩ (.slice ua5 x5.length uc5)).setCell ⟨w.heap.size, k * 10 + 6, none⟩ (.int .i64 a6)).setCell ⟨w.heap.size, k * 10 + 7, none⟩ (.int .i64 a7)).setCell ⟨w.heap.size, k * 10 + 8, none⟩ (.int .i64 a8)).setCell ⟨w.heap.size, k * 10 + 9, none⟩ (.slice ua9 x9.length uc9)) := (((((((((((Turn.refl (fun b => b = w.heap.size) _).trans (turn_set (G := fun b => b = w.heap.size) (j := k * 10) (u := .int .i64 a0) rfl)).trans (turn_set (G := fun b => b = w.heap.size) (j := k * 10 + 1) (u := .int .i64 a1) rfl)).trans (turn_set (G := fun b => b = w.heap.size) (j := k * 10 + 2) (u := .slice ua2 x2.length uc2) rfl)).trans (turn_set (G := fun b => b = w.heap.size) (j := k * 10 + 3) (u := .slice ua3 x3.length uc3) rfl)).trans (turn_set (G := fun b => b = w.heap.size) (j := k * 10 + 4) (u := .int .i64 a4) rfl)).trans (turn_set (G := fun b => b = w.heap.size) (j := k * 10 + 5) (u := .slice ua5 x5.length uc5) rfl)).trans (turn_set (G := fun b => b = w.heap.size) (j := k * 10 + 6) (u := .int .i64 a6) rfl)).trans (turn_set (G := fun b => b = w.heap.size) (j := k * 10 + 7) (u := .int .i64 a7) rfl)).trans (turn_set (G := fun b => b = w.heap.size) (j := k * 10 + 8) (u := .int .i64 a8) rfl)).trans (turn_set (G := fun b => b = w.heap.size) (j := k * 10 + 9) (u := .slice ua9 x9.length uc9) rfl))
   have hO2 := tActive_law.turn ow hT2 (fun b h1 h2 => by have := h1.1; simp only [since] at this; omega)
   have r9 := (World.ownsRow.stored (World.ownsRow.stored (World.ownsRow.stored (World.ownsRow.stored (World.ownsRow.stored (World.ownsRow.stored (World.ownsRow.stored (World.ownsRow.stored (World.ownsRow.stored (World.ownsRow.stored r0 (k * 10) (.int .i64 a0)).1 (k * 10 + 1) (.int .i64 a1)).1 (k * 10 + 2) (.slice ua2 x2.length uc2)).1 (k * 10 + 3) (.slice ua3 x3.length uc3)).1 (k * 10 + 4) (.int .i64 a4)).1 (k * 10 + 5) (.slice ua5 x5.length uc5)).1 (k * 10 + 6) (.int .i64 a6)).1 (k * 10 + 7) (.int .i64 a7)).1 (k * 10 + 8) (.int .i64 a8)).1 (k * 10 + 9) (.slice ua9 x9.length uc9)).1
   have hLl : Lc.length = xs.length * 10 := r0.1
   have hst := Lib.hid (hput ((((((((((w2.setCell ⟨w.heap.size, k * 10, none⟩ (.int .i64 a0)).setCell ⟨w.heap.size, k * 10 + 1, none⟩ (.int .i64 a1)).setCell ⟨w.heap.size, k * 10 + 2, none⟩ (.slice ua2 x2.length uc2)).setCell ⟨w.heap.size, k * 10 + 3, none⟩ (.slice ua3 x3.length uc3)).setCell ⟨w.heap.size, k * 10 + 4, none⟩ (.int .i64 a4)).setCell ⟨w.heap.size, k * 10 + 5, none⟩ (.slice ua5 x5.length uc5)).setCell ⟨w.heap.size, k * 10 + 6, none⟩ (.int .i64 a6)).setCell ⟨w.heap.size, k * 10 + 7, none⟩ (.int .i64 a7)).setCell ⟨w.heap.size, k * 10 + 8, none⟩ (.int .i64 a8)).setCell ⟨w.heap.size, k * 10 + 9, none⟩ (.slice ua9 x9.length uc9)) ((((((((((Lc.set (k * 10) (.int .i64 a0)).set (k * 10 + 1) (.int .i64 a1)).set (k * 10 + 2) (.slice ua2 x2.length uc2)).set (k * 10 + 3) (.slice ua3 x3.length uc3)).set (k * 10 + 4) (.int .i64 a4)).set (k * 10 + 5) (.slice ua5 x5.length uc5)).set (k * 10 + 6) (.int .i64 a6)).set (k * 10 + 7) (.int .i64 a7)).set (k * 10 + 8) (.int .i64 a8)).set (k * 10 + 9) (.slice ua9 x9.length uc9)) [.int .i64 a0, .int .i64 a1, .slice ua2 x2.length uc2, .slice ua3 x3.length uc3, .int .i64 a4, .slice ua5 x5.length uc5, .int .i64 a6, .int .i64 a7, .int .i64 a8, .slice ua9 x9.length uc9] _ ((a0, a1, x2, x3), a4, x5, a6, a7, a8, x9) (by rw [HLL.out]; exact r9) (fun p hp => by have hp2 : p < k * 10 ∨ k * 10 + 10 ≤ p := hp; rw [List.getElem?_set_ne (by omega)]; rw [List.getElem?_set_ne (by omega)]; rw [List.getElem?_set_ne (by omega)]; rw [List.getElem?_set_ne (by omega)]; rw [List.getElem?_set_ne (by omega)]; rw [List.getElem?_set_ne (by omega)]; rw [List.getElem?_set_ne (by omega)]; rw [List.getElem?_set_ne (by omega)]; rw [List.getElem?_set_ne (by omega)]; rw [List.getElem?_set_ne (by omega)]) (fun i hi => by have hi' : i < 10 := hi; match i, hi' with | 0, _ => (show (((((((((((Lc.set (k * 10) (.int .i64 a0)).set (k * 10 + 1) (.int .i64 a1)).set (k * 10 + 2) (.slice ua2 x2.length uc2)).set (k * 10 + 3) (.slice ua3 x3.length uc3)).set (k * 10 + 4) (.int .i64 a4)).set (k * 10 + 5) (.slice ua5 x5.length uc5)).set (k * 10 + 6) (.int .i64 a6)).set (k * 10 + 7) (.int .i64 a7)).set (k * 10 + 8) (.int .i64 a8)).set (k * 10 + 9) (.slice ua9 x9.length uc9)))[k * 10]? = _; rw [List.getElem?_set_ne (by omega)]; rw [List.getElem?_set_ne (by omega)]; rw [List.getElem?_set_ne (by omega)]; rw [List.getElem?_set_ne (by omega)]; rw [List.getElem?_set_ne (by omega)]; rw [List.getElem?_set_ne (by omega)]; rw [List.getElem?_set_ne (by omega)]; rw [List.getElem?_set_ne (by omega)]; rw [List.getElem?_set_ne (by omega)]; rw [List.getElem?_set_self (by first | omega | (simp only [List.length_set]; omega))]; rfl) | 1, _ => (show (((((((((((Lc.set (k * 10) (.int .i64 a0)).set (k * 10 + 1) (.int .i64 a1)).set (k * 10 + 2) (.slice ua2 x2.length uc2)).set (k * 10 + 3) (.slice ua3 x3.length uc3)).set (k * 10 + 4) (.int .i64 a4)).set (k * 10 + 5) (.slice ua5 x5.length uc5)).set (k * 10 + 6) (.int .i64 a6)).set (k * 10 + 7) (.int .i64 a7)).set (k * 10 + 8) (.int .i64 a8)).set (k * 10 + 9) (.slice ua9 x9.length uc9)))[k * 10 + 1]? = _; rw [List.getElem?_set_ne (by omega)]; rw [List.getElem?_set_ne (by omega)]; rw [List.getElem?_set_ne (by omega)]; rw [List.getElem?_set_ne (by omega)]; rw [List.getElem?_set_ne (by omega)]; rw [List.getElem?_set_ne (by omega)]; rw [List.getElem?_set_ne (by omega)]; rw [List.getElem?_set_ne (by omega)]; rw [List.getElem?_set_self (by first | omega | (simp only [List.length_set]; omega))]; rfl) | 2, _ => (show (((((((((((Lc.set (k * 10) (.int .i64 a0)).set (k * 10 + 1) (.int .i64 a1)).set (k * 10 + 2) (.slice ua2 x2.length uc2)).set (k * 10 + 3) (.slice ua3 x3.length uc3)).set (k * 10 + 4) (.int .i64 a4)).set (k * 10 + 5) (.slice ua5 x5.length uc5)).set (k * 10 + 6) (.int .i64 a6)).set (k * 10 + 7) (.int .i64 a7)).set (k * 10 + 8) (.int .i64 a8)).set (k * 10 + 9) (.slice ua9 x9.length uc9)))[k * 10 + 2]? = _; rw [List.getElem?_set_ne (by omega)]; rw [List.getElem?_set_ne (by omega)]; rw [List.getElem?_set_ne (by omega)]; rw [List.getElem?_set_ne (by omega)]; rw [List.getElem?_set_ne (by omega)]; rw [List.getElem?_set_ne (by omega)]; rw [List.getElem?_set_ne (by omega)]; rw [List.getElem?_set_self (by first | omega | (simp only [List.length_set]; omega))]; rfl) | 3, _ => (show (((((((((((Lc.set (k * 10) (.int .i64 a0)).set (k * 10 + 1) (.int .i64 a1)).set (k * 10 + 2) (.slice ua2 x2.length uc2)).set (k * 10 + 3) (.slice ua3 x3.length uc3)).set (k * 10 + 4) (.int .i64 a4)).set (k * 10 + 5) (.slice ua5 x5.length uc5)).set (k * 10 + 6) (.int .i64 a6)).set (k * 10 + 7) (.int .i64 a7)).set (k * 10 + 8) (.int .i64 a8)).set (k * 10 + 9) (.slice ua9 x9.length uc9)))[k * 10 + 3]? = _; rw [List.getElem?_set_ne (by omega)]; rw [List.getElem?_set_ne (by omega)]; rw [List.getElem?_set_ne (by omega)]; rw [List.getElem?_set_ne (by omega)]; rw [List.getElem?_set_ne (by omega)]; rw [List.getElem?_set_ne (by omega)]; rw [List.getElem?_set_self (by first | omega | (simp only [List.length_set]; omega))]; rfl) | 4, _ => (show (((((((((((Lc.set (k * 10) (.int .i64 a0)).set (k * 10 + 1) (.int .i64 a1)).set (k * 10 + 2) (.slice ua2 x2.length uc2)).set (k * 10 + 3) (.slice ua3 x3.length uc3)).set (k * 10 + 4) (.int .i64 a4)).set (k * 10 + 5) (.slice ua5 x5.length uc5)).set (k * 10 + 6) (.int .i64 a6)).set (k * 10 + 7) (.int .i64 a7)).set (k * 10 + 8) (.int .i64 a8)).set (k * 10 + 9) (.slice ua9 x9.length uc9)))[k * 10 + 4]? = _; rw [List.getElem?_set_ne (by omega)]; rw [List.getElem?_set_ne (by omega)]; rw [List.getElem?_set_ne (by omega)]; rw [List.getElem?_set_ne (by omega)]; rw [List.getElem?_set_ne (by omega)]; rw [List.getElem?_set_self (by first | omega | (simp only [List.length_set]; omega))]; rfl) | 5, _ => (show (((((((((((Lc.set (k * 10) (.int .i64 a0)).set (k * 10 + 1) (.int .i64 a1)).set (k * 10 + 2) (.slice ua2 x2.length uc2)).set (k * 10 + 3) (.slice ua3 x3.length uc3)).set (k * 10 + 4) (.int .i64 a4)).set (k * 10 + 5) (.slice ua5 x5.length uc5)).set (k * 10 + 6) (.int .i64 a6)).set (k * 10 + 7) (.int .i64 a7)).set (k * 10 + 8) (.int .i64 a8)).set (k * 10 + 9) (.slice ua9 x9.length uc9)))[k * 10 + 5]? = _; rw [List.getElem?_set_ne (by omega)]; rw [List.getElem?_set_ne (by omega)]; rw [List.getElem?_set_ne (by omega)]; rw [List.getElem?_set_ne (by omega)]; rw [List.getElem?_set_self (by first | omega | (simp only [List.length_set]; omega))]; rfl) | 6, _ => (show (((((((((((Lc.set (k * 10) (.int .i64 a0)).set (k * 10 + 1) (.int .i64 a1)).set (k * 10 + 2) (.slice ua2 x2.length uc2)).set (k * 10 + 3) (.slice ua3 x3.length uc3)).set (k * 10 + 4) (.int .i64 a4)).set (k * 10 + 5) (.slice ua5 x5.length uc5)).set (k * 10 + 6) (.int .i64 a6)).set (k * 10 + 7) (.int .i64 a7)).set (k * 10 + 8) (.int .i64 a8)).set (k * 10 + 9) (.slice ua9 x9.length uc9)))[k * 10 + 6]? = _; rw [List.getElem?_set_ne (by omega)]; rw [List.getElem?_set_ne (by omega)]; rw [List.getElem?_set_ne (by omega)]; rw [List.getElem?_set_self (by first | omega | (simp only [List.length_set]; omega))]; rfl) | 7, _ => (show (((((((((((Lc.set (k * 10) (.int .i64 a0)).set (k * 10 + 1) (.int .i64 a1)).set (k * 10 + 2) (.slice ua2 x2.length uc2)).set (k * 10 + 3) (.slice ua3 x3.length uc3)).set (k * 10 + 4) (.int .i64 a4)).set (k * 10 + 5) (.slice ua5 x5.length uc5)).set (k * 10 + 6) (.int .i64 a6)).set (k * 10 + 7) (.int .i64 a7)).set (k * 10 + 8) (.int .i64 a8)).set (k * 10 + 9) (.slice ua9 x9.length uc9)))[k * 10 + 7]? = _; rw [List.getElem?_set_ne (by omega)]; rw [List.getElem?_set_ne (by omega)]; rw [List.getElem?_set_self (by first | omega | (simp only [List.length_set]; omega))]; rfl) | 8, _ => (show (((((((((((Lc.set (k * 10) (.int .i64 a0)).set (k * 10 + 1) (.int .i64 a1)).set (k * 10 + 2) (.slice ua2 x2.length uc2)).set (k * 10 + 3) (.slice ua3 x3.length uc3)).set (k * 10 + 4) (.int .i64 a4)).set (k * 10 + 5) (.slice ua5 x5.length uc5)).set (k * 10 + 6) (.int .i64 a6)).set (k * 10 + 7) (.int .i64 a7)).set (k * 10 + 8) (.int .i64 a8)).set (k * 10 + 9) (.slice ua9 x9.length uc9)))[k * 10 + 8]? = _; rw [List.getElem?_set_ne (by omega)]; rw [List.getElem?_set_self (by first | omega | (simp only [List.length_set]; omega))]; rfl) | 9, _ => (show (((((((((((Lc.set (k * 10) (.int .i64 a0)).set (k * 10 + 1) (.int .i64 a1)).set (k * 10 + 2) (.slice ua2 x2.length uc2)).set (k * 10 + 3) (.slice ua3 x3.length uc3)).set (k * 10 + 4) (.int .i64 a4)).set (k * 10 + 5) (.slice ua5 x5.length uc5)).set (k * 10 + 6) (.int .i64 a6)).set (k * 10 + 7) (.int .i64 a7)).set (k * 10 + 8) (.int .i64 a8)).set (k * 10 + 9) (.slice ua9 x9.length uc9)))[k * 10 + 9]? = _; rw [List.getElem?_set_self (by first | omega | (simp only [List.length_set]; omega))]; rfl)) hO2 (fun b hb => ⟨Nat.le_trans hbel.size hb.1, Or.inr hb.1⟩) hT)
   have hst2 : SlO 92 tActive ((((((((((w2.setCell ⟨w.heap.size, k * 10, none⟩ (.int .i64 a0)).setCell ⟨w.heap.size, k * 10 + 1, none⟩ (.int .i64 a1)).setCell ⟨w.heap.size, k * 10 + 2, none⟩ (.slice ua2 x2.length uc2)).setCell ⟨w.heap.size, k * 10 + 3, none⟩ (.slice ua3 x3.length uc3)).setCell ⟨w.heap.size, k * 10 + 4, none⟩ (.int .i64 a4)).setCell ⟨w.heap.size, k * 10 + 5, none⟩ (.slice ua5 x5.length uc5)).setCell ⟨w.heap.size, k * 10 + 6, none⟩ (.int .i64 a6)).setCell ⟨w.heap.size, k * 10 + 7, none⟩ (.int .i64 a7)).setCell ⟨w.heap.size, k * 10 + 8, none⟩ (.int .i64 a8)).setCell ⟨w.heap.size, k * 10 + 9, none⟩ (.slice ua9 x9.length uc9)) (since w) (.slice (some ⟨w.heap.size, 0, none⟩) xs.length xs.length) (xs.take (k + 1) ++ List.replicate (xs.length - (k + 1)) tActive.d) := by have := hst.out; rw [HSET.out] at this; exact this
   have HST := Lib.hid hst2
   clear hst hst2 hT hT2 hO2 r9 r0 hrow hO hput hown hbel b2 ow b3 hLl hLc hFj
   go_wp2
   go_roundw
   case rel => exact ⟨k + 1, by omega, by go_num, HST.out, B3.out⟩
   case measure => simp [intOf]; omega
  ·
   obtain rfl : k = xs.length := by omega
   have HE : Hid (xs.take xs.length ++ List.replicate (xs.length - xs.length) tActive.d = xs) := Lib.hid (by simp)
   rw [HE.out] at hown
   go_wp2
   go_ret
   exact ⟨_, rfl, hown, hbel⟩
set_option maxHeartbeats 8000000 in
set_option maxRecDepth 100000 in
theorem eqActiveS_S (v u : Value) (xs : List ((Int × Int × List (Int × Int × Int) × List Int) × Int × List Int × Int × Int × Int × List (Int × List Int))) (w : World) (h : SlR tActive w v xs) (g : SlR tActive w u xs) (hs : zL tActive xs ≤ 1048576) :
  Calls Try.prog 45 #[v, u] w fun e w' => e = .returned (.bool true) ∧ Below w.heap.size w w' := by
 have H := Lib.hid h
 have G := Lib.hid g
 have HS := Lib.hid hs
 have hlen := zL_len hs
 obtain ⟨a, cap, rfl⟩ := slR_len h
 obtain ⟨a2, cap2, rfl⟩ := slR_len g
 clear h g hs
 go_enter Try.func45, Try.ntmps45
 go_wp2
 go_loopw [5] (fun i wr => ∃ k : Nat, k ≤ xs.length ∧ i = .int .i64 k ∧ Below w.heap.size w wr) (fun i _ => xs.length - (intOf i).toNat)
 case atStart => exact ⟨0, Nat.zero_le _, rfl, Below.refl _ _⟩
 case round =>
  obtain ⟨k, hk, rfl, hbel⟩ := hrel
  by_cases hlt : k < xs.length
  ·
   obtain ⟨b, off, cap', cs, hv, hbl, hcs, hR⟩ := slR_at (slR_below tActive_law H.out hbel) hlt
   simp only [Value.slice.injEq] at hv
   obtain ⟨rfl, _, rfl⟩ := hv
   obtain ⟨b2, off2, cap2', ds, hv2, hbl2, hds, hQ⟩ := slR_at (slR_below tActive_law G.out hbel) hlt
   simp only [Value.slice.injEq] at hv2
   obtain ⟨rfl, _, rfl⟩ := hv2
   have hzx := zL_at HS.out hlt
   have i1 : (0 : Int) ≤ (k : Int) := by omega
   have i2 : (k : Int) < (xs.length : Int) := by omega
   generalize xs.getD k tActive.d = x at *
   obtain ⟨⟨a0, a1, x2, x3⟩, a4, x5, a6, a7, a8, x9⟩ := x
   obtain ⟨v2, v3, v5, v9, hR'⟩ := tActive_R hR
   obtain ⟨rfl, h2, h3, h5, h9⟩ := hR'
   obtain ⟨u2, u3, u5, u9, hQ'⟩ := tActive_R hQ
   obtain ⟨rfl, g2, g3, g5, g9⟩ := hQ'
   rw [tActive_sz] at hzx
   have S2 := Lib.hid (show zL tCond x2 ≤ 1048576 by omega)
   have S3 := Lib.hid (show zL tInt x3 ≤ 1048576 by omega)
   have S5 := Lib.hid (show zL tInt x5 ≤ 1048576 by omega)
   have S9 := Lib.hid (show zL tRow x9 ≤ 1048576 by omega)
   have p0 : wr.cell? ⟨b, off + k * 10, none⟩ = some (Value.int .i64 a0) := hcs 0 (by decide)
   have q0 : wr.cell? ⟨b2, off2 + k * 10, none⟩ = some (Value.int .i64 a0) := hds 0 (by decide)
   have p1 : wr.cell? ⟨b, off + k * 10 + 1, none⟩ = some (Value.int .i64 a1) := hcs 1 (by decide)
   have q1 : wr.cell? ⟨b2, off2 + k * 10 + 1, none⟩ = some (Value.int .i64 a1) := hds 1 (by decide)
   have p2 : wr.cell? ⟨b, off + k * 10 + 2, none⟩ = some (v2) := hcs 2 (by decide)
   have q2 : wr.cell? ⟨b2, off2 + k * 10 + 2, none⟩ = some (u2) := hds 2 (by decide)
   have p3 : wr.cell? ⟨b, off + k * 10 + 3, none⟩ = some (v3) := hcs 3 (by decide)
   have q3 : wr.cell? ⟨b2, off2 + k * 10 + 3, none⟩ = some (u3) := hds 3 (by decide)
   have p4 : wr.cell? ⟨b, off + k * 10 + 4, none⟩ = some (Value.int .i64 a4) := hcs 4 (by decide)
   have q4 : wr.cell? ⟨b2, off2 + k * 10 + 4, none⟩ = some (Value.int .i64 a4) := hds 4 (by decide)
   have p5 : wr.cell? ⟨b, off + k * 10 + 5, none⟩ = some (v5) := hcs 5 (by decide)
   have q5 : wr.cell? ⟨b2, off2 + k * 10 + 5, none⟩ = some (u5) := hds 5 (by decide)
   have p6 : wr.cell? ⟨b, off + k * 10 + 6, none⟩ = some (Value.int .i64 a6) := hcs 6 (by decide)
   have q6 : wr.cell? ⟨b2, off2 + k * 10 + 6, none⟩ = some (Value.int .i64 a6) := hds 6 (by decide)
   have p7 : wr.cell? ⟨b, off + k * 10 + 7, none⟩ = some (Value.int .i64 a7) := hcs 7 (by decide)
   have q7 : wr.cell? ⟨b2, off2 + k * 10 + 7, none⟩ = some (Value.int .i64 a7) := hds 7 (by decide)
   have p8 : wr.cell? ⟨b, off + k * 10 + 8, none⟩ = some (Value.int .i64 a8) := hcs 8 (by decide)
   have q8 : wr.cell? ⟨b2, off2 + k * 10 + 8, none⟩ = some (Value.int .i64 a8) := hds 8 (by decide)
   have p9 : wr.cell? ⟨b, off + k * 10 + 9, none⟩ = some (v9) := hcs 9 (by decide)
   have q9 : wr.cell? ⟨b2, off2 + k * 10 + 9, none⟩ = some (u9) := hds 9 (by decide)
   clear hcs hds hzx
   go_wp2
   go_region_with (first | (go_at_call 97; refine (eqActive_T a0 a1 a4 a6 a7 a8 v2 v3 v5 v9 x2 x3 x5 x9 u2 u3 u5 u9 _ (by exact slR_same tCond_law h2 rfl rfl rfl rfl) (by exact slR_same tInt_law h3 rfl rfl rfl rfl) (by exact slR_same tInt_law h5 rfl rfl rfl rfl) (by exact slR_same tRow_law h9 rfl rfl rfl rfl) (by exact slR_same tCond_law g2 rfl rfl rfl rfl) (by exact slR_same tInt_law g3 rfl rfl rfl rfl) (by exact slR_same tInt_law g5 rfl rfl rfl rfl) (by exact slR_same tRow_law g9 rfl rfl rfl rfl) S2.out S3.out S5.out S9.out).mono ?_; rintro e w8 ⟨rfl, b9⟩; have b10 : Below wr.heap.size wr w8 := ⟨b9.os, b9.tape, b9.output, b9.size, b9.block⟩))
   all_goals
    have b11 := hbel.trans (b10.mono hbel.size)
    go_wp2
    go_roundw
    case rel => exact ⟨k + 1, by omega, by go_num, b11⟩
    case measure => simp [intOf]; omega
  ·
   go_wp2
   go_ret
   exact ⟨rfl, hbel⟩
def tFinished : Ty ((Int × Int × List (Int × Int × Int) × List Int) × Int × Int × List (Int × List Int)) := tPair tQuery (tPair tInt (tPair tInt tRowS))
theorem tFinished_law : tFinished.Law := tPair_law tQuery_law (tPair_law tInt_law (tPair_law tInt_law tRowS_law))
theorem tFinished_R {w : World} {cs : List Value} {a0 : Int} {a1 : Int} {x2 : List (Int × Int × Int)} {x3 : List Int} {a4 : Int} {a5 : Int} {x6 : List (Int × List Int)} (h : tFinished.R w cs ((a0, a1, x2, x3), a4, a5, x6)) : ∃ v2 v3 v6, cs = [.int .i64 a0, .int .i64 a1, v2, v3, .int .i64 a4, .int .i64 a5, v6] ∧ SlR tCond w v2 x2 ∧ SlR tInt w v3 x3 ∧ SlR tRow w v6 x6 := by
 obtain ⟨_, _, rfl, ⟨_, _, rfl, rfl, ⟨_, _, rfl, rfl, ⟨_, _, rfl, ⟨v2, rfl, h2⟩, ⟨v3, rfl, h3⟩⟩⟩⟩, ⟨_, _, rfl, rfl, ⟨_, _, rfl, rfl, ⟨v6, rfl, h6⟩⟩⟩⟩ := h
 exact ⟨_, _, _, rfl, h2, h3, h6⟩
theorem tFinished_sz {a0 : Int} {a1 : Int} {x2 : List (Int × Int × Int)} {x3 : List Int} {a4 : Int} {a5 : Int} {x6 : List (Int × List Int)} : tFinished.sz ((a0, a1, x2, x3), a4, a5, x6) = zL tCond x2 + zL tInt x3 + zL tRow x6 := by
 simp only [tFinished, tPair_sz, tPair_nd, tPair_nv, tInt_sz, tInt_nd, tInt_nv, tSl_sz, tSl_nd, tSl_nv, tQuery]
 try omega
theorem tFinished_O {w : World} {F : Nat → Prop} {cs : List Value} {a0 : Int} {a1 : Int} {x2 : List (Int × Int × Int)} {x3 : List Int} {a4 : Int} {a5 : Int} {x6 : List (Int × List Int)} (h : tFinished.O w F cs ((a0, a1, x2, x3), a4, a5, x6)) : ∃ v2 v3 v6, ∃ F2 F3 F6 : Nat → Prop, cs = [.int .i64 a0, .int .i64 a1, v2, v3, .int .i64 a4, .int .i64 a5, v6] ∧ SlO 147 tCond w F2 v2 x2 ∧ SlO 3 tInt w F3 v3 x3 ∧ SlO 73 tRow w F6 v6 x6 ∧ (∀ b, F2 b → F b) ∧ (∀ b, F3 b → F b) ∧ (∀ b, F6 b → F b) ∧ (∀ b, F2 b → ¬ F3 b) ∧ (∀ b, F2 b → ¬ F6 b) ∧ (∀ b, F3 b → ¬ F6 b) := by
 obtain ⟨_, _, F0_1, F0_2, rfl, ⟨_, _, F1_1, F1_2, rfl, rfl, ⟨_, _, F2_1, F2_2, rfl, rfl, ⟨_, _, F3_1, F3_2, rfl, ⟨v2, rfl, h2⟩, ⟨v3, rfl, h3⟩, s3_1, s3_2, d3⟩, s2_1, s2_2, d2⟩, s1_1, s1_2, d1⟩, ⟨_, _, F4_1, F4_2, rfl, rfl, ⟨_, _, F5_1, F5_2, rfl, rfl, ⟨v6, rfl, h6⟩, s5_1, s5_2, d5⟩, s4_1, s4_2, d4⟩, s0_1, s0_2, d0⟩ := h
 exact ⟨v2, v3, v6, F3_1, F3_2, F5_2, rfl, h2, h3, h6, fun b h => (s0_1 b (s1_2 b (s2_2 b (s3_1 b h)))), fun b h => (s0_1 b (s1_2 b (s2_2 b (s3_2 b h)))), fun b h => (s0_2 b (s4_2 b (s5_2 b h))), fun b h h2 => d3 b h h2, fun b h h2 => d0 b (s1_2 b (s2_2 b (s3_1 b h))) (s4_2 b (s5_2 b h2)), fun b h h2 => d0 b (s1_2 b (s2_2 b (s3_2 b h))) (s4_2 b (s5_2 b h2))⟩
theorem tFinished_mkO {w : World} {F : Nat → Prop} {a0 : Int} {a1 : Int} {x2 : List (Int × Int × Int)} {x3 : List Int} {a4 : Int} {a5 : Int} {x6 : List (Int × List Int)} {v2 v3 v6 : Value} {F2 F3 F6 : Nat → Prop} (h2 : SlO 147 tCond w F2 v2 x2) (h3 : SlO 3 tInt w F3 v3 x3) (h6 : SlO 73 tRow w F6 v6 x6) (s2 : ∀ b, F2 b → F b) (s3 : ∀ b, F3 b → F b) (s6 : ∀ b, F6 b → F b) (d2_3 : ∀ b, F2 b → ¬ F3 b) (d2_6 : ∀ b, F2 b → ¬ F6 b) (d3_6 : ∀ b, F3 b → ¬ F6 b) : tFinished.O w F [.int .i64 a0, .int .i64 a1, v2, v3, .int .i64 a4, .int .i64 a5, v6] ((a0, a1, x2, x3), a4, a5, x6) := ⟨[.int .i64 a0, .int .i64 a1, v2, v3], [.int .i64 a4, .int .i64 a5, v6], fun b => F2 b ∨ (F3 b), F6, rfl, ⟨[.int .i64 a0], [.int .i64 a1, v2, v3], fun _ => False, fun b => F2 b ∨ (F3 b), rfl, rfl, ⟨[.int .i64 a1], [v2, v3], fun _ => False, fun b => F2 b ∨ (F3 b), rfl, rfl, ⟨[v2], [v3], F2, F3, rfl, ⟨_, rfl, h2⟩, ⟨_, rfl, h3⟩, (fun b h => (Or.inl h)), (fun b h => (Or.inr h)), (fun b h g => d2_3 b h g)⟩, (fun b h => (False.elim h)), (fun b h => (h.elim (fun q0 => (Or.inl q0)) (fun q0 => (Or.inr q0)))), (fun b h g => (False.elim h))⟩, (fun b h => (False.elim h)), (fun b h => (h.elim (fun q0 => (Or.inl q0)) (fun q0 => (Or.inr q0)))), (fun b h g => (False.elim h))⟩, ⟨[.int .i64 a4], [.int .i64 a5, v6], fun _ => False, F6, rfl, rfl, ⟨[.int .i64 a5], [v6], fun _ => False, F6, rfl, rfl, ⟨_, rfl, h6⟩, (fun b h => (False.elim h)), (fun b h => h), (fun b h g => (False.elim h))⟩, (fun b h => (False.elim h)), (fun b h => h), (fun b h g => (False.elim h))⟩, (fun b h => (h.elim (fun q0 => s2 b q0) (fun q0 => s3 b q0))), (fun b h => s6 b h), (fun b h g => (h.elim (fun q0 => d2_6 b q0 g) (fun q0 => d3_6 b q0 g)))⟩
set_option maxHeartbeats 8000000 in
set_option maxRecDepth 100000 in
theorem szFinished_Y (a0 a1 a4 a5 : Int) (v2 v3 v6 : Value) (x2 : List (Int × Int × Int)) (x3 : List Int) (x6 : List (Int × List Int)) (k0 : Int) (w : World) (h2 : SlR tCond w v2 x2) (h3 : SlR tInt w v3 x3) (h6 : SlR tRow w v6 x6) (hs : ((zL tCond x2 + zL tInt x3 + zL tRow x6 : Nat) : Int) ≤ k0) (hk : k0 ≤ 1048576) :
  Calls Try.prog 104 #[.agg #[.int .i64 a0, .int .i64 a1, v2, v3, .int .i64 a4, .int .i64 a5, v6], .int .i64 k0] w fun e w' => e = .returned (.int .i64 (k0 - ((zL tCond x2 + zL tInt x3 + zL tRow x6 : Nat) : Int))) ∧ Below w.heap.size w w' := by
 have H2 := Lib.hid h2
 have H3 := Lib.hid h3
 have H6 := Lib.hid h6
 clear h2 h3 h6
 have HZ0 : Hid (((zL tCond x2 + zL tInt x3 : Nat) : Int) ≤ k0) := Lib.hid (by omega)
 have HK0 : Hid (k0 ≤ 1048576) := Lib.hid (by omega)
 have hn0 : ¬ k0 - ((zL tCond x2 + zL tInt x3 : Nat) : Int) < 0 := by omega
 have HZ6 : Hid (((zL tRow x6 : Nat) : Int) ≤ k0 - ((zL tCond x2 + zL tInt x3 : Nat) : Int)) := Lib.hid (by omega)
 have HK6 : Hid (k0 - ((zL tCond x2 + zL tInt x3 : Nat) : Int) ≤ 1048576) := Lib.hid (by omega)
 have hn6 : ¬ k0 - ((zL tCond x2 + zL tInt x3 : Nat) : Int) - ((zL tRow x6 : Nat) : Int) < 0 := by omega
 have HE : Hid (k0 - ((zL tCond x2 + zL tInt x3 : Nat) : Int) - ((zL tRow x6 : Nat) : Int) = k0 - ((zL tCond x2 + zL tInt x3 + zL tRow x6 : Nat) : Int)) := Lib.hid (by omega)
 clear hs hk
 have hb : Below w.heap.size w (w.alloc (.cells #[.int .i64 a0, .int .i64 a1, v2, v3, .int .i64 a4, .int .i64 a5, v6] 138)) := (Below.refl _ w).alloc (Nat.le_refl _) _
 have g0 : (w.alloc (.cells #[.int .i64 a0, .int .i64 a1, v2, v3, .int .i64 a4, .int .i64 a5, v6] 138)).heap[w.heap.size]? = some (.cells #[.int .i64 a0, .int .i64 a1, v2, v3, .int .i64 a4, .int .i64 a5, v6] 138 (0, 0)) := heap_alloc_new w _
 have hz0 : w.heap.size < (w.alloc (.cells #[.int .i64 a0, .int .i64 a1, v2, v3, .int .i64 a4, .int .i64 a5, v6] 138)).heap.size := by simp
 go_enter Try.func104, Try.ntmps104
 go_wp2_with fail
 generalize (w.alloc (.cells #[.int .i64 a0, .int .i64 a1, v2, v3, .int .i64 a4, .int .i64 a5, v6] 138)) = W at *
 refine (szQuery_Y a0 a1 v2 v3 x2 x3 (k0) W (slR_below tCond_law H2.out hb) (slR_below tInt_law H3.out hb) HZ0.out HK0.out).mono ?_
 rintro e W1 ⟨rfl, b1⟩
 replace g0 := (b1.block w.heap.size hz0).trans g0
 replace hz0 := Nat.lt_of_lt_of_le hz0 b1.size
 replace hb := hb.trans (b1.mono hb.size)
 clear b1
 have p6 := (cell_of_row W1 _ 6 _ _ _ g0).trans (show _ = some (v6) from rfl)
 go_wp2_with fail
 clear p6
 refine (szRowS_Y v6 x6 (k0 - ((zL tCond x2 + zL tInt x3 : Nat) : Int)) W1 (slR_below tRow_law H6.out hb) HZ6.out HK6.out).mono ?_
 rintro e W2 ⟨rfl, b1⟩
 replace g0 := (b1.block w.heap.size hz0).trans g0
 replace hz0 := Nat.lt_of_lt_of_le hz0 b1.size
 replace hb := hb.trans (b1.mono hb.size)
 clear b1
 go_wp2
 go_ret
 exact ⟨ty_ret HE.out, hb⟩
set_option maxHeartbeats 8000000 in
set_option maxRecDepth 100000 in
theorem szFinished_N (a0 a1 a4 a5 : Int) (v2 v3 v6 : Value) (x2 : List (Int × Int × Int)) (x3 : List Int) (x6 : List (Int × List Int)) (k0 : Int) (w : World) (h2 : SlR tCond w v2 x2) (h3 : SlR tInt w v3 x3) (h6 : SlR tRow w v6 x6) (hs : k0 < ((zL tCond x2 + zL tInt x3 + zL tRow x6 : Nat) : Int)) (hk : k0 ≤ 1048576) (hp : 0 ≤ k0) (o2 : tCondS.ok x2) (o3 : tIntS.ok x3) (o6 : tRowS.ok x6) :
  Calls Try.prog 104 #[.agg #[.int .i64 a0, .int .i64 a1, v2, v3, .int .i64 a4, .int .i64 a5, v6], .int .i64 k0] w fun e w' => e = .returned (.int .i64 (-1)) ∧ Below w.heap.size w w' := by
 have H2 := Lib.hid h2
 have H3 := Lib.hid h3
 have H6 := Lib.hid h6
 clear h2 h3 h6
 have HO2 := Lib.hid o2
 have HO3 := Lib.hid o3
 have HO6 := Lib.hid o6
 clear o2 o3 o6
 by_cases c0 : k0 < ((zL tCond x2 + zL tInt x3 : Nat) : Int)
 ·
  have HZ0 : Hid (k0 < ((zL tCond x2 + zL tInt x3 : Nat) : Int)) := Lib.hid (by omega)
  have HP0 : Hid (0 ≤ k0) := Lib.hid (by omega)
  have HK0 : Hid (k0 ≤ 1048576) := Lib.hid (by omega)
  clear hs hk
  clear c0 hp
  have hb : Below w.heap.size w (w.alloc (.cells #[.int .i64 a0, .int .i64 a1, v2, v3, .int .i64 a4, .int .i64 a5, v6] 138)) := (Below.refl _ w).alloc (Nat.le_refl _) _
  have g0 : (w.alloc (.cells #[.int .i64 a0, .int .i64 a1, v2, v3, .int .i64 a4, .int .i64 a5, v6] 138)).heap[w.heap.size]? = some (.cells #[.int .i64 a0, .int .i64 a1, v2, v3, .int .i64 a4, .int .i64 a5, v6] 138 (0, 0)) := heap_alloc_new w _
  have hz0 : w.heap.size < (w.alloc (.cells #[.int .i64 a0, .int .i64 a1, v2, v3, .int .i64 a4, .int .i64 a5, v6] 138)).heap.size := by simp
  go_enter Try.func104, Try.ntmps104
  go_wp2_with fail
  generalize (w.alloc (.cells #[.int .i64 a0, .int .i64 a1, v2, v3, .int .i64 a4, .int .i64 a5, v6] 138)) = W at *
  refine (szQuery_N a0 a1 v2 v3 x2 x3 (k0) W (slR_below tCond_law H2.out hb) (slR_below tInt_law H3.out hb) HZ0.out HK0.out HP0.out HO2.out HO3.out).mono ?_
  rintro e W1 ⟨rfl, b1⟩
  replace g0 := (b1.block w.heap.size hz0).trans g0
  replace hz0 := Nat.lt_of_lt_of_le hz0 b1.size
  replace hb := hb.trans (b1.mono hb.size)
  clear b1
  go_wp2
  go_ret
  exact ⟨rfl, hb⟩
 ·
  have HZ0 : Hid (((zL tCond x2 + zL tInt x3 : Nat) : Int) ≤ k0) := Lib.hid (by omega)
  have hn0 : ¬ k0 - ((zL tCond x2 + zL tInt x3 : Nat) : Int) < 0 := by omega
  have HK0 : Hid (k0 ≤ 1048576) := Lib.hid (by omega)
  have HZ6 : Hid (k0 - ((zL tCond x2 + zL tInt x3 : Nat) : Int) < ((zL tRow x6 : Nat) : Int)) := Lib.hid (by omega)
  have HP6 : Hid (0 ≤ k0 - ((zL tCond x2 + zL tInt x3 : Nat) : Int)) := Lib.hid (by omega)
  have HK6 : Hid (k0 - ((zL tCond x2 + zL tInt x3 : Nat) : Int) ≤ 1048576) := Lib.hid (by omega)
  clear hs hk
  clear hp c0
  have hb : Below w.heap.size w (w.alloc (.cells #[.int .i64 a0, .int .i64 a1, v2, v3, .int .i64 a4, .int .i64 a5, v6] 138)) := (Below.refl _ w).alloc (Nat.le_refl _) _
  have g0 : (w.alloc (.cells #[.int .i64 a0, .int .i64 a1, v2, v3, .int .i64 a4, .int .i64 a5, v6] 138)).heap[w.heap.size]? = some (.cells #[.int .i64 a0, .int .i64 a1, v2, v3, .int .i64 a4, .int .i64 a5, v6] 138 (0, 0)) := heap_alloc_new w _
  have hz0 : w.heap.size < (w.alloc (.cells #[.int .i64 a0, .int .i64 a1, v2, v3, .int .i64 a4, .int .i64 a5, v6] 138)).heap.size := by simp
  go_enter Try.func104, Try.ntmps104
  go_wp2_with fail
  generalize (w.alloc (.cells #[.int .i64 a0, .int .i64 a1, v2, v3, .int .i64 a4, .int .i64 a5, v6] 138)) = W at *
  refine (szQuery_Y a0 a1 v2 v3 x2 x3 (k0) W (slR_below tCond_law H2.out hb) (slR_below tInt_law H3.out hb) HZ0.out HK0.out).mono ?_
  rintro e W1 ⟨rfl, b1⟩
  replace g0 := (b1.block w.heap.size hz0).trans g0
  replace hz0 := Nat.lt_of_lt_of_le hz0 b1.size
  replace hb := hb.trans (b1.mono hb.size)
  clear b1
  have p6 := (cell_of_row W1 _ 6 _ _ _ g0).trans (show _ = some (v6) from rfl)
  go_wp2_with fail
  clear p6
  refine (szRowS_N v6 x6 (k0 - ((zL tCond x2 + zL tInt x3 : Nat) : Int)) W1 (slR_below tRow_law H6.out hb) HZ6.out HK6.out HP6.out HO6.out).mono ?_
  rintro e W2 ⟨rfl, b1⟩
  replace g0 := (b1.block w.heap.size hz0).trans g0
  replace hz0 := Nat.lt_of_lt_of_le hz0 b1.size
  replace hb := hb.trans (b1.mono hb.size)
  clear b1
  go_wp2
  go_ret
  exact ⟨rfl, hb⟩
set_option maxHeartbeats 8000000 in
set_option maxRecDepth 100000 in
theorem toFinished_T (a0 a1 a4 a5 : Int) (v2 v3 v6 : Value) (x2 : List (Int × Int × Int)) (x3 : List Int) (x6 : List (Int × List Int)) (w : World) (h2 : SlR tCond w v2 x2) (h3 : SlR tInt w v3 x3) (h6 : SlR tRow w v6 x6) (s2 : zL tCond x2 ≤ 1048576) (s3 : zL tInt x3 ≤ 1048576) (s6 : zL tRow x6 ≤ 1048576) :
  Calls Try.prog 107 #[.agg #[.int .i64 a0, .int .i64 a1, v2, v3, .int .i64 a4, .int .i64 a5, v6]] w (FreshT tFinished (fun cs => .agg cs.toArray) w ((a0, a1, x2, x3), a4, a5, x6)) := by
 have H2 := Lib.hid h2
 have H3 := Lib.hid h3
 have H6 := Lib.hid h6
 clear h2 h3 h6
 have S2 := Lib.hid s2
 have S3 := Lib.hid s3
 have S6 := Lib.hid s6
 clear s2 s3 s6
 go_enter Try.func107, Try.ntmps107
 go_wp2_with fail
 have hb : Below w.heap.size w (((w.alloc (.cells #[.int .i64 a0, .int .i64 a1, v2, v3, .int .i64 a4, .int .i64 a5, v6] 138)).alloc (.cells #[.int .i64 0, .int .i64 0, .slice none 0 0, .slice none 0 0, .int .i64 0, .int .i64 0, .slice none 0 0] 101)).alloc (.cells #[.int .i64 0, .int .i64 0, .slice none 0 0, .slice none 0 0, .int .i64 0, .int .i64 0, .slice none 0 0] 101)) := (((Below.refl _ w).alloc (Nat.le_refl _) _).alloc (by simp) _).alloc (by simp; omega) _
 have g2 : (((w.alloc (.cells #[.int .i64 a0, .int .i64 a1, v2, v3, .int .i64 a4, .int .i64 a5, v6] 138)).alloc (.cells #[.int .i64 0, .int .i64 0, .slice none 0 0, .slice none 0 0, .int .i64 0, .int .i64 0, .slice none 0 0] 101)).alloc (.cells #[.int .i64 0, .int .i64 0, .slice none 0 0, .slice none 0 0, .int .i64 0, .int .i64 0, .slice none 0 0] 101)).heap[w.heap.size + 1 + 1]? = some (.cells #[.int .i64 0, .int .i64 0, .slice none 0 0, .slice none 0 0, .int .i64 0, .int .i64 0, .slice none 0 0] 101 (0, 0)) := by
  have := heap_alloc_new ((w.alloc (.cells #[.int .i64 a0, .int .i64 a1, v2, v3, .int .i64 a4, .int .i64 a5, v6] 138)).alloc (.cells #[.int .i64 0, .int .i64 0, .slice none 0 0, .slice none 0 0, .int .i64 0, .int .i64 0, .slice none 0 0] 101)) (.cells #[.int .i64 0, .int .i64 0, .slice none 0 0, .slice none 0 0, .int .i64 0, .int .i64 0, .slice none 0 0] 101)
  simpa only [World.size_alloc] using this
 have g1 : (((w.alloc (.cells #[.int .i64 a0, .int .i64 a1, v2, v3, .int .i64 a4, .int .i64 a5, v6] 138)).alloc (.cells #[.int .i64 0, .int .i64 0, .slice none 0 0, .slice none 0 0, .int .i64 0, .int .i64 0, .slice none 0 0] 101)).alloc (.cells #[.int .i64 0, .int .i64 0, .slice none 0 0, .slice none 0 0, .int .i64 0, .int .i64 0, .slice none 0 0] 101)).heap[w.heap.size + 1]? = some (.cells #[.int .i64 0, .int .i64 0, .slice none 0 0, .slice none 0 0, .int .i64 0, .int .i64 0, .slice none 0 0] 101 (0, 0)) := by
  have := heap_alloc_new (w.alloc (.cells #[.int .i64 a0, .int .i64 a1, v2, v3, .int .i64 a4, .int .i64 a5, v6] 138)) (.cells #[.int .i64 0, .int .i64 0, .slice none 0 0, .slice none 0 0, .int .i64 0, .int .i64 0, .slice none 0 0] 101)
  rw [Below.heap_alloc _ _ _ (by simp)]
  simpa only [World.size_alloc] using this
 have g0 : (((w.alloc (.cells #[.int .i64 a0, .int .i64 a1, v2, v3, .int .i64 a4, .int .i64 a5, v6] 138)).alloc (.cells #[.int .i64 0, .int .i64 0, .slice none 0 0, .slice none 0 0, .int .i64 0, .int .i64 0, .slice none 0 0] 101)).alloc (.cells #[.int .i64 0, .int .i64 0, .slice none 0 0, .slice none 0 0, .int .i64 0, .int .i64 0, .slice none 0 0] 101)).heap[w.heap.size]? = some (.cells #[.int .i64 a0, .int .i64 a1, v2, v3, .int .i64 a4, .int .i64 a5, v6] 138 (0, 0)) := by
  rw [Below.heap_alloc _ _ _ (by simp; omega), Below.heap_alloc _ _ _ (by simp)]
  exact heap_alloc_new w _
 have hz : w.heap.size + 2 < (((w.alloc (.cells #[.int .i64 a0, .int .i64 a1, v2, v3, .int .i64 a4, .int .i64 a5, v6] 138)).alloc (.cells #[.int .i64 0, .int .i64 0, .slice none 0 0, .slice none 0 0, .int .i64 0, .int .i64 0, .slice none 0 0] 101)).alloc (.cells #[.int .i64 0, .int .i64 0, .slice none 0 0, .slice none 0 0, .int .i64 0, .int .i64 0, .slice none 0 0] 101)).heap.size := by simp [World.size_alloc]
 generalize (((w.alloc (.cells #[.int .i64 a0, .int .i64 a1, v2, v3, .int .i64 a4, .int .i64 a5, v6] 138)).alloc (.cells #[.int .i64 0, .int .i64 0, .slice none 0 0, .slice none 0 0, .int .i64 0, .int .i64 0, .slice none 0 0] 101)).alloc (.cells #[.int .i64 0, .int .i64 0, .slice none 0 0, .slice none 0 0, .int .i64 0, .int .i64 0, .slice none 0 0] 101)) = W at *
 refine (toQuery_T a0 a1 v2 v3 x2 x3 W (slR_below tCond_law H2.out hb) (slR_below tInt_law H3.out hb) S2.out S3.out).mono ?_
 rintro e w1 ⟨cs, rfl, ow, b1⟩
 replace ow := tQuery_law.mono (tQuery_law.lt ow) (F' := fun b => W.heap.size ≤ b ∧ b < w1.heap.size) (fun b h => h)
 obtain ⟨u2, u3, F2, F3, rfl, o2, o3, q2, q3, d2_3⟩ := tQuery_O ow
 obtain ⟨ua2, uc2, rfl⟩ := slO_len o2
 obtain ⟨ua3, uc3, rfl⟩ := slO_len o3
 replace g0 := (b1.block _ (by omega)).trans g0
 replace g1 := (b1.block _ (by omega)).trans g1
 replace g2 := (b1.block _ (by omega)).trans g2
 have zz1 := b1.size
 replace hb := hb.trans (b1.mono (by omega))
 clear b1
 have c2_0 := (cell_of_row w1 _ 0 _ _ _ g2).trans (show _ = some (Value.int .i64 0) from rfl)
 have f2_0 := frozen_of_row w1 _ 0 _ _ g2
 have c2_1 := (cell_of_row w1 _ 1 _ _ _ g2).trans (show _ = some (Value.int .i64 0) from rfl)
 have f2_1 := frozen_of_row w1 _ 1 _ _ g2
 have c2_2 := (cell_of_row w1 _ 2 _ _ _ g2).trans (show _ = some (Value.slice none 0 0) from rfl)
 have f2_2 := frozen_of_row w1 _ 2 _ _ g2
 have c2_3 := (cell_of_row w1 _ 3 _ _ _ g2).trans (show _ = some (Value.slice none 0 0) from rfl)
 have f2_3 := frozen_of_row w1 _ 3 _ _ g2
 have c2_4 := (cell_of_row w1 _ 4 _ _ _ g2).trans (show _ = some (Value.int .i64 0) from rfl)
 have f2_4 := frozen_of_row w1 _ 4 _ _ g2
 have c2_5 := (cell_of_row w1 _ 5 _ _ _ g2).trans (show _ = some (Value.int .i64 0) from rfl)
 have f2_5 := frozen_of_row w1 _ 5 _ _ g2
 have ne1 : ¬ w.heap.size = w.heap.size + 1 + 1 := by omega
 have ne2 : ¬ w.heap.size + 1 = w.heap.size + 1 + 1 := by omega
 have ne3 : ¬ w.heap.size + 1 + 1 = w.heap.size + 1 := by omega
 have c0_4 := (cell_of_row w1 _ 4 _ _ _ g0).trans (show _ = some (Value.int .i64 a4) from rfl)
 have c0_5 := (cell_of_row w1 _ 5 _ _ _ g0).trans (show _ = some (Value.int .i64 a5) from rfl)
 have c0_6 := (cell_of_row w1 _ 6 _ _ _ g0).trans (show _ = some (v6) from rfl)
 have l0_4 : ((((w1.setCell ⟨w.heap.size + 1 + 1, 0, none⟩ (.int .i64 a0)).setCell ⟨w.heap.size + 1 + 1, 1, none⟩ (.int .i64 a1)).setCell ⟨w.heap.size + 1 + 1, 2, none⟩ (.slice ua2 x2.length uc2)).setCell ⟨w.heap.size + 1 + 1, 3, none⟩ (.slice ua3 x3.length uc3)).cell? ⟨w.heap.size, 4, none⟩ = some (Value.int .i64 a4) := by
  have m : ((((w1.setCell ⟨w.heap.size + 1 + 1, 0, none⟩ (.int .i64 a0)).setCell ⟨w.heap.size + 1 + 1, 1, none⟩ (.int .i64 a1)).setCell ⟨w.heap.size + 1 + 1, 2, none⟩ (.slice ua2 x2.length uc2)).setCell ⟨w.heap.size + 1 + 1, 3, none⟩ (.slice ua3 x3.length uc3)).heap[w.heap.size]? = some (.cells #[.int .i64 a0, .int .i64 a1, v2, v3, .int .i64 a4, .int .i64 a5, v6] 138 (0, 0)) := by
   repeat rw [heap_setCell_other _ _ _ _ (by simp <;> omega)]
   exact g0
  exact (cell_of_row _ _ 4 _ _ _ m).trans rfl
 have l0_5 : (((((w1.setCell ⟨w.heap.size + 1 + 1, 0, none⟩ (.int .i64 a0)).setCell ⟨w.heap.size + 1 + 1, 1, none⟩ (.int .i64 a1)).setCell ⟨w.heap.size + 1 + 1, 2, none⟩ (.slice ua2 x2.length uc2)).setCell ⟨w.heap.size + 1 + 1, 3, none⟩ (.slice ua3 x3.length uc3)).setCell ⟨w.heap.size + 1 + 1, 4, none⟩ (.int .i64 a4)).cell? ⟨w.heap.size, 5, none⟩ = some (Value.int .i64 a5) := by
  have m : (((((w1.setCell ⟨w.heap.size + 1 + 1, 0, none⟩ (.int .i64 a0)).setCell ⟨w.heap.size + 1 + 1, 1, none⟩ (.int .i64 a1)).setCell ⟨w.heap.size + 1 + 1, 2, none⟩ (.slice ua2 x2.length uc2)).setCell ⟨w.heap.size + 1 + 1, 3, none⟩ (.slice ua3 x3.length uc3)).setCell ⟨w.heap.size + 1 + 1, 4, none⟩ (.int .i64 a4)).heap[w.heap.size]? = some (.cells #[.int .i64 a0, .int .i64 a1, v2, v3, .int .i64 a4, .int .i64 a5, v6] 138 (0, 0)) := by
   repeat rw [heap_setCell_other _ _ _ _ (by simp <;> omega)]
   exact g0
  exact (cell_of_row _ _ 5 _ _ _ m).trans rfl
 have l0_6 : ((((((w1.setCell ⟨w.heap.size + 1 + 1, 0, none⟩ (.int .i64 a0)).setCell ⟨w.heap.size + 1 + 1, 1, none⟩ (.int .i64 a1)).setCell ⟨w.heap.size + 1 + 1, 2, none⟩ (.slice ua2 x2.length uc2)).setCell ⟨w.heap.size + 1 + 1, 3, none⟩ (.slice ua3 x3.length uc3)).setCell ⟨w.heap.size + 1 + 1, 4, none⟩ (.int .i64 a4)).setCell ⟨w.heap.size + 1 + 1, 5, none⟩ (.int .i64 a5)).cell? ⟨w.heap.size, 6, none⟩ = some (v6) := by
  have m : ((((((w1.setCell ⟨w.heap.size + 1 + 1, 0, none⟩ (.int .i64 a0)).setCell ⟨w.heap.size + 1 + 1, 1, none⟩ (.int .i64 a1)).setCell ⟨w.heap.size + 1 + 1, 2, none⟩ (.slice ua2 x2.length uc2)).setCell ⟨w.heap.size + 1 + 1, 3, none⟩ (.slice ua3 x3.length uc3)).setCell ⟨w.heap.size + 1 + 1, 4, none⟩ (.int .i64 a4)).setCell ⟨w.heap.size + 1 + 1, 5, none⟩ (.int .i64 a5)).heap[w.heap.size]? = some (.cells #[.int .i64 a0, .int .i64 a1, v2, v3, .int .i64 a4, .int .i64 a5, v6] 138 (0, 0)) := by
   repeat rw [heap_setCell_other _ _ _ _ (by simp <;> omega)]
   exact g0
  exact (cell_of_row _ _ 6 _ _ _ m).trans rfl
 go_wp2_with fail
 clear c2_0 f2_0 c2_1 f2_1 c2_2 f2_2 c2_3 f2_3 c2_4 f2_4 c2_5 f2_5 ne1 ne2 ne3 c0_4 c0_5 c0_6 l0_4 l0_5 l0_6
 have hw : Turn (fun b => b = w.heap.size + 1 + 1) w1 ((((((w1.setCell ⟨w.heap.size + 1 + 1, 0, none⟩ (.int .i64 a0)).setCell ⟨w.heap.size + 1 + 1, 1, none⟩ (.int .i64 a1)).setCell ⟨w.heap.size + 1 + 1, 2, none⟩ (.slice ua2 x2.length uc2)).setCell ⟨w.heap.size + 1 + 1, 3, none⟩ (.slice ua3 x3.length uc3)).setCell ⟨w.heap.size + 1 + 1, 4, none⟩ (.int .i64 a4)).setCell ⟨w.heap.size + 1 + 1, 5, none⟩ (.int .i64 a5)) := by
  first | exact (((((((Turn.refl (fun b => b = w.heap.size + 1 + 1) _).trans (turn_set (G := fun b => b = w.heap.size + 1 + 1) (g := w.heap.size + 1 + 1) (j := 0) (u := .int .i64 a0) rfl)).trans (turn_set (G := fun b => b = w.heap.size + 1 + 1) (g := w.heap.size + 1 + 1) (j := 1) (u := .int .i64 a1) rfl)).trans (turn_set (G := fun b => b = w.heap.size + 1 + 1) (g := w.heap.size + 1 + 1) (j := 2) (u := .slice ua2 x2.length uc2) rfl)).trans (turn_set (G := fun b => b = w.heap.size + 1 + 1) (g := w.heap.size + 1 + 1) (j := 3) (u := .slice ua3 x3.length uc3) rfl)).trans (turn_set (G := fun b => b = w.heap.size + 1 + 1) (g := w.heap.size + 1 + 1) (j := 4) (u := .int .i64 a4) rfl)).trans (turn_set (G := fun b => b = w.heap.size + 1 + 1) (g := w.heap.size + 1 + 1) (j := 5) (u := .int .i64 a5) rfl)) | skip
 replace g0 := (hw.block _ (by omega) (by omega)).trans g0
 replace g1 := (hw.block _ (by omega) (by omega)).trans g1
 have g2n := (heap_setCell_same _ (w.heap.size + 1 + 1) 5 _ _ (.int .i64 a5) (heap_setCell_same _ (w.heap.size + 1 + 1) 4 _ _ (.int .i64 a4) (heap_setCell_same _ (w.heap.size + 1 + 1) 3 _ _ (.slice ua3 x3.length uc3) (heap_setCell_same _ (w.heap.size + 1 + 1) 2 _ _ (.slice ua2 x2.length uc2) (heap_setCell_same _ (w.heap.size + 1 + 1) 1 _ _ (.int .i64 a1) (heap_setCell_same _ (w.heap.size + 1 + 1) 0 _ _ (.int .i64 a0) g2))))))
 replace g2 : ((((((w1.setCell ⟨w.heap.size + 1 + 1, 0, none⟩ (.int .i64 a0)).setCell ⟨w.heap.size + 1 + 1, 1, none⟩ (.int .i64 a1)).setCell ⟨w.heap.size + 1 + 1, 2, none⟩ (.slice ua2 x2.length uc2)).setCell ⟨w.heap.size + 1 + 1, 3, none⟩ (.slice ua3 x3.length uc3)).setCell ⟨w.heap.size + 1 + 1, 4, none⟩ (.int .i64 a4)).setCell ⟨w.heap.size + 1 + 1, 5, none⟩ (.int .i64 a5)).heap[w.heap.size + 1 + 1]? = some (.cells #[.int .i64 a0, .int .i64 a1, .slice ua2 x2.length uc2, .slice ua3 x3.length uc3, .int .i64 a4, .int .i64 a5, .slice none 0 0] 101 (0, 0)) := by simpa using g2n
 clear g2n
 replace o2 := slO_turn tCond_law o2 hw (fun b h1 h2 => by first | (have := h1.1; omega) | (have := q2 b h1; omega))
 replace o3 := slO_turn tInt_law o3 hw (fun b h1 h2 => by first | (have := h1.1; omega) | (have := q3 b h1; omega))
 replace hb := below_turn hb hw (fun b h => by omega) (by omega)
 have hz0 := hw.size
 clear hw
 generalize ((((((w1.setCell ⟨w.heap.size + 1 + 1, 0, none⟩ (.int .i64 a0)).setCell ⟨w.heap.size + 1 + 1, 1, none⟩ (.int .i64 a1)).setCell ⟨w.heap.size + 1 + 1, 2, none⟩ (.slice ua2 x2.length uc2)).setCell ⟨w.heap.size + 1 + 1, 3, none⟩ (.slice ua3 x3.length uc3)).setCell ⟨w.heap.size + 1 + 1, 4, none⟩ (.int .i64 a4)).setCell ⟨w.heap.size + 1 + 1, 5, none⟩ (.int .i64 a5)) = W1 at *
 refine (toRowS_S v6 x6 W1 (slR_below tRow_law H6.out hb) S6.out).mono ?_
 rintro e w2 ⟨u6, rfl, o6, b1⟩
 obtain ⟨ua6, uc6, rfl⟩ := slO_len o6
 replace o6 := slO_mono (slO_lt tRow_law o6) (F' := fun b => W1.heap.size ≤ b ∧ b < w2.heap.size) (fun b h => h)
 replace g0 := (b1.block _ (by omega)).trans g0
 replace g1 := (b1.block _ (by omega)).trans g1
 replace g2 := (b1.block _ (by omega)).trans g2
 replace o2 := slO_fresh tCond_law o2 b1
 replace o3 := slO_fresh tInt_law o3 b1
 have zz2 := b1.size
 replace hb := hb.trans (b1.mono (by omega))
 clear b1
 have c2_0 := (cell_of_row w2 _ 0 _ _ _ g2).trans (show _ = some (Value.int .i64 a0) from rfl)
 have f2_0 := frozen_of_row w2 _ 0 _ _ g2
 have c2_1 := (cell_of_row w2 _ 1 _ _ _ g2).trans (show _ = some (Value.int .i64 a1) from rfl)
 have f2_1 := frozen_of_row w2 _ 1 _ _ g2
 have c2_2 := (cell_of_row w2 _ 2 _ _ _ g2).trans (show _ = some (Value.slice ua2 x2.length uc2) from rfl)
 have f2_2 := frozen_of_row w2 _ 2 _ _ g2
 have c2_3 := (cell_of_row w2 _ 3 _ _ _ g2).trans (show _ = some (Value.slice ua3 x3.length uc3) from rfl)
 have f2_3 := frozen_of_row w2 _ 3 _ _ g2
 have c2_4 := (cell_of_row w2 _ 4 _ _ _ g2).trans (show _ = some (Value.int .i64 a4) from rfl)
 have f2_4 := frozen_of_row w2 _ 4 _ _ g2
 have c2_5 := (cell_of_row w2 _ 5 _ _ _ g2).trans (show _ = some (Value.int .i64 a5) from rfl)
 have f2_5 := frozen_of_row w2 _ 5 _ _ g2
 have c2_6 := (cell_of_row w2 _ 6 _ _ _ g2).trans (show _ = some (Value.slice none 0 0) from rfl)
 have f2_6 := frozen_of_row w2 _ 6 _ _ g2
 have ne1 : ¬ w.heap.size = w.heap.size + 1 + 1 := by omega
 have ne2 : ¬ w.heap.size + 1 = w.heap.size + 1 + 1 := by omega
 have ne3 : ¬ w.heap.size + 1 + 1 = w.heap.size + 1 := by omega
 have c1_0 := (cell_of_row w2 _ 0 _ _ _ g1).trans (show _ = some (Value.int .i64 0) from rfl)
 have f1_0 := frozen_of_row w2 _ 0 _ _ g1
 have c1_1 := (cell_of_row w2 _ 1 _ _ _ g1).trans (show _ = some (Value.int .i64 0) from rfl)
 have f1_1 := frozen_of_row w2 _ 1 _ _ g1
 have c1_2 := (cell_of_row w2 _ 2 _ _ _ g1).trans (show _ = some (Value.slice none 0 0) from rfl)
 have f1_2 := frozen_of_row w2 _ 2 _ _ g1
 have c1_3 := (cell_of_row w2 _ 3 _ _ _ g1).trans (show _ = some (Value.slice none 0 0) from rfl)
 have f1_3 := frozen_of_row w2 _ 3 _ _ g1
 have c1_4 := (cell_of_row w2 _ 4 _ _ _ g1).trans (show _ = some (Value.int .i64 0) from rfl)
 have f1_4 := frozen_of_row w2 _ 4 _ _ g1
 have c1_5 := (cell_of_row w2 _ 5 _ _ _ g1).trans (show _ = some (Value.int .i64 0) from rfl)
 have f1_5 := frozen_of_row w2 _ 5 _ _ g1
 have c1_6 := (cell_of_row w2 _ 6 _ _ _ g1).trans (show _ = some (Value.slice none 0 0) from rfl)
 have f1_6 := frozen_of_row w2 _ 6 _ _ g1
 go_wp2
 clear c2_0 f2_0 c2_1 f2_1 c2_2 f2_2 c2_3 f2_3 c2_4 f2_4 c2_5 f2_5 c2_6 f2_6 ne1 ne2 ne3 c1_0 f1_0 c1_1 f1_1 c1_2 f1_2 c1_3 f1_3 c1_4 f1_4 c1_5 f1_5 c1_6 f1_6
 have hw : Turn (fun b => b = w.heap.size + 1 ∨ b = w.heap.size + 1 + 1) w2 ((((((((w2.setCell ⟨w.heap.size + 1 + 1, 6, none⟩ (.slice ua6 x6.length uc6)).setCell ⟨w.heap.size + 1, 0, none⟩ (.int .i64 a0)).setCell ⟨w.heap.size + 1, 1, none⟩ (.int .i64 a1)).setCell ⟨w.heap.size + 1, 2, none⟩ (.slice ua2 x2.length uc2)).setCell ⟨w.heap.size + 1, 3, none⟩ (.slice ua3 x3.length uc3)).setCell ⟨w.heap.size + 1, 4, none⟩ (.int .i64 a4)).setCell ⟨w.heap.size + 1, 5, none⟩ (.int .i64 a5)).setCell ⟨w.heap.size + 1, 6, none⟩ (.slice ua6 x6.length uc6)) := by
  first | exact (((((((((Turn.refl _ _).trans (turn_set (g := w.heap.size + 1 + 1) (j := 6) (u := .slice ua6 x6.length uc6) (Or.inr rfl))).trans (turn_set (g := w.heap.size + 1) (j := 0) (u := .int .i64 a0) (Or.inl rfl))).trans (turn_set (g := w.heap.size + 1) (j := 1) (u := .int .i64 a1) (Or.inl rfl))).trans (turn_set (g := w.heap.size + 1) (j := 2) (u := .slice ua2 x2.length uc2) (Or.inl rfl))).trans (turn_set (g := w.heap.size + 1) (j := 3) (u := .slice ua3 x3.length uc3) (Or.inl rfl))).trans (turn_set (g := w.heap.size + 1) (j := 4) (u := .int .i64 a4) (Or.inl rfl))).trans (turn_set (g := w.heap.size + 1) (j := 5) (u := .int .i64 a5) (Or.inl rfl))).trans (turn_set (g := w.heap.size + 1) (j := 6) (u := .slice ua6 x6.length uc6) (Or.inl rfl))) | skip
 have r := (heap_setCell_same _ (w.heap.size + 1) 6 _ _ (.slice ua6 x6.length uc6) (heap_setCell_same _ (w.heap.size + 1) 5 _ _ (.int .i64 a5) (heap_setCell_same _ (w.heap.size + 1) 4 _ _ (.int .i64 a4) (heap_setCell_same _ (w.heap.size + 1) 3 _ _ (.slice ua3 x3.length uc3) (heap_setCell_same _ (w.heap.size + 1) 2 _ _ (.slice ua2 x2.length uc2) (heap_setCell_same _ (w.heap.size + 1) 1 _ _ (.int .i64 a1) (heap_setCell_same _ (w.heap.size + 1) 0 _ _ (.int .i64 a0) ((heap_setCell_other _ ⟨w.heap.size + 1 + 1, 6, none⟩ (w.heap.size + 1) (.slice ua6 x6.length uc6) (by simp)).trans g1))))))))
 have e0 := cell_of_row _ _ 0 _ _ _ r
 have e1 := cell_of_row _ _ 1 _ _ _ r
 have e2 := cell_of_row _ _ 2 _ _ _ r
 have e3 := cell_of_row _ _ 3 _ _ _ r
 have e4 := cell_of_row _ _ 4 _ _ _ r
 have e5 := cell_of_row _ _ 5 _ _ _ r
 have e6 := cell_of_row _ _ 6 _ _ _ r
 simp at e0 e1 e2 e3 e4 e5 e6
 replace o2 := slO_turn tCond_law o2 hw (fun b h1 h2 => by first | (have := h1.1; omega) | (have := q2 b h1; omega))
 replace o3 := slO_turn tInt_law o3 hw (fun b h1 h2 => by first | (have := h1.1; omega) | (have := q3 b h1; omega))
 replace o6 := slO_turn tRow_law o6 hw (fun b h1 h2 => by first | (have := h1.1; omega) | (have := q6 b h1; omega))
 replace hb := below_turn hb hw (fun b h => by omega) (by omega)
 refine bodyPost_ret (v := .agg #[.int .i64 a0, .int .i64 a1, .slice ua2 x2.length uc2, .slice ua3 x3.length uc3, .int .i64 a4, .int .i64 a5, .slice ua6 x6.length uc6]) ?_ rfl ?_
 ·
  simp [results, Try.f107, go_sem, e0, e1, e2, e3, e4, e5, e6]
 ·
  exact ⟨[.int .i64 a0, .int .i64 a1, .slice ua2 x2.length uc2, .slice ua3 x3.length uc3, .int .i64 a4, .int .i64 a5, .slice ua6 x6.length uc6], rfl, tFinished_mkO o2 o3 o6 (fun b h => by show w.heap.size ≤ b; first | (have := h.1; omega) | (have := q2 b h; omega)) (fun b h => by show w.heap.size ≤ b; first | (have := h.1; omega) | (have := q3 b h; omega)) (fun b h => by show w.heap.size ≤ b; first | (have := h.1; omega) | (have := q6 b h; omega)) (fun b h1 h2 => by first | exact d2_3 b h1 h2 | (have := h1.1; have := h1.2; have := h2.1; have := h2.2; omega) | (have := q2 b h1; have := h2.1; have := h2.2; omega) | (have := h1.1; have := h1.2; have := q3 b h2; omega) | (have := q2 b h1; have := q3 b h2; omega)) (fun b h1 h2 => by first | exact d2_6 b h1 h2 | (have := h1.1; have := h1.2; have := h2.1; have := h2.2; omega) | (have := q2 b h1; have := h2.1; have := h2.2; omega) | (have := h1.1; have := h1.2; have := q6 b h2; omega) | (have := q2 b h1; have := q6 b h2; omega)) (fun b h1 h2 => by first | exact d3_6 b h1 h2 | (have := h1.1; have := h1.2; have := h2.1; have := h2.2; omega) | (have := q3 b h1; have := h2.1; have := h2.2; omega) | (have := h1.1; have := h1.2; have := q6 b h2; omega) | (have := q3 b h1; have := q6 b h2; omega)), hb⟩
set_option maxHeartbeats 8000000 in
set_option maxRecDepth 100000 in
theorem eqFinished_T (a0 a1 a4 a5 : Int) (v2 v3 v6 : Value) (x2 : List (Int × Int × Int)) (x3 : List Int) (x6 : List (Int × List Int)) (u2 u3 u6 : Value) (w : World) (h2 : SlR tCond w v2 x2) (h3 : SlR tInt w v3 x3) (h6 : SlR tRow w v6 x6) (g2 : SlR tCond w u2 x2) (g3 : SlR tInt w u3 x3) (g6 : SlR tRow w u6 x6) (s2 : zL tCond x2 ≤ 1048576) (s3 : zL tInt x3 ≤ 1048576) (s6 : zL tRow x6 ≤ 1048576) :
  Calls Try.prog 98 #[.agg #[.int .i64 a0, .int .i64 a1, v2, v3, .int .i64 a4, .int .i64 a5, v6], .agg #[.int .i64 a0, .int .i64 a1, u2, u3, .int .i64 a4, .int .i64 a5, u6]] w fun e w' => e = .returned (.bool true) ∧ Below w.heap.size w w' := by
 have H2 := Lib.hid h2; have G2 := Lib.hid g2; have S2 := Lib.hid s2
 have H3 := Lib.hid h3; have G3 := Lib.hid g3; have S3 := Lib.hid s3
 have H6 := Lib.hid h6; have G6 := Lib.hid g6; have S6 := Lib.hid s6
 clear h2 g2 s2 h3 g3 s3 h6 g6 s6
 have e0 : (a0 != a0) = false := by simp
 have e1 : (a1 != a1) = false := by simp
 have e4 : (a4 != a4) = false := by simp
 have e5 : (a5 != a5) = false := by simp
 go_enter Try.func98, Try.ntmps98
 go_wp2_with fail
 have hb : Below w.heap.size w ((w.alloc (.cells #[.int .i64 a0, .int .i64 a1, v2, v3, .int .i64 a4, .int .i64 a5, v6] 101)).alloc (.cells #[.int .i64 a0, .int .i64 a1, u2, u3, .int .i64 a4, .int .i64 a5, u6] 101)) := ((Below.refl _ w).alloc (Nat.le_refl _) _).alloc (by simp) _
 have g1 : ((w.alloc (.cells #[.int .i64 a0, .int .i64 a1, v2, v3, .int .i64 a4, .int .i64 a5, v6] 101)).alloc (.cells #[.int .i64 a0, .int .i64 a1, u2, u3, .int .i64 a4, .int .i64 a5, u6] 101)).heap[w.heap.size + 1]? = some (.cells #[.int .i64 a0, .int .i64 a1, u2, u3, .int .i64 a4, .int .i64 a5, u6] 101 (0, 0)) := by
  have := heap_alloc_new (w.alloc (.cells #[.int .i64 a0, .int .i64 a1, v2, v3, .int .i64 a4, .int .i64 a5, v6] 101)) (.cells #[.int .i64 a0, .int .i64 a1, u2, u3, .int .i64 a4, .int .i64 a5, u6] 101)
  simpa only [World.size_alloc] using this
 have g0 : ((w.alloc (.cells #[.int .i64 a0, .int .i64 a1, v2, v3, .int .i64 a4, .int .i64 a5, v6] 101)).alloc (.cells #[.int .i64 a0, .int .i64 a1, u2, u3, .int .i64 a4, .int .i64 a5, u6] 101)).heap[w.heap.size]? = some (.cells #[.int .i64 a0, .int .i64 a1, v2, v3, .int .i64 a4, .int .i64 a5, v6] 101 (0, 0)) := by
  rw [Below.heap_alloc _ _ _ (by simp)]
  exact heap_alloc_new w _
 have hz : w.heap.size + 1 < ((w.alloc (.cells #[.int .i64 a0, .int .i64 a1, v2, v3, .int .i64 a4, .int .i64 a5, v6] 101)).alloc (.cells #[.int .i64 a0, .int .i64 a1, u2, u3, .int .i64 a4, .int .i64 a5, u6] 101)).heap.size := by simp [World.size_alloc]
 generalize ((w.alloc (.cells #[.int .i64 a0, .int .i64 a1, v2, v3, .int .i64 a4, .int .i64 a5, v6] 101)).alloc (.cells #[.int .i64 a0, .int .i64 a1, u2, u3, .int .i64 a4, .int .i64 a5, u6] 101)) = W at *
 refine (eqQuery_T a0 a1 v2 v3 x2 x3 u2 u3 W (slR_below tCond_law H2.out hb) (slR_below tInt_law H3.out hb) (slR_below tCond_law G2.out hb) (slR_below tInt_law G3.out hb) S2.out S3.out).mono ?_
 rintro e w1 ⟨rfl, b1⟩
 replace g0 := (b1.block _ (by omega)).trans g0
 replace g1 := (b1.block _ (by omega)).trans g1
 have zz0 := b1.size
 replace hb := hb.trans (b1.mono (by omega))
 clear b1
 have p0_4 := (cell_of_row w1 _ 4 _ _ _ g0).trans (show _ = some (Value.int .i64 a4) from rfl)
 have p1_4 := (cell_of_row w1 _ 4 _ _ _ g1).trans (show _ = some (Value.int .i64 a4) from rfl)
 have p0_5 := (cell_of_row w1 _ 5 _ _ _ g0).trans (show _ = some (Value.int .i64 a5) from rfl)
 have p1_5 := (cell_of_row w1 _ 5 _ _ _ g1).trans (show _ = some (Value.int .i64 a5) from rfl)
 have p0_6 := (cell_of_row w1 _ 6 _ _ _ g0).trans (show _ = some (v6) from rfl)
 have p1_6 := (cell_of_row w1 _ 6 _ _ _ g1).trans (show _ = some (u6) from rfl)
 go_wp2_with fail
 clear p0_4 p1_4 p0_5 p1_5 p0_6 p1_6
 refine (eqRowS_S v6 u6 x6 w1 (slR_below tRow_law H6.out hb) (slR_below tRow_law G6.out hb) S6.out).mono ?_
 rintro e w2 ⟨rfl, b1⟩
 replace g0 := (b1.block _ (by omega)).trans g0
 replace g1 := (b1.block _ (by omega)).trans g1
 have zz1 := b1.size
 replace hb := hb.trans (b1.mono (by omega))
 clear b1
 go_wp2
 go_ret
 exact ⟨rfl, hb⟩
abbrev tFinishedS : Ty (List ((Int × Int × List (Int × Int × Int) × List Int) × Int × Int × List (Int × List Int))) := tSl 101 tFinished
theorem tFinishedS_law : tFinishedS.Law := tSl_law tFinished_law (by decide)
set_option maxHeartbeats 8000000 in
set_option maxRecDepth 100000 in
theorem szFinishedS_Y (v : Value) (xs : List ((Int × Int × List (Int × Int × Int) × List Int) × Int × Int × List (Int × List Int))) (k0 : Int) (w : World) (h : SlR tFinished w v xs) (hs : ((zL tFinished xs : Nat) : Int) ≤ k0) (hk : k0 ≤ 1048576) :
  Calls Try.prog 57 #[v, .int .i64 k0] w fun e w' => e = .returned (.int .i64 (k0 - ((zL tFinished xs : Nat) : Int))) ∧ Below w.heap.size w w' := by
 have H := Lib.hid h
 obtain ⟨a, cap, rfl⟩ := slR_len h
 clear h
 have h00 := zTo_le (T := tFinished) (xs := xs) (Nat.zero_le _)
 rw [zTo_zero] at h00
 have HS := Lib.hid hs
 go_enter Try.func57, Try.ntmps57
 have hneg : ¬ k0 - (xs.length : Int) < 0 := by omega
 go_wp2
 clear hneg
 go_loopw [1, 5] (fun l i wr => ∃ k : Nat, k ≤ xs.length ∧ i = .int .i64 k ∧ l = .int .i64 (k0 - (zTo tFinished xs k : Int)) ∧ Below w.heap.size w wr) (fun _ i _ => xs.length - (intOf i).toNat)
 case atStart => exact ⟨0, Nat.zero_le _, rfl, by rw [zTo_zero], Below.refl _ _⟩
 case round =>
  obtain ⟨k, hk', rfl, rfl, hbel⟩ := hrel
  by_cases hlt : k < xs.length
  ·
   have HST := Lib.hid (zTo_step (T := tFinished) hlt)
   have HLE := Lib.hid (zTo_le (T := tFinished) (xs := xs) (k := k + 1) (by omega))
   have i1 : (0 : Int) ≤ (k : Int) := by omega
   have i2 : (k : Int) < (xs.length : Int) := by omega
   obtain ⟨b, off, cap', cs, hv, hbl, hcs, hR⟩ := slR_at (slR_below tFinished_law H.out hbel) hlt
   simp only [Value.slice.injEq] at hv
   obtain ⟨rfl, _, rfl⟩ := hv
   generalize xs.getD k tFinished.d = x at *
   obtain ⟨⟨a0, a1, x2, x3⟩, a4, a5, x6⟩ := x
   obtain ⟨v2, v3, v6, hR'⟩ := tFinished_R hR
   obtain ⟨rfl, h2, h3, h6⟩ := hR'
   have p0 : wr.cell? ⟨b, off + k * 7, none⟩ = some (Value.int .i64 a0) := hcs 0 (by decide)
   have p1 : wr.cell? ⟨b, off + k * 7 + 1, none⟩ = some (Value.int .i64 a1) := hcs 1 (by decide)
   have p2 : wr.cell? ⟨b, off + k * 7 + 2, none⟩ = some (v2) := hcs 2 (by decide)
   have p3 : wr.cell? ⟨b, off + k * 7 + 3, none⟩ = some (v3) := hcs 3 (by decide)
   have p4 : wr.cell? ⟨b, off + k * 7 + 4, none⟩ = some (Value.int .i64 a4) := hcs 4 (by decide)
   have p5 : wr.cell? ⟨b, off + k * 7 + 5, none⟩ = some (Value.int .i64 a5) := hcs 5 (by decide)
   have p6 : wr.cell? ⟨b, off + k * 7 + 6, none⟩ = some (v6) := hcs 6 (by decide)
   clear hcs
   have HQ : Hid (tFinished.sz ((a0, a1, x2, x3), a4, a5, x6) = zL tCond x2 + zL tInt x3 + zL tRow x6) := Lib.hid tFinished_sz
   have hx1 : ((zL tCond x2 + zL tInt x3 + zL tRow x6 : Nat) : Int) ≤ k0 - (zTo tFinished xs k : Int) := by have := HST.out; have := HLE.out; have := HQ.out; omega
   have hx2 : k0 - (zTo tFinished xs k : Int) ≤ 1048576 := by omega
   have hneg : ¬ k0 - (zTo tFinished xs k : Int) - ((zL tCond x2 + zL tInt x3 + zL tRow x6 : Nat) : Int) < 0 := by omega
   have HC := Lib.hid (fun W b => szFinished_Y a0 a1 a4 a5 v2 v3 v6 x2 x3 x6 (k0 - (zTo tFinished xs k : Int)) W (slR_below tCond_law h2 b) (slR_below tInt_law h3 b) (slR_below tRow_law h6 b) hx1 hx2)
   go_wp2_with fail
   refine (HC.out _ (Below.refl _ _)).mono ?_
   rintro e w1 ⟨rfl, b1⟩
   have b2 := hbel.trans (b1.mono hbel.size)
   go_wp2
   go_roundw
   case rel => exact ⟨k + 1, by omega, by go_num, by rw [HST.out, HQ.out]; go_num, b2⟩
   case measure => simp [intOf]; omega
  ·
   obtain rfl : k = xs.length := by omega
   go_wp2
   go_ret
   exact ⟨rfl, hbel⟩
set_option maxHeartbeats 8000000 in
set_option maxRecDepth 100000 in
theorem szFinishedS_N (v : Value) (xs : List ((Int × Int × List (Int × Int × Int) × List Int) × Int × Int × List (Int × List Int))) (k0 : Int) (w : World) (h : SlR tFinished w v xs) (hs : k0 < ((zL tFinished xs : Nat) : Int)) (hk : k0 ≤ 1048576) (hp : 0 ≤ k0) (ho : tFinishedS.ok xs) :
  Calls Try.prog 57 #[v, .int .i64 k0] w fun e w' => e = .returned (.int .i64 (-1)) ∧ Below w.heap.size w w' := by
 have H := Lib.hid h
 have HX := Lib.hid ho.2
 have hn := ho.1
 have HS := Lib.hid hs
 obtain ⟨a, cap, rfl⟩ := slR_len h
 clear h ho hs
 by_cases h1 : k0 < (xs.length : Int)
 ·
  have hneg : k0 - (xs.length : Int) < 0 := by omega
  go_enter Try.func57, Try.ntmps57
  go_wp2
  go_ret
  exact ⟨rfl, Below.refl _ _⟩
 ·
  go_enter Try.func57, Try.ntmps57
  have hneg : ¬ k0 - (xs.length : Int) < 0 := by omega
  go_wp2
  clear hneg
  go_loopw [1, 5] (fun l i wr => ∃ k : Nat, k ≤ xs.length ∧ i = .int .i64 k ∧ l = .int .i64 (k0 - (zTo tFinished xs k : Int)) ∧ (zTo tFinished xs k : Int) ≤ k0 ∧ Below w.heap.size w wr) (fun _ i _ => xs.length - (intOf i).toNat)
  case atStart => exact ⟨0, Nat.zero_le _, rfl, by rw [zTo_zero], by rw [zTo_zero]; omega, Below.refl _ _⟩
  case round =>
   obtain ⟨k, hk', rfl, rfl, hle, hbel⟩ := hrel
   by_cases hlt : k < xs.length
   ·
    have HST := Lib.hid (zTo_step (T := tFinished) hlt)
    have hx := HX.out k hlt
    have i1 : (0 : Int) ≤ (k : Int) := by omega
    have i2 : (k : Int) < (xs.length : Int) := by omega
    obtain ⟨b, off, cap', cs, hv, hbl, hcs, hR⟩ := slR_at (slR_below tFinished_law H.out hbel) hlt
    simp only [Value.slice.injEq] at hv
    obtain ⟨rfl, _, rfl⟩ := hv
    generalize xs.getD k tFinished.d = x at *
    obtain ⟨⟨a0, a1, x2, x3⟩, a4, a5, x6⟩ := x
    obtain ⟨v2, v3, v6, hR'⟩ := tFinished_R hR
    obtain ⟨rfl, h2, h3, h6⟩ := hR'
    have p0 : wr.cell? ⟨b, off + k * 7, none⟩ = some (Value.int .i64 a0) := hcs 0 (by decide)
    have p1 : wr.cell? ⟨b, off + k * 7 + 1, none⟩ = some (Value.int .i64 a1) := hcs 1 (by decide)
    have p2 : wr.cell? ⟨b, off + k * 7 + 2, none⟩ = some (v2) := hcs 2 (by decide)
    have p3 : wr.cell? ⟨b, off + k * 7 + 3, none⟩ = some (v3) := hcs 3 (by decide)
    have p4 : wr.cell? ⟨b, off + k * 7 + 4, none⟩ = some (Value.int .i64 a4) := hcs 4 (by decide)
    have p5 : wr.cell? ⟨b, off + k * 7 + 5, none⟩ = some (Value.int .i64 a5) := hcs 5 (by decide)
    have p6 : wr.cell? ⟨b, off + k * 7 + 6, none⟩ = some (v6) := hcs 6 (by decide)
    clear hcs
    have HQ : Hid (tFinished.sz ((a0, a1, x2, x3), a4, a5, x6) = zL tCond x2 + zL tInt x3 + zL tRow x6) := Lib.hid tFinished_sz
    obtain ⟨⟨_, ⟨_, ⟨o2, o3⟩⟩⟩, ⟨_, ⟨_, o6⟩⟩⟩ := hx
    have hz0 : (0 : Int) ≤ (zTo tFinished xs k : Int) := by omega
    by_cases hg : ((zL tCond x2 + zL tInt x3 + zL tRow x6 : Nat) : Int) ≤ k0 - (zTo tFinished xs k : Int)
    ·
     have hx2 : k0 - (zTo tFinished xs k : Int) ≤ 1048576 := by omega
     have hneg : ¬ k0 - (zTo tFinished xs k : Int) - ((zL tCond x2 + zL tInt x3 + zL tRow x6 : Nat) : Int) < 0 := by omega
     have HC := Lib.hid (fun W b => szFinished_Y a0 a1 a4 a5 v2 v3 v6 x2 x3 x6 (k0 - (zTo tFinished xs k : Int)) W (slR_below tCond_law h2 b) (slR_below tInt_law h3 b) (slR_below tRow_law h6 b) hg hx2)
     go_wp2_with fail
     refine (HC.out _ (Below.refl _ _)).mono ?_
     rintro e w1 ⟨rfl, b1⟩
     have b2 := hbel.trans (b1.mono hbel.size)
     go_wp2
     go_roundw
     case rel => exact ⟨k + 1, by omega, by go_num, by rw [HST.out, HQ.out]; go_num, by rw [HST.out, HQ.out]; omega, b2⟩
     case measure => simp [intOf]; omega
    ·
     have hx1 : k0 - (zTo tFinished xs k : Int) < ((zL tCond x2 + zL tInt x3 + zL tRow x6 : Nat) : Int) := by omega
     have hx0 : 0 ≤ k0 - (zTo tFinished xs k : Int) := by omega
     have hx2 : k0 - (zTo tFinished xs k : Int) ≤ 1048576 := by omega
     have HC := Lib.hid (fun W b => szFinished_N a0 a1 a4 a5 v2 v3 v6 x2 x3 x6 (k0 - (zTo tFinished xs k : Int)) W (slR_below tCond_law h2 b) (slR_below tInt_law h3 b) (slR_below tRow_law h6 b) hx1 hx2 hx0 o2 o3 o6)
     clear hg
     go_wp2_with fail
     refine (HC.out _ (Below.refl _ _)).mono ?_
     rintro e w1 ⟨rfl, b1⟩
     have b2 := hbel.trans (b1.mono hbel.size)
     go_wp2
     go_ret
     exact ⟨rfl, b2⟩
   ·
    obtain rfl : k = xs.length := by omega
    exact absurd HS.out (by show ¬ k0 < ((zTo tFinished xs xs.length : Nat) : Int); omega)
theorem Try.info_Finished : (Try.prog.info? 101).map (fun i => (i.zero, i.size)) = some (some (.agg #[.int .i64 0, .int .i64 0, .slice none 0 0, .slice none 0 0, .int .i64 0, .int .i64 0, .slice none 0 0]), 7) := by kernel_rfl
theorem Try.bytes_Finished : ((Try.prog.info? 101).map (fun i => decide (i.bytes ≤ 512))) = some true := by kernel_rfl
theorem tFinished_zero (w : World) : tFinished.O w (fun _ => False) #[.int .i64 0, .int .i64 0, .slice none 0 0, .slice none 0 0, .int .i64 0, .int .i64 0, .slice none 0 0].toList tFinished.d := tFinished_mkO (slO_nil _ _ _ (fun _ => False)) (slO_nil _ _ _ (fun _ => False)) (slO_nil _ _ _ (fun _ => False)) (fun b h => h) (fun b h => h) (fun b h => h) (fun b h _ => h) (fun b h _ => h) (fun b h _ => h)
set_option maxHeartbeats 8000000 in
set_option maxRecDepth 100000 in
theorem toFinishedS_S (v : Value) (xs : List ((Int × Int × List (Int × Int × Int) × List Int) × Int × Int × List (Int × List Int))) (w : World) (h : SlR tFinished w v xs) (hs : zL tFinished xs ≤ 1048576) :
  Calls Try.prog 61 #[v] w (FreshS 101 tFinished w xs) := by
 obtain ⟨i0, hi, hz0, hz1⟩ : ∃ i0, Try.prog.info? 101 = some i0 ∧ i0.zero = some (.agg #[.int .i64 0, .int .i64 0, .slice none 0 0, .slice none 0 0, .int .i64 0, .int .i64 0, .slice none 0 0]) ∧ i0.size = 7 := by
  have h0 := Try.info_Finished
  cases q : Try.prog.info? 101 with
  | none => rw [q] at h0; simp at h0
  | some i => rw [q] at h0; simp only [Option.map_some, Option.some.injEq, Prod.mk.injEq] at h0; exact ⟨i, rfl, h0.1, h0.2⟩
 have hz2 : i0.bytes ≤ 512 := by
  have h0 := Try.bytes_Finished
  rw [hi] at h0
  simpa using h0
 have HI := Lib.hid hi; have HZ0 := Lib.hid hz0; have HZ1 := Lib.hid hz1; have HZ2 := Lib.hid hz2
 clear hi hz0 hz1 hz2
 have H := Lib.hid h
 have hlen := zL_len hs
 have HS := Lib.hid hs
 obtain ⟨a, cap, rfl⟩ := slR_len h
 clear h hs
 go_enter Try.func61, Try.ntmps61
 go_wp2_with (at_make; refine wpList_make_full _ rfl (.tmp 6) (.tmp 6) 39 rfl w.heap.size 101 i0 (.agg #[.int .i64 0, .int .i64 0, .slice none 0 0, .slice none 0 0, .int .i64 0, .int .i64 0, .slice none 0 0]) 7 Try.underlying39 HI.out HZ0.out HZ1.out _ _ _ _ xs.length rfl rfl rfl rfl (by have h9 := Nat.mul_le_mul HZ2.out hlen; have h8 := Nat.mul_le_mul hlen HZ2.out; omega) (by unfold maxLen; omega) (Nat.le_refl _) ?_)
 intro w1 hown0 hg0
 have hown1 : SlO 101 tFinished w1 (since w) (.slice (some ⟨w.heap.size, 0, none⟩) xs.length xs.length) (List.replicate xs.length tFinished.d) := slO_made (z := #[.int .i64 0, .int .i64 0, .slice none 0 0, .slice none 0 0, .int .i64 0, .int .i64 0, .slice none 0 0]) tFinished_law rfl (tFinished_zero w1) (Nat.le_refl _) hown0
 have hbel1 := (Below.refl w.heap.size w).grown hg0 (Nat.le_refl _) (fun k hk => by cases hk)
 clear hown0 hg0
 go_wp2
 go_loopw [4] (fun i wr => ∃ k : Nat, k ≤ xs.length ∧ i = .int .i64 k ∧ SlO 101 tFinished wr (since w) (.slice (some ⟨w.heap.size, 0, none⟩) xs.length xs.length) (xs.take k ++ List.replicate (xs.length - k) tFinished.d) ∧ Below w.heap.size w wr) (fun i _ => xs.length - (intOf i).toNat)
 case atStart => exact ⟨0, Nat.zero_le _, rfl, by simpa using hown1, hbel1⟩
 case round =>
  obtain ⟨k, hk, rfl, hown, hbel⟩ := hrel
  by_cases hlt : k < xs.length
  ·
   have HSET := Lib.hid (cTo_step (d := tFinished.d) hlt)
   have HKL : Hid (k < (xs.take k ++ List.replicate (xs.length - k) tFinished.d).length) := Lib.hid (by rw [cTo_len hk]; exact hlt)
   have HLL := Lib.hid (cTo_len (d := tFinished.d) hk)
   have i1 : (0 : Int) ≤ (k : Int) := by omega
   have i2 : (k : Int) < (xs.length : Int) := by omega
   have hzx := zL_at HS.out hlt
   obtain ⟨b, off, cap', cs, hv, hbl, hcs, hR⟩ := slR_at (slR_below tFinished_law H.out hbel) hlt
   simp only [Value.slice.injEq] at hv
   obtain ⟨rfl, _, rfl⟩ := hv
   obtain ⟨hme, hFg, hgl, cj, Fj, Lc, hrow, hLc, hO, hFj, hput⟩ := slO_open tFinished_law hown HKL.out
   clear hme
   clear hown1 hbel1
   generalize xs.getD k tFinished.d = x at *
   generalize xs.take k ++ List.replicate (xs.length - k) tFinished.d = ys at *
   obtain ⟨⟨a0, a1, x2, x3⟩, a4, a5, x6⟩ := x
   obtain ⟨v2, v3, v6, hR'⟩ := tFinished_R hR
   obtain ⟨rfl, h2, h3, h6⟩ := hR'
   have p0 : wr.cell? ⟨b, off + k * 7, none⟩ = some (Value.int .i64 a0) := hcs 0 (by decide)
   have p1 : wr.cell? ⟨b, off + k * 7 + 1, none⟩ = some (Value.int .i64 a1) := hcs 1 (by decide)
   have p2 : wr.cell? ⟨b, off + k * 7 + 2, none⟩ = some (v2) := hcs 2 (by decide)
   have p3 : wr.cell? ⟨b, off + k * 7 + 3, none⟩ = some (v3) := hcs 3 (by decide)
   have p4 : wr.cell? ⟨b, off + k * 7 + 4, none⟩ = some (Value.int .i64 a4) := hcs 4 (by decide)
   have p5 : wr.cell? ⟨b, off + k * 7 + 5, none⟩ = some (Value.int .i64 a5) := hcs 5 (by decide)
   have p6 : wr.cell? ⟨b, off + k * 7 + 6, none⟩ = some (v6) := hcs 6 (by decide)
   rw [tFinished_sz] at hzx
   have S2 := Lib.hid (show zL tCond x2 ≤ 1048576 by omega)
   have S3 := Lib.hid (show zL tInt x3 ≤ 1048576 by omega)
   have S6 := Lib.hid (show zL tRow x6 ≤ 1048576 by omega)
   have HC := Lib.hid (fun w g2 g3 g6 => toFinished_T a0 a1 a4 a5 v2 v3 v6 x2 x3 x6 w g2 g3 g6 S2.out S3.out S6.out)
   have G2 := Lib.hid h2
   have G3 := Lib.hid h3
   have G6 := Lib.hid h6
   clear hcs hzx h2 h3 h6
   go_wp2_with fail
   refine (HC.out _ G2.out G3.out G6.out).mono ?_
   rintro e w2 ⟨cv, rfl, ow, b2⟩
   replace ow := tFinished_law.lt ow
   have ow2 := ow
   obtain ⟨u2, u3, u6, K2, K3, K6, rfl, o2, o3, o6, _, _, _, _, _, _⟩ := tFinished_O ow2
   obtain ⟨ua2, uc2, rfl⟩ := slO_len o2
   obtain ⟨ua3, uc3, rfl⟩ := slO_len o3
   obtain ⟨ua6, uc6, rfl⟩ := slO_len o6
   clear o2 o3 o6
   have r0 := row_turn (G := fun _ => False) hrow (turn_below b2) (fun _ _ => not_false)
   rw [HLL.out] at r0
   have q0 : ∃ x, w2.cell? ⟨w.heap.size, k * 7, none⟩ = some x := ⟨_, (World.ownsRow.cellAt r0 (k * 7) (by have := HKL.out; rw [HLL.out] at this; show _ < xs.length * 7; omega)).trans (List.getElem?_eq_getElem (by have h1 : Lc.length = xs.length * 7 := r0.1; omega))⟩
   obtain ⟨y0, q0⟩ := q0
   have f0 := World.ownsRow.frozenAt r0 (k * 7)
   have q1 : ∃ x, w2.cell? ⟨w.heap.size, k * 7 + 1, none⟩ = some x := ⟨_, (World.ownsRow.cellAt r0 (k * 7 + 1) (by have := HKL.out; rw [HLL.out] at this; show _ < xs.length * 7; omega)).trans (List.getElem?_eq_getElem (by have h1 : Lc.length = xs.length * 7 := r0.1; omega))⟩
   obtain ⟨y1, q1⟩ := q1
   have f1 := World.ownsRow.frozenAt r0 (k * 7 + 1)
   have q2 : ∃ x, w2.cell? ⟨w.heap.size, k * 7 + 2, none⟩ = some x := ⟨_, (World.ownsRow.cellAt r0 (k * 7 + 2) (by have := HKL.out; rw [HLL.out] at this; show _ < xs.length * 7; omega)).trans (List.getElem?_eq_getElem (by have h1 : Lc.length = xs.length * 7 := r0.1; omega))⟩
   obtain ⟨y2, q2⟩ := q2
   have f2 := World.ownsRow.frozenAt r0 (k * 7 + 2)
   have q3 : ∃ x, w2.cell? ⟨w.heap.size, k * 7 + 3, none⟩ = some x := ⟨_, (World.ownsRow.cellAt r0 (k * 7 + 3) (by have := HKL.out; rw [HLL.out] at this; show _ < xs.length * 7; omega)).trans (List.getElem?_eq_getElem (by have h1 : Lc.length = xs.length * 7 := r0.1; omega))⟩
   obtain ⟨y3, q3⟩ := q3
   have f3 := World.ownsRow.frozenAt r0 (k * 7 + 3)
   have q4 : ∃ x, w2.cell? ⟨w.heap.size, k * 7 + 4, none⟩ = some x := ⟨_, (World.ownsRow.cellAt r0 (k * 7 + 4) (by have := HKL.out; rw [HLL.out] at this; show _ < xs.length * 7; omega)).trans (List.getElem?_eq_getElem (by have h1 : Lc.length = xs.length * 7 := r0.1; omega))⟩
   obtain ⟨y4, q4⟩ := q4
   have f4 := World.ownsRow.frozenAt r0 (k * 7 + 4)
   have q5 : ∃ x, w2.cell? ⟨w.heap.size, k * 7 + 5, none⟩ = some x := ⟨_, (World.ownsRow.cellAt r0 (k * 7 + 5) (by have := HKL.out; rw [HLL.out] at this; show _ < xs.length * 7; omega)).trans (List.getElem?_eq_getElem (by have h1 : Lc.length = xs.length * 7 := r0.1; omega))⟩
   obtain ⟨y5, q5⟩ := q5
   have f5 := World.ownsRow.frozenAt r0 (k * 7 + 5)
   have q6 : ∃ x, w2.cell? ⟨w.heap.size, k * 7 + 6, none⟩ = some x := ⟨_, (World.ownsRow.cellAt r0 (k * 7 + 6) (by have := HKL.out; rw [HLL.out] at this; show _ < xs.length * 7; omega)).trans (List.getElem?_eq_getElem (by have h1 : Lc.length = xs.length * 7 := r0.1; omega))⟩
   obtain ⟨y6, q6⟩ := q6
   have f6 := World.ownsRow.frozenAt r0 (k * 7 + 6)
   have b3 := hbel.trans (b2.mono hbel.size)
   have B3 := Lib.hid (((((((b3.setCell (p := ⟨w.heap.size, k * 7, none⟩) (Nat.le_refl _) (.int .i64 a0)).setCell (p := ⟨w.heap.size, k * 7 + 1, none⟩) (Nat.le_refl _) (.int .i64 a1)).setCell (p := ⟨w.heap.size, k * 7 + 2, none⟩) (Nat.le_refl _) (.slice ua2 x2.length uc2)).setCell (p := ⟨w.heap.size, k * 7 + 3, none⟩) (Nat.le_refl _) (.slice ua3 x3.length uc3)).setCell (p := ⟨w.heap.size, k * 7 + 4, none⟩) (Nat.le_refl _) (.int .i64 a4)).setCell (p := ⟨w.heap.size, k * 7 + 5, none⟩) (Nat.le_refl _) (.int .i64 a5)).setCell (p := ⟨w.heap.size, k * 7 + 6, none⟩) (Nat.le_refl _) (.slice ua6 x6.length uc6))
   have hT : Turn (fun b => b = w.heap.size ∨ Fj b ∨ wr.heap.size ≤ b) wr (((((((w2.setCell ⟨w.heap.size, k * 7, none⟩ (.int .i64 a0)).setCell ⟨w.heap.size, k * 7 + 1, none⟩ (.int .i64 a1)).setCell ⟨w.heap.size, k * 7 + 2, none⟩ (.slice ua2 x2.length uc2)).setCell ⟨w.heap.size, k * 7 + 3, none⟩ (.slice ua3 x3.length uc3)).setCell ⟨w.heap.size, k * 7 + 4, none⟩ (.int .i64 a4)).setCell ⟨w.heap.size, k * 7 + 5, none⟩ (.int .i64 a5)).setCell ⟨w.heap.size, k * 7 + 6, none⟩ (.slice ua6 x6.length uc6)) := ((((((((turn_below b2).trans (turn_set (j := k * 7) (u := .int .i64 a0) (Or.inl rfl))).trans (turn_set (j := k * 7 + 1) (u := .int .i64 a1) (Or.inl rfl))).trans (turn_set (j := k * 7 + 2) (u := .slice ua2 x2.length uc2) (Or.inl rfl))).trans (turn_set (j := k * 7 + 3) (u := .slice ua3 x3.length uc3) (Or.inl rfl))).trans (turn_set (j := k * 7 + 4) (u := .int .i64 a4) (Or.inl rfl))).trans (turn_set (j := k * 7 + 5) (u := .int .i64 a5) (Or.inl rfl))).trans (turn_set (j := k * 7 + 6) (u := .slice ua6 x6.length uc6) (Or.inl rfl)))
   have hT2 : Turn (fun b => b = w.heap.size) w2 (((((((w2.setCell ⟨w.heap.size, k * 7, none⟩ (.int .i64 a0)).setCell ⟨w.heap.size, k * 7 + 1, none⟩ (.int .i64 a1)).setCell ⟨w.heap.size, k * 7 + 2, none⟩ (.slice ua2 x2.length uc2)).setCell ⟨w.heap.size, k * 7 + 3, none⟩ (.slice ua3 x3.length uc3)).setCell ⟨w.heap.size, k * 7 + 4, none⟩ (.int .i64 a4)).setCell ⟨w.heap.size, k * 7 + 5, none⟩ (.int .i64 a5)).setCell ⟨w.heap.size, k * 7 + 6, none⟩ (.slice ua6 x6.length uc6)) := ((((((((Turn.refl (fun b => b = w.heap.size) _).trans (turn_set (G := fun b => b = w.heap.size) (j := k * 7) (u := .int .i64 a0) rfl)).trans (turn_set (G := fun b => b = w.heap.size) (j := k * 7 + 1) (u := .int .i64 a1) rfl)).trans (turn_set (G := fun b => b = w.heap.size) (j := k * 7 + 2) (u := .slice ua2 x2.length uc2) rfl)).trans (turn_set (G := fun b => b = w.heap.size) (j := k * 7 + 3) (u := .slice ua3 x3.length uc3) rfl)).trans (turn_set (G := fun b => b = w.heap.size) (j := k * 7 + 4) (u := .int .i64 a4) rfl)).trans (turn_set (G := fun b => b = w.heap.size) (j := k * 7 + 5) (u := .int .i64 a5) rfl)).trans (turn_set (G := fun b => b = w.heap.size) (j := k * 7 + 6) (u := .slice ua6 x6.length uc6) rfl))
   have hO2 := tFinished_law.turn ow hT2 (fun b h1 h2 => by have := h1.1; simp only [since] at this; omega)
   have r9 := (World.ownsRow.stored (World.ownsRow.stored (World.ownsRow.stored (World.ownsRow.stored (World.ownsRow.stored (World.ownsRow.stored (World.ownsRow.stored r0 (k * 7) (.int .i64 a0)).1 (k * 7 + 1) (.int .i64 a1)).1 (k * 7 + 2) (.slice ua2 x2.length uc2)).1 (k * 7 + 3) (.slice ua3 x3.length uc3)).1 (k * 7 + 4) (.int .i64 a4)).1 (k * 7 + 5) (.int .i64 a5)).1 (k * 7 + 6) (.slice ua6 x6.length uc6)).1
   have hLl : Lc.length = xs.length * 7 := r0.1
   have hst := Lib.hid (hput (((((((w2.setCell ⟨w.heap.size, k * 7, none⟩ (.int .i64 a0)).setCell ⟨w.heap.size, k * 7 + 1, none⟩ (.int .i64 a1)).setCell ⟨w.heap.size, k * 7 + 2, none⟩ (.slice ua2 x2.length uc2)).setCell ⟨w.heap.size, k * 7 + 3, none⟩ (.slice ua3 x3.length uc3)).setCell ⟨w.heap.size, k * 7 + 4, none⟩ (.int .i64 a4)).setCell ⟨w.heap.size, k * 7 + 5, none⟩ (.int .i64 a5)).setCell ⟨w.heap.size, k * 7 + 6, none⟩ (.slice ua6 x6.length uc6)) (((((((Lc.set (k * 7) (.int .i64 a0)).set (k * 7 + 1) (.int .i64 a1)).set (k * 7 + 2) (.slice ua2 x2.length uc2)).set (k * 7 + 3) (.slice ua3 x3.length uc3)).set (k * 7 + 4) (.int .i64 a4)).set (k * 7 + 5) (.int .i64 a5)).set (k * 7 + 6) (.slice ua6 x6.length uc6)) [.int .i64 a0, .int .i64 a1, .slice ua2 x2.length uc2, .slice ua3 x3.length uc3, .int .i64 a4, .int .i64 a5, .slice ua6 x6.length uc6] _ ((a0, a1, x2, x3), a4, a5, x6) (by rw [HLL.out]; exact r9) (fun p hp => by have hp2 : p < k * 7 ∨ k * 7 + 7 ≤ p := hp; rw [List.getElem?_set_ne (by omega)]; rw [List.getElem?_set_ne (by omega)]; rw [List.getElem?_set_ne (by omega)]; rw [List.getElem?_set_ne (by omega)]; rw [List.getElem?_set_ne (by omega)]; rw [List.getElem?_set_ne (by omega)]; rw [List.getElem?_set_ne (by omega)]) (fun i hi => by have hi' : i < 7 := hi; match i, hi' with | 0, _ => (show ((((((((Lc.set (k * 7) (.int .i64 a0)).set (k * 7 + 1) (.int .i64 a1)).set (k * 7 + 2) (.slice ua2 x2.length uc2)).set (k * 7 + 3) (.slice ua3 x3.length uc3)).set (k * 7 + 4) (.int .i64 a4)).set (k * 7 + 5) (.int .i64 a5)).set (k * 7 + 6) (.slice ua6 x6.length uc6)))[k * 7]? = _; rw [List.getElem?_set_ne (by omega)]; rw [List.getElem?_set_ne (by omega)]; rw [List.getElem?_set_ne (by omega)]; rw [List.getElem?_set_ne (by omega)]; rw [List.getElem?_set_ne (by omega)]; rw [List.getElem?_set_ne (by omega)]; rw [List.getElem?_set_self (by first | omega | (simp only [List.length_set]; omega))]; rfl) | 1, _ => (show ((((((((Lc.set (k * 7) (.int .i64 a0)).set (k * 7 + 1) (.int .i64 a1)).set (k * 7 + 2) (.slice ua2 x2.length uc2)).set (k * 7 + 3) (.slice ua3 x3.length uc3)).set (k * 7 + 4) (.int .i64 a4)).set (k * 7 + 5) (.int .i64 a5)).set (k * 7 + 6) (.slice ua6 x6.length uc6)))[k * 7 + 1]? = _; rw [List.getElem?_set_ne (by omega)]; rw [List.getElem?_set_ne (by omega)]; rw [List.getElem?_set_ne (by omega)]; rw [List.getElem?_set_ne (by omega)]; rw [List.getElem?_set_ne (by omega)]; rw [List.getElem?_set_self (by first | omega | (simp only [List.length_set]; omega))]; rfl) | 2, _ => (show ((((((((Lc.set (k * 7) (.int .i64 a0)).set (k * 7 + 1) (.int .i64 a1)).set (k * 7 + 2) (.slice ua2 x2.length uc2)).set (k * 7 + 3) (.slice ua3 x3.length uc3)).set (k * 7 + 4) (.int .i64 a4)).set (k * 7 + 5) (.int .i64 a5)).set (k * 7 + 6) (.slice ua6 x6.length uc6)))[k * 7 + 2]? = _; rw [List.getElem?_set_ne (by omega)]; rw [List.getElem?_set_ne (by omega)]; rw [List.getElem?_set_ne (by omega)]; rw [List.getElem?_set_ne (by omega)]; rw [List.getElem?_set_self (by first | omega | (simp only [List.length_set]; omega))]; rfl) | 3, _ => (show ((((((((Lc.set (k * 7) (.int .i64 a0)).set (k * 7 + 1) (.int .i64 a1)).set (k * 7 + 2) (.slice ua2 x2.length uc2)).set (k * 7 + 3) (.slice ua3 x3.length uc3)).set (k * 7 + 4) (.int .i64 a4)).set (k * 7 + 5) (.int .i64 a5)).set (k * 7 + 6) (.slice ua6 x6.length uc6)))[k * 7 + 3]? = _; rw [List.getElem?_set_ne (by omega)]; rw [List.getElem?_set_ne (by omega)]; rw [List.getElem?_set_ne (by omega)]; rw [List.getElem?_set_self (by first | omega | (simp only [List.length_set]; omega))]; rfl) | 4, _ => (show ((((((((Lc.set (k * 7) (.int .i64 a0)).set (k * 7 + 1) (.int .i64 a1)).set (k * 7 + 2) (.slice ua2 x2.length uc2)).set (k * 7 + 3) (.slice ua3 x3.length uc3)).set (k * 7 + 4) (.int .i64 a4)).set (k * 7 + 5) (.int .i64 a5)).set (k * 7 + 6) (.slice ua6 x6.length uc6)))[k * 7 + 4]? = _; rw [List.getElem?_set_ne (by omega)]; rw [List.getElem?_set_ne (by omega)]; rw [List.getElem?_set_self (by first | omega | (simp only [List.length_set]; omega))]; rfl) | 5, _ => (show ((((((((Lc.set (k * 7) (.int .i64 a0)).set (k * 7 + 1) (.int .i64 a1)).set (k * 7 + 2) (.slice ua2 x2.length uc2)).set (k * 7 + 3) (.slice ua3 x3.length uc3)).set (k * 7 + 4) (.int .i64 a4)).set (k * 7 + 5) (.int .i64 a5)).set (k * 7 + 6) (.slice ua6 x6.length uc6)))[k * 7 + 5]? = _; rw [List.getElem?_set_ne (by omega)]; rw [List.getElem?_set_self (by first | omega | (simp only [List.length_set]; omega))]; rfl) | 6, _ => (show ((((((((Lc.set (k * 7) (.int .i64 a0)).set (k * 7 + 1) (.int .i64 a1)).set (k * 7 + 2) (.slice ua2 x2.length uc2)).set (k * 7 + 3) (.slice ua3 x3.length uc3)).set (k * 7 + 4) (.int .i64 a4)).set (k * 7 + 5) (.int .i64 a5)).set (k * 7 + 6) (.slice ua6 x6.length uc6)))[k * 7 + 6]? = _; rw [List.getElem?_set_self (by first | omega | (simp only [List.length_set]; omega))]; rfl)) hO2 (fun b hb => ⟨Nat.le_trans hbel.size hb.1, Or.inr hb.1⟩) hT)
   have hst2 : SlO 101 tFinished (((((((w2.setCell ⟨w.heap.size, k * 7, none⟩ (.int .i64 a0)).setCell ⟨w.heap.size, k * 7 + 1, none⟩ (.int .i64 a1)).setCell ⟨w.heap.size, k * 7 + 2, none⟩ (.slice ua2 x2.length uc2)).setCell ⟨w.heap.size, k * 7 + 3, none⟩ (.slice ua3 x3.length uc3)).setCell ⟨w.heap.size, k * 7 + 4, none⟩ (.int .i64 a4)).setCell ⟨w.heap.size, k * 7 + 5, none⟩ (.int .i64 a5)).setCell ⟨w.heap.size, k * 7 + 6, none⟩ (.slice ua6 x6.length uc6)) (since w) (.slice (some ⟨w.heap.size, 0, none⟩) xs.length xs.length) (xs.take (k + 1) ++ List.replicate (xs.length - (k + 1)) tFinished.d) := by have := hst.out; rw [HSET.out] at this; exact this
   have HST := Lib.hid hst2
   clear hst hst2 hT hT2 hO2 r9 r0 hrow hO hput hown hbel b2 ow b3 hLl hLc hFj
   go_wp2
   go_roundw
   case rel => exact ⟨k + 1, by omega, by go_num, HST.out, B3.out⟩
   case measure => simp [intOf]; omega
  ·
   obtain rfl : k = xs.length := by omega
   have HE : Hid (xs.take xs.length ++ List.replicate (xs.length - xs.length) tFinished.d = xs) := Lib.hid (by simp)
   rw [HE.out] at hown
   go_wp2
   go_ret
   exact ⟨_, rfl, hown, hbel⟩
set_option maxHeartbeats 8000000 in
set_option maxRecDepth 100000 in
theorem eqFinishedS_S (v u : Value) (xs : List ((Int × Int × List (Int × Int × Int) × List Int) × Int × Int × List (Int × List Int))) (w : World) (h : SlR tFinished w v xs) (g : SlR tFinished w u xs) (hs : zL tFinished xs ≤ 1048576) :
  Calls Try.prog 46 #[v, u] w fun e w' => e = .returned (.bool true) ∧ Below w.heap.size w w' := by
 have H := Lib.hid h
 have G := Lib.hid g
 have HS := Lib.hid hs
 have hlen := zL_len hs
 obtain ⟨a, cap, rfl⟩ := slR_len h
 obtain ⟨a2, cap2, rfl⟩ := slR_len g
 clear h g hs
 go_enter Try.func46, Try.ntmps46
 go_wp2
 go_loopw [5] (fun i wr => ∃ k : Nat, k ≤ xs.length ∧ i = .int .i64 k ∧ Below w.heap.size w wr) (fun i _ => xs.length - (intOf i).toNat)
 case atStart => exact ⟨0, Nat.zero_le _, rfl, Below.refl _ _⟩
 case round =>
  obtain ⟨k, hk, rfl, hbel⟩ := hrel
  by_cases hlt : k < xs.length
  ·
   obtain ⟨b, off, cap', cs, hv, hbl, hcs, hR⟩ := slR_at (slR_below tFinished_law H.out hbel) hlt
   simp only [Value.slice.injEq] at hv
   obtain ⟨rfl, _, rfl⟩ := hv
   obtain ⟨b2, off2, cap2', ds, hv2, hbl2, hds, hQ⟩ := slR_at (slR_below tFinished_law G.out hbel) hlt
   simp only [Value.slice.injEq] at hv2
   obtain ⟨rfl, _, rfl⟩ := hv2
   have hzx := zL_at HS.out hlt
   have i1 : (0 : Int) ≤ (k : Int) := by omega
   have i2 : (k : Int) < (xs.length : Int) := by omega
   generalize xs.getD k tFinished.d = x at *
   obtain ⟨⟨a0, a1, x2, x3⟩, a4, a5, x6⟩ := x
   obtain ⟨v2, v3, v6, hR'⟩ := tFinished_R hR
   obtain ⟨rfl, h2, h3, h6⟩ := hR'
   obtain ⟨u2, u3, u6, hQ'⟩ := tFinished_R hQ
   obtain ⟨rfl, g2, g3, g6⟩ := hQ'
   rw [tFinished_sz] at hzx
   have S2 := Lib.hid (show zL tCond x2 ≤ 1048576 by omega)
   have S3 := Lib.hid (show zL tInt x3 ≤ 1048576 by omega)
   have S6 := Lib.hid (show zL tRow x6 ≤ 1048576 by omega)
   have p0 : wr.cell? ⟨b, off + k * 7, none⟩ = some (Value.int .i64 a0) := hcs 0 (by decide)
   have q0 : wr.cell? ⟨b2, off2 + k * 7, none⟩ = some (Value.int .i64 a0) := hds 0 (by decide)
   have p1 : wr.cell? ⟨b, off + k * 7 + 1, none⟩ = some (Value.int .i64 a1) := hcs 1 (by decide)
   have q1 : wr.cell? ⟨b2, off2 + k * 7 + 1, none⟩ = some (Value.int .i64 a1) := hds 1 (by decide)
   have p2 : wr.cell? ⟨b, off + k * 7 + 2, none⟩ = some (v2) := hcs 2 (by decide)
   have q2 : wr.cell? ⟨b2, off2 + k * 7 + 2, none⟩ = some (u2) := hds 2 (by decide)
   have p3 : wr.cell? ⟨b, off + k * 7 + 3, none⟩ = some (v3) := hcs 3 (by decide)
   have q3 : wr.cell? ⟨b2, off2 + k * 7 + 3, none⟩ = some (u3) := hds 3 (by decide)
   have p4 : wr.cell? ⟨b, off + k * 7 + 4, none⟩ = some (Value.int .i64 a4) := hcs 4 (by decide)
   have q4 : wr.cell? ⟨b2, off2 + k * 7 + 4, none⟩ = some (Value.int .i64 a4) := hds 4 (by decide)
   have p5 : wr.cell? ⟨b, off + k * 7 + 5, none⟩ = some (Value.int .i64 a5) := hcs 5 (by decide)
   have q5 : wr.cell? ⟨b2, off2 + k * 7 + 5, none⟩ = some (Value.int .i64 a5) := hds 5 (by decide)
   have p6 : wr.cell? ⟨b, off + k * 7 + 6, none⟩ = some (v6) := hcs 6 (by decide)
   have q6 : wr.cell? ⟨b2, off2 + k * 7 + 6, none⟩ = some (u6) := hds 6 (by decide)
   clear hcs hds hzx
   go_wp2
   go_region_with (first | (go_at_call 98; refine (eqFinished_T a0 a1 a4 a5 v2 v3 v6 x2 x3 x6 u2 u3 u6 _ (by exact slR_same tCond_law h2 rfl rfl rfl rfl) (by exact slR_same tInt_law h3 rfl rfl rfl rfl) (by exact slR_same tRow_law h6 rfl rfl rfl rfl) (by exact slR_same tCond_law g2 rfl rfl rfl rfl) (by exact slR_same tInt_law g3 rfl rfl rfl rfl) (by exact slR_same tRow_law g6 rfl rfl rfl rfl) S2.out S3.out S6.out).mono ?_; rintro e w8 ⟨rfl, b9⟩; have b10 : Below wr.heap.size wr w8 := ⟨b9.os, b9.tape, b9.output, b9.size, b9.block⟩))
   all_goals
    have b11 := hbel.trans (b10.mono hbel.size)
    go_wp2
    go_roundw
    case rel => exact ⟨k + 1, by omega, by go_num, b11⟩
    case measure => simp [intOf]; omega
  ·
   go_wp2
   go_ret
   exact ⟨rfl, hbel⟩
end Go.Proofs.Ytdhglmoanpkeoaa
