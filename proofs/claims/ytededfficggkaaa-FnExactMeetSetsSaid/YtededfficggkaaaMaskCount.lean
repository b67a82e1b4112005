/-
  The walks of OnesCount32 and of count: how many members a mask has.
-/
import Derived.Test.YtededfficggkaaaMaskWalks
import Derived.Test.YtededfficggkaaaCountMath
import Derived.Lib.Tables
import Derived.Lib.BitFns
import Derived.BigQuiet
import Derived.Deep.QuietTactic
namespace Go.Proofs.Ytededfficggkaaa
open Go.RowKit
set_option linter.unusedVariables false
theorem fold_pop : (⟨(([0, 1, 1, 2, 1, 2, 2, 3, 1, 2, 2, 3, 2, 3, 3, 4, 1, 2, 2, 3, 2, 3, 3, 4, 2, 3, 3, 4, 3, 4, 4, 5, 1, 2, 2, 3, 2, 3, 3, 4, 2, 3, 3, 4, 3, 4, 4, 5, 2, 3, 3, 4, 3, 4, 4, 5, 3, 4, 4, 5, 4, 5, 5, 6].append [1, 2, 2, 3, 2, 3, 3, 4, 2, 3, 3, 4, 3, 4, 4, 5, 2, 3, 3, 4, 3, 4, 4, 5, 3, 4, 4, 5, 4, 5, 5, 6, 2, 3, 3, 4, 3, 4, 4, 5, 3, 4, 4, 5, 4, 5, 5, 6, 3, 4, 4, 5, 4, 5, 5, 6, 4, 5, 5, 6, 5, 6, 6, 7]).append ([1, 2, 2, 3, 2, 3, 3, 4, 2, 3, 3, 4, 3, 4, 4, 5, 2, 3, 3, 4, 3, 4, 4, 5, 3, 4, 4, 5, 4, 5, 5, 6, 2, 3, 3, 4, 3, 4, 4, 5, 3, 4, 4, 5, 4, 5, 5, 6, 3, 4, 4, 5, 4, 5, 5, 6, 4, 5, 5, 6, 5, 6, 6, 7].append [2, 3, 3, 4, 3, 4, 4, 5, 3, 4, 4, 5, 4, 5, 5, 6, 3, 4, 4, 5, 4, 5, 5, 6, 4, 5, 5, 6, 5, 6, 6, 7, 3, 4, 4, 5, 4, 5, 5, 6, 4, 5, 5, 6, 5, 6, 6, 7, 4, 5, 5, 6, 5, 6, 6, 7, 5, 6, 6, 7, 6, 7, 7, 8])).toArray⟩ : ByteArray) = Lib.pop8tab := by decide +kernel
theorem ret_i {a b : Int} (h : a = b) : Ending.returned (.int .i64 a) = .returned (.int .i64 b) := by rw [h]
theorem below_drewN {B : Nat} {a w : World} (h : Below B a w) (q : Nat) : Below B a (w.drewN q) := ⟨h.os, h.tape, h.output, h.size, h.block⟩
theorem byte_u32 (x : Int) (h0 : 0 ≤ x) (h1 : x < 4294967296) : 0 ≤ bits .and .u32 x 255 ∧ bits .and .u32 x 255 ≤ 255 := by
  have h : bits .and .u32 x 255 = x % 256 := bits_mask .u32 32 (by decide) (fun n a b => by rw [IntKind.wrap_u32]; omega) 8 (by decide) x h0 (by omega)
  rw [h]; omega
theorem pop_byte (x : Nat) (h : x < 4294967296) : Lib.pop8 (bits .and .u32 (x : Int) 255) = (Lib.onesCount (x % 256) : Int) := by
  have e : bits .and .u32 (x : Int) 255 = (x : Int) % 256 := bits_mask .u32 32 (by decide) (fun n a b => by rw [IntKind.wrap_u32]; omega) 8 (by decide) (x : Int) (by omega) (by omega)
  rw [e]
  have := Lib.pop8_eq ⟨x % 256, Nat.mod_lt _ (by omega)⟩
  simpa using this
set_option maxHeartbeats 1000000 in
set_option maxRecDepth 100000 in
theorem onesCount (m : Nat) (hm : m < 16777216) (w : World) : Calls Try.prog 24 #[.int .u32 (m : Nat)] w fun e w' => e = .returned (.int .i64 (cntM m : Nat)) ∧ Below w.heap.size w w' := by
  have HC := Lib.hid (memL_count m)
  have HL := Lib.hid (memL_le m)
  have E1 : Hid (Lib.pop8 ((m : Int) / 16777216) = 0) := Lib.hid (by
    have e : (m : Int) / 16777216 = 0 := by omega
    rw [e]; decide +kernel)
  have E2 : Hid (Lib.pop8 (bits .and .u32 ((m : Int) / 65536) 255) = (Lib.onesCount (m / 65536 % 256) : Int)) := Lib.hid (by
    have := pop_byte (m / 65536) (by omega)
    simpa using this)
  have E3 : Hid (Lib.pop8 (bits .and .u32 ((m : Int) / 256) 255) = (Lib.onesCount (m / 256 % 256) : Int)) := Lib.hid (by
    have := pop_byte (m / 256) (by omega)
    simpa using this)
  have E4 : Hid (Lib.pop8 (bits .and .u32 (m : Int) 255) = (Lib.onesCount (m % 256) : Int)) := Lib.hid (pop_byte m (by omega))
  go_enter Try.func24, Try.ntmps24
  have h0 : (0 : Int) ≤ (m : Int) := by omega
  have h1 : (m : Int) < 16777216 := by omega
  go_wp2
  simp only [fold_pop]
  have a0 : (0 : Int) ≤ (m : Int) / 16777216 := by omega
  have a1 : (m : Int) / 16777216 ≤ 255 := by omega
  have hu := Try.underlying9
  obtain ⟨b0, b1⟩ := byte_u32 ((m : Int) / 65536) (by omega) (by omega)
  obtain ⟨c0, c1⟩ := byte_u32 ((m : Int) / 256) (by omega) (by omega)
  obtain ⟨d0, d1⟩ := byte_u32 (m : Int) (by omega) (by omega)
  clear h1
  go_quiet (fail)
  generalize hp1 : Lib.pop8 _ = p1
  generalize hp2 : Lib.pop8 _ = p2
  generalize hp3 : Lib.pop8 _ = p3
  generalize hp4 : Lib.pop8 _ = p4
  have HS : Hid (p1 + p2 + p3 + p4 = ((cntM m : Nat) : Int)) := Lib.hid (by
    have e1 := E1.out; have e2 := E2.out; have e3 := E3.out; have e4 := E4.out; have hc := HC.out
    rw [← hp1, ← hp2, ← hp3, ← hp4]
    simp only [e1, e2, e3, e4]
    unfold cntM
    omega)
  clear hp1 hp2 hp3 hp4 E1 E2 E3 E4
  go_wp2
  go_ret
  refine ⟨ret_i ?_, below_drewN (Below.refl _ _) _⟩
  have hs := HS.out; have hl := HL.out
  have : cntM m ≤ 24 := hl
  omega
set_option maxHeartbeats 1000000 in
set_option maxRecDepth 100000 in
theorem maskCount (m : Nat) (hm : m < 16777216) (w : World) : Calls Try.prog 22 #[.int .u32 (m : Nat)] w fun e w' => e = .returned (.int .i64 (cntM m : Nat)) ∧ Below w.heap.size w w' := by
  have HC := Lib.hid (fun w => onesCount m hm w)
  generalize cntM m = c at *
  go_enter Try.func22, Try.ntmps22
  go_wp2_with fail
  refine (HC.out _).mono ?_
  rintro e w1 ⟨rfl, b1⟩
  go_wp2
  go_ret
  exact ⟨rfl, b1⟩
end Go.Proofs.Ytededfficggkaaa
