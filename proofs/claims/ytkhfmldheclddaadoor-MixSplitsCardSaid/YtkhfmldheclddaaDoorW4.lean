/-
  The walk of mix.Alike, and one contract each for the two functions Bit at every place.
-/
import Derived.Test.YtkhfmldheclddaaDoorW3
namespace Go.Proofs.YtkhfmldheclddaaDoor
open Go.RowKit

theorem ctz_bits (z : Nat) (hz : z < Mx.M) : Lib.ctz 64 z ≤ 64 ∧ (∀ i, i < Lib.ctz 64 z → z.testBit i = false) ∧ (Lib.ctz 64 z < 64 → z.testBit (Lib.ctz 64 z) = true) := by
  by_cases h0 : z = 0
  · subst h0
    refine ⟨by decide, fun i _ => by simp, fun h => absurd h (by decide)⟩
  · obtain ⟨m, h1, h2⟩ := Lib.ctzFrom_spec 64 z (by omega) hz
    have e : Lib.ctz 64 z = Lib.ctzFrom 64 z := by unfold Lib.ctz; rw [if_neg h0]
    rw [e]
    generalize Lib.ctzFrom 64 z = k at *
    subst h1
    refine ⟨by omega, fun i hi => ?_, fun _ => ?_⟩
    · rw [Nat.testBit_two_pow_mul]
      simp; omega
    · rw [Nat.testBit_two_pow_mul]
      simp
theorem ctz_alike (x y : Nat) (hx : x < Mx.M) (hy : y < Mx.M) : Lib.ctz 64 (x ^^^ y) = Mx.alike x y := by
  obtain ⟨h0, h1, h2⟩ := ctz_bits (x ^^^ y) (Mx.xor_lt hx hy)
  refine (Mx.alike_of h0 (fun i hi => ?_) fun h => ?_).symm
  · have := h1 i hi
    rw [Nat.testBit_xor] at this
    simpa using this
  · have := h2 h
    rw [Nat.testBit_xor] at this
    simpa using this

set_option maxHeartbeats 400000 in
theorem alike_any (x y : Nat) (w : World) (hT : Tab w) :
    Calls Tryd.prog 11 #[.int .u64 x, .int .u64 y] w fun e w' => e = .returned (.int .i64 (Mx.alike (Mx.mix x) (Mx.mix y) : Nat)) ∧ w = w' := by
  have e1 := xor64 (Mx.mix x) (Mx.mix y) (Mx.mix_lt x) (Mx.mix_lt y)
  have e2 := Lib.hid (ctz_alike (Mx.mix x) (Mx.mix y) (Mx.mix_lt x) (Mx.mix_lt y))
  have hlt := Lib.hid (Mx.xor_lt (Mx.mix_lt x) (Mx.mix_lt y))
  have HT := Lib.hid hT
  clear hT
  generalize Mx.mix x ^^^ Mx.mix y = z at *
  go_enter Tryd.func11, Tryd.ntmps11
  go_wp2_with fail
  refine (mix_any x w).mono ?_
  rintro e w' ⟨rfl, rfl⟩
  go_wp2_with fail
  refine (mix_any y w).mono ?_
  rintro e w' ⟨rfl, rfl⟩
  go_wp2_with fail
  refine (tz_any z w hlt.out HT.out).mono ?_
  rintro e w' ⟨rfl, rfl⟩
  go_wp2_with fail
  go_ret
  exact ⟨by rw [e2.out]; rfl, rfl⟩

/-- Bit at every place. -/
def bitB (x : Nat) (n : Int) : Bool := decide (0 ≤ n) && decide (n < 64) && (Mx.mix x).testBit n.toNat
theorem bitB_in (x n : Nat) (h : n < 64) : bitB x n = (Mx.mix x).testBit n := by
  unfold bitB
  have h1 : (0 : Int) ≤ n := by omega
  have h2 : (n : Int) < 64 := by omega
  simp [h1, h2]
theorem bitB_out (x : Nat) (n : Int) (h : n < 0 ∨ 64 ≤ n) : bitB x n = false := by
  unfold bitB
  by_cases h1 : 0 ≤ n
  · have h2 : ¬ n < 64 := by omega
    simp [h2]
  · simp [h1]
theorem bit_any (x : Nat) (n : Int) (w : World) :
    Calls Tryd.prog 13 #[.int .u64 x, .int .i64 n] w fun e w' => e = .returned (.bool (bitB x n)) ∧ w = w' := by
  by_cases h : n < 0 ∨ 64 ≤ n
  · rw [bitB_out x n h]
    exact bit_out x n w h
  · obtain ⟨k, rfl⟩ := Int.eq_ofNat_of_zero_le (show 0 ≤ n by omega)
    rw [bitB_in x k (by omega)]
    exact bit_in x k w (by omega)
theorem refBit_any (x : Nat) (n : Int) (w : World) :
    Calls Tryd.prog 10 #[.int .u64 x, .int .i64 n] w fun e w' => e = .returned (.bool (bitB x n)) ∧ w = w' := by
  by_cases h : n < 0 ∨ 64 ≤ n
  · rw [bitB_out x n h]
    exact refBit_out x n w h
  · obtain ⟨k, rfl⟩ := Int.eq_ofNat_of_zero_le (show 0 ≤ n by omega)
    rw [bitB_in x k (by omega)]
    exact refBit_in x k w (by omega)
set_option maxHeartbeats 400000 in
theorem side_any (x : Nat) (n : Int) (p : Addr) (w : World) (hc : w.cell? p = some (.int .i64 n)) :
    Calls Tryd.prog 17 #[.int .u64 x, .pointer (some p)] w fun e w' => e = .returned (.bool (bitB x n)) ∧ w = w' := by
  go_enter Tryd.func17, Tryd.ntmps17
  go_wp2_with fail
  refine (bit_any x n w).mono ?_
  rintro e w' ⟨rfl, rfl⟩
  go_wp2_with fail
  go_ret
  exact ⟨rfl, rfl⟩
end Go.Proofs.YtkhfmldheclddaaDoor
