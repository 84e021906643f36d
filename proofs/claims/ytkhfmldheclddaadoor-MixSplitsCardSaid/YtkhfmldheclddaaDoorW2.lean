/-
  The walks of the reference's bit, Bit and Alike, and of mix.Bit and mix.Low.
-/
import Derived.Test.YtkhfmldheclddaaDoorW1
namespace Go.Proofs.YtkhfmldheclddaaDoor
open Go.RowKit

theorem shr_succ (x k : Nat) : x >>> (k + 1) = x >>> k / 2 := by rw [Nat.shiftRight_succ]
theorem half_w (x : Nat) (hx : x < Mx.M) : IntKind.u64.wrap ((x : Int) / 2) = ((x / 2 : Nat) : Int) := by
  rw [IntKind.wrap_u64]; unfold Mx.M at hx; omega
theorem rem_w (x : Nat) : ((x : Int) % 2) = ((x % 2 : Nat) : Int) := by omega
/-- The bit at a place, as a number. -/
def bitN (x k : Nat) : Nat := x >>> k % 2
theorem bitN_lt (x k : Nat) : bitN x k < 2 := Nat.mod_lt _ (by decide)
theorem bitN_is (x k : Nat) : bitN x k = (x.testBit k).toNat := by
  unfold bitN
  rw [Nat.shiftRight_eq_div_pow, Nat.toNat_testBit]

theorem andbit_w (m n : Nat) (hm : m < Mx.M) : (bits .and .u64 ((m : Int) / 2 ^ n) 1 == 1) = m.testBit n := by
  have hs := Mx.shr_lt (s := n) hm
  have hb := bitN_is m n
  rw [show ((m : Int) / 2 ^ n) = ((m >>> n : Nat) : Int) from by rw [Nat.shiftRight_eq_div_pow]; push_cast; rfl, show (1 : Int) = ((1 : Nat) : Int) from rfl, bits_and_u64_nat _ 1 hs (by decide), Nat.and_one_is_mod]
  unfold bitN at hb
  rw [hb]
  cases m.testBit n <;> rfl
theorem low_w (m n : Nat) (hm : m < Mx.M) (hn : n ≤ 32) : wrap64 (bits .and .u64 (m : Int) (IntKind.u64.wrap (IntKind.u64.wrap (2 ^ n) - 1))) = ((m % 2 ^ n : Nat) : Int) := by
  have h1 : 2 ^ n ≤ 2 ^ 32 := Nat.pow_le_pow_right (by decide) hn
  have h0 : 0 < 2 ^ n := Nat.two_pow_pos n
  have hr : m % 2 ^ n < 2 ^ n := Nat.mod_lt _ h0
  have e1 : IntKind.u64.wrap (IntKind.u64.wrap (2 ^ n) - 1) = ((2 ^ n - 1 : Nat) : Int) := by
    rw [IntKind.wrap_u64, IntKind.wrap_u64, show ((2 : Int) ^ n) = ((2 ^ n : Nat) : Int) from by push_cast; rfl]
    generalize 2 ^ n = p at *
    omega
  rw [e1, bits_and_u64_nat m _ hm (by omega), Nat.and_two_pow_sub_one_eq_mod]
  generalize m % 2 ^ n = r at *
  generalize 2 ^ n = p at *
  unfold wrap64
  omega
set_option maxHeartbeats 400000 in
theorem refbit_any (x n : Nat) (w : World) (hx : x < Mx.M) (hn : n ≤ 64) :
    Calls Tryd.prog 19 #[.int .u64 x, .int .i64 n] w fun e w' => e = .returned (.int .i64 (bitN x n : Nat)) ∧ w = w' := by
  go_enter Tryd.func19, Tryd.ntmps19
  go_wp2_with fail
  go_loop [5, 6] (fun r i => ∃ k : Nat, k ≤ n ∧ i = .int .i64 k ∧ r = .int .u64 ((x >>> k : Nat) : Int)) (fun _ i => n - (intOf i).toNat)
  case atStart => exact ⟨0, Nat.zero_le _, rfl, rfl⟩
  case round =>
    obtain ⟨k, hk, rfl, rfl⟩ := hrel
    have hy := Mx.shr_lt (s := k) hx
    have hs := Lib.hid (shr_succ x k)
    have hz := Lib.hid (show k = n → x >>> k % 2 = bitN x n from fun e => by rw [e]; rfl)
    generalize x >>> k = y at *
    by_cases hlt : k < n
    · go_wp2_with fail
      refine ⟨⟨k + 1, by omega, by go_num, ?_⟩, by simp [intOf]; omega⟩
      rw [hs.out, half_w y hy]
    · go_wp2_with fail
      go_ret
      refine ⟨ret_same ?_, rfl⟩
      rw [← hz.out (by omega)]
      omega

set_option maxHeartbeats 400000 in
theorem refBit_in (x n : Nat) (w : World) (hn : n < 64) :
    Calls Tryd.prog 10 #[.int .u64 x, .int .i64 n] w fun e w' => e = .returned (.bool ((Mx.mix x).testBit n)) ∧ w = w' := by
  have hb := bitN_is (Mx.mix x) n
  have hm := Mx.mix_lt x
  go_enter Tryd.func10, Tryd.ntmps10
  go_wp2_with fail
  refine (refMix_any x w).mono ?_
  rintro e w' ⟨rfl, rfl⟩
  cases ht : (Mx.mix x).testBit n
  all_goals
    rw [ht] at hb
    go_wp2_with fail
    refine (refbit_any _ n w hm (by omega)).mono ?_
    rintro e w' ⟨rfl, rfl⟩
    rw [hb]
    go_wp2_with fail
    go_ret
    exact ⟨by first | rfl | (rw [ht]; rfl), rfl⟩
set_option maxHeartbeats 400000 in
theorem refBit_out (x : Nat) (n : Int) (w : World) (hn : n < 0 ∨ 64 ≤ n) :
    Calls Tryd.prog 10 #[.int .u64 x, .int .i64 n] w fun e w' => e = .returned (.bool false) ∧ w = w' := by
  by_cases h0 : n < 0
  · clear hn
    go_enter Tryd.func10, Tryd.ntmps10
    go_wp2_with fail
    go_ret
    exact ⟨rfl, rfl⟩
  · have h1 : 64 ≤ n := by omega
    clear hn
    go_enter Tryd.func10, Tryd.ntmps10
    go_wp2_with fail
    go_ret
    exact ⟨rfl, rfl⟩
set_option maxHeartbeats 400000 in
theorem bit_out (x : Nat) (n : Int) (w : World) (hn : n < 0 ∨ 64 ≤ n) :
    Calls Tryd.prog 13 #[.int .u64 x, .int .i64 n] w fun e w' => e = .returned (.bool false) ∧ w = w' := by
  by_cases h0 : n < 0
  · clear hn
    go_enter Tryd.func13, Tryd.ntmps13
    go_wp2_with fail
    go_ret
    exact ⟨rfl, rfl⟩
  · have h1 : 64 ≤ n := by omega
    clear hn
    go_enter Tryd.func13, Tryd.ntmps13
    go_wp2_with fail
    go_ret
    exact ⟨rfl, rfl⟩
set_option maxHeartbeats 400000 in
theorem bit_in (x n : Nat) (w : World) (hn : n < 64) :
    Calls Tryd.prog 13 #[.int .u64 x, .int .i64 n] w fun e w' => e = .returned (.bool ((Mx.mix x).testBit n)) ∧ w = w' := by
  go_enter Tryd.func13, Tryd.ntmps13
  go_wp2_with fail
  refine (mix_any x w).mono ?_
  rintro e w' ⟨rfl, rfl⟩
  go_wp2_with fail
  go_ret
  refine ⟨?_, rfl⟩
  rw [← andbit_w (Mx.mix x) n (Mx.mix_lt x)]
  rfl
set_option maxHeartbeats 400000 in
theorem low_any (x n : Nat) (w : World) (hn : n ≤ 32) :
    Calls Tryd.prog 14 #[.int .u64 x, .int .i64 n] w fun e w' => e = .returned (.int .i64 (Mx.mix x % 2 ^ n : Nat)) ∧ ∃ m, w' = w.drewN m := by
  go_enter Tryd.func14, Tryd.ntmps14
  go_wp2_with fail
  go_quiet ((go_at_call 7; exact Calls.quiet_of_same ((mix_any _ _).mono fun _ _ h => ⟨h.1, h.2.symm⟩)))
  have H := Lib.hid (low_w (Mx.mix x) n (Mx.mix_lt x) hn)
  go_wp2_with fail
  go_ret
  exact ⟨ret_same H.out, _, rfl⟩

set_option maxHeartbeats 400000 in
theorem refAlike_any (x y : Nat) (w : World) :
    Calls Tryd.prog 12 #[.int .u64 x, .int .u64 y] w fun e w' => e = .returned (.int .i64 (Mx.alike (Mx.mix x) (Mx.mix y) : Nat)) ∧ w = w' := by
  have hle := Mx.alike_le (Mx.mix x) (Mx.mix y)
  go_enter Tryd.func12, Tryd.ntmps12
  go_wp2_with fail
  go_loop [5] (fun i => ∃ k : Nat, k ≤ Mx.alike (Mx.mix x) (Mx.mix y) ∧ i = .int .i64 k) (fun i => 64 - (intOf i).toNat)
  case atStart => exact ⟨0, Nat.zero_le _, rfl⟩
  case round =>
    obtain ⟨k, hk, rfl⟩ := hrel
    by_cases hlt : k < 64
    · by_cases hka : k < Mx.alike (Mx.mix x) (Mx.mix y)
      · have hb := Mx.alike_bits hka
        go_wp2_with fail
        refine (refBit_in x k w hlt).mono ?_
        rintro e w' ⟨rfl, rfl⟩
        go_wp2_with fail
        refine (refBit_in y k w hlt).mono ?_
        rintro e w' ⟨rfl, rfl⟩
        go_wp2_with fail
        refine ⟨⟨k + 1, by omega, by go_num⟩, by simp [intOf]; omega⟩
      · have he : Mx.alike (Mx.mix x) (Mx.mix y) = k := by omega
        have hb : (Mx.mix x).testBit k ≠ (Mx.mix y).testBit k := by
          have := Mx.alike_stop (x := Mx.mix x) (y := Mx.mix y) (by omega)
          rwa [he] at this
        have HE := Lib.hid he
        have hd : ((Mx.mix x).testBit k == (Mx.mix y).testBit k) = false := by simpa using hb
        clear hb hka he
        go_wp2_with fail
        refine (refBit_in x k w hlt).mono ?_
        rintro e w' ⟨rfl, rfl⟩
        go_wp2_with fail
        refine (refBit_in y k w hlt).mono ?_
        rintro e w' ⟨rfl, rfl⟩
        go_wp2_with fail
        go_ret
        exact ⟨by rw [HE.out]; rfl, rfl⟩
    · have hk64 : k = 64 := by omega
      have ha : Hid ((k : Int) = ((Mx.alike (Mx.mix x) (Mx.mix y) : Nat) : Int)) := by show _ = _; omega
      clear hk64
      go_wp2_with fail
      go_ret
      exact ⟨ret_same ha, rfl⟩
end Go.Proofs.YtkhfmldheclddaaDoor
