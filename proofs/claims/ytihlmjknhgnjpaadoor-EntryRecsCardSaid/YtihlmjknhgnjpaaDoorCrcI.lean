/-
  The steps of the register as the walks write them: over the integers.
  Conditions: none beyond those that each theorem names.
-/
import Derived.Test.YtihlmjknhgnjpaaDoorCrc
import Derived.Laws.BitsAllLaws
namespace Go.Proofs.YtihlmjknhgnjpaaDoor.Crc

/-- The register as the integer that the walks carry. -/
def regI (r : Nat) : Int := (r : Nat)
theorem regI_lt {r : Nat} (h : r < 2 ^ 32) : 0 ≤ regI r ∧ regI r < 4294967296 := by unfold regI; omega

theorem bits_snoc (n X : Nat) : bits (n + 1) X = bits n X ++ [X.testBit n] := by simp [bits, List.range_succ]
theorem feed_bit (r n X : Nat) : feed r (bits (n + 1) X) = stp (feed r (bits n X)) (X.testBit n) := by rw [bits_snoc, feed_append]; rfl

theorem and1 (r : Nat) : r &&& 1 = (r.testBit 0).toNat := by
  rw [Nat.and_one_is_mod, Nat.testBit_zero]
  rcases Nat.mod_two_eq_zero_or_one r with h | h <;> simp [h]
theorem and_one {r : Nat} (h : r < 2 ^ 32) : Go.bits .and .u32 (regI r) 1 = ((r.testBit 0).toNat : Nat) := by
  have := u32_and_nat r 1 (by simpa using h) (by decide)
  rw [and1] at this
  exact this
theorem and_byte {b j : Nat} (h : b < 256) : Go.bits .and .u32 ((b : Int) / 2 ^ j % 4294967296) 1 = ((b.testBit j).toNat : Nat) := by
  have hb : b / 2 ^ j ≤ b := Nat.div_le_self _ _
  have e : (b : Int) / 2 ^ j % 4294967296 = ((b / 2 ^ j : Nat) : Int) := by
    have : ((b : Int) / 2 ^ j) = ((b / 2 ^ j : Nat) : Int) := by rw [Int.natCast_ediv, Int.natCast_pow]; rfl
    rw [this]
    generalize b / 2 ^ j = q at hb
    omega
  have := and_one (r := b / 2 ^ j) (by omega)
  rw [e]
  rw [regI] at this
  rw [this, Nat.testBit_div_two_pow, Nat.zero_add]
theorem ne_bits {b j r : Nat} {z : Bool} (hb : b < 256) (hr : r < 2 ^ 32)
    (h : (Go.bits .and .u32 ((b : Int) / 2 ^ j % 4294967296) 1 != Go.bits .and .u32 (regI r) 1) = z) : (r.testBit 0 != b.testBit j) = z := by
  rw [and_byte hb, and_one hr] at h
  rw [← h]
  cases r.testBit 0 <;> cases b.testBit j <;> rfl
theorem half (r : Nat) : regI r / (2 : Int) = ((r >>> 1 : Nat) : Int) := by
  rw [Nat.shiftRight_eq_div_pow]
  unfold regI
  omega
theorem step_yes {b j r : Nat} (hb : b < 256) (hr : r < 2 ^ 32)
    (h : (Go.bits .and .u32 ((b : Int) / 2 ^ j % 4294967296) 1 != Go.bits .and .u32 (regI r) 1) = true) :
    Go.bits .xor .u32 (regI r / 2) 2197175160 = regI (stp r (b.testBit j)) := by
  have h1 := ne_bits hb hr h
  rw [half]
  have h2 : r >>> 1 < 4294967296 := by rw [Nat.shiftRight_eq_div_pow]; omega
  have := u32_xor_nat (r >>> 1) poly h2 (by decide)
  unfold stp
  rw [h1]
  exact this
theorem step_no {b j r : Nat} (hb : b < 256) (hr : r < 2 ^ 32)
    (h : (Go.bits .and .u32 ((b : Int) / 2 ^ j % 4294967296) 1 != Go.bits .and .u32 (regI r) 1) = false) :
    regI r / 2 = regI (stp r (b.testBit j)) := by
  have h1 := ne_bits hb hr h
  rw [half]
  unfold stp regI
  rw [h1]
  simp

theorem xor_ones {r : Nat} (h : r < 2 ^ 32) : ones ^^^ r = 4294967295 - r := by
  apply Nat.eq_of_testBit_eq
  intro i
  rw [Nat.testBit_xor]
  have e1 : (4294967295 - r).testBit i = (decide (i < 32) && !r.testBit i) := by
    have := Nat.testBit_two_pow_sub_succ h i
    rw [← this]
    congr 1
    omega
  have e2 : ones.testBit i = decide (i < 32) := Nat.testBit_two_pow_sub_one 32 i
  rw [e1, e2]
  by_cases hi : i < 32
  · simp [hi]
  · have : r.testBit i = false := Nat.testBit_lt_two_pow (Nat.lt_of_lt_of_le h (Nat.pow_le_pow_right (by omega) (by omega)))
    simp [hi, this]
theorem not_reg {r : Nat} (h : r < 2 ^ 32) : (4294967295 - regI r) % 4294967296 = regI (ones ^^^ r) := by
  rw [xor_ones h]
  unfold regI
  omega
theorem not_reg' {r : Nat} (h : r < 2 ^ 32) : 4294967295 - regI r = regI (ones ^^^ r) := by
  rw [xor_ones h]
  unfold regI
  omega

theorem not_u32 {r : Nat} (h : r < 2 ^ 32) : Go.bits .xor .u32 IntKind.u32.max (regI r) = regI (ones ^^^ r) := u32_xor_nat ones r (by decide) (by simpa using h)
theorem ones_lt : ones < 2 ^ 32 := by decide
theorem not_lt {r : Nat} (h : r < 2 ^ 32) : ones ^^^ r < 2 ^ 32 := Nat.xor_lt_two_pow ones_lt h

/-! ### Four bits at a time -/
theorem zeros_xor (n r s : Nat) : zeros (r ^^^ s) n = zeros r n ^^^ zeros s n := by
  have := feed_xor (List.replicate n false) (List.replicate n false) rfl r s
  rw [← feed_zeros, ← feed_zeros, ← feed_zeros, ← this]
  congr 1
  simp
theorem zeros_add (r m n : Nat) : zeros r (m + n) = zeros (zeros r m) n := by
  rw [← feed_zeros, ← feed_zeros, ← feed_zeros, ← feed_append, List.replicate_append_replicate]
theorem stp_even (q : Nat) : stp (2 * q) false = q := by
  unfold stp
  simp [Nat.shiftRight_eq_div_pow]
theorem zeros_16 (q : Nat) : zeros (16 * q) 4 = q := by
  rw [zeros_succ, show 16 * q = 2 * (8 * q) from by omega, stp_even, zeros_succ, show 8 * q = 2 * (4 * q) from by omega, stp_even, zeros_succ, show 4 * q = 2 * (2 * q) from by omega, stp_even, zeros_succ, stp_even]
  rfl
theorem four (r : Nat) : zeros r 4 = (r >>> 4) ^^^ zeros (r &&& 15) 4 := by
  have e : r = (16 * (r >>> 4)) ^^^ (r &&& 15) := by
    apply Nat.eq_of_testBit_eq
    intro i
    rw [Nat.testBit_xor, Nat.testBit_and, show 16 * (r >>> 4) = 2 ^ 4 * (r >>> 4) from rfl, Nat.testBit_two_pow_mul, Nat.testBit_shiftRight, show (15 : Nat) = 2 ^ 4 - 1 from rfl, Nat.testBit_two_pow_sub_one]
    by_cases hi : 4 ≤ i
    · have h1 : ¬ i < 4 := by omega
      rw [show 4 + (i - 4) = i from by omega]
      simp [hi, h1]
    · have h1 : i < 4 := by omega
      simp [hi, h1]
  have := zeros_xor 4 (16 * (r >>> 4)) (r &&& 15)
  rw [← e, zeros_16] at this
  exact this
/-- What four shifts leave. -/
def eff (v : Nat) : Nat := zeros v 4
theorem eff_lt {v : Nat} (h : v < 2 ^ 32) : eff v < 2 ^ 32 := feed_lt _ h
theorem byte_step {r c : Nat} (hc : c < 256) : zeros (zeros (r ^^^ c) 4) 4 = feed r (bits 8 c) := by
  rw [feed_bits 8 r c (by simpa using hc), ← zeros_add]
theorem and15 {r : Nat} (h : r < 2 ^ 32) : Go.bits .and .u32 (regI r) 15 = ((r &&& 15 : Nat) : Int) := u32_and_nat r 15 (by simpa using h) (by decide)
theorem and15_lt (r : Nat) : r &&& 15 < 16 := by
  rw [show (15 : Nat) = 2 ^ 4 - 1 from rfl, Nat.and_two_pow_sub_one_eq_mod]
  exact Nat.mod_lt _ (by decide)
theorem shr4 (r : Nat) : regI r / (16 : Int) = regI (r >>> 4) := by
  rw [Nat.shiftRight_eq_div_pow]
  unfold regI
  omega
theorem xor_four {r : Nat} (h : r < 2 ^ 32) : Go.bits .xor .u32 (regI (r >>> 4)) (regI (eff (r &&& 15))) = regI (zeros r 4) := by
  have h2 : r >>> 4 < 4294967296 := by rw [Nat.shiftRight_eq_div_pow]; omega
  have h3 := and15_lt r
  have := u32_xor_nat (r >>> 4) (eff (r &&& 15)) h2 (by have := @eff_lt (r &&& 15) (by omega); simpa using this)
  rw [four r]
  exact this
theorem xor_byte {r c : Nat} (hr : r < 2 ^ 32) (hc : c < 256) : Go.bits .xor .u32 (regI r) (c : Int) = regI (r ^^^ c) := u32_xor_nat r c (by simpa using hr) (by omega)
theorem xor_byte_lt {r c : Nat} (hr : r < 2 ^ 32) (hc : c < 256) : r ^^^ c < 2 ^ 32 := Nat.xor_lt_two_pow hr (by omega)
theorem zeros_lt {r : Nat} (h : r < 2 ^ 32) (n : Nat) : zeros r n < 2 ^ 32 := feed_lt _ h
theorem reg_snoc (r : Nat) (l : List UInt8) (b : UInt8) : reg r (l ++ [b]) = feed (reg r l) (bits 8 b.toNat) := by
  rw [reg_append]
  simp [reg, allBits, byteBits]
theorem zeros_snoc (r n : Nat) : zeros r (n + 1) = stp (zeros r n) false := by rw [zeros_add]; rfl
/-- r>>1 ^ (r&1)*poly. -/
theorem step_mul {r : Nat} (h : r < 2 ^ 32) : Go.bits .xor .u32 (regI r / 2) (Go.bits .and .u32 (regI r) 1 * 2197175160 % 4294967296) = regI (stp r false) := by
  rw [and_one h, half]
  have h2 : r >>> 1 < 4294967296 := by rw [Nat.shiftRight_eq_div_pow]; omega
  unfold stp
  cases hb : r.testBit 0 with
  | true => exact u32_xor_nat (r >>> 1) poly h2 (by decide)
  | false =>
    have := u32_xor_nat (r >>> 1) 0 h2 (by decide)
    exact this
end Go.Proofs.YtihlmjknhgnjpaaDoor.Crc
