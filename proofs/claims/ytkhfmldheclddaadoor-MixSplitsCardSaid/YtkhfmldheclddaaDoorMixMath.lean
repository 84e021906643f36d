/-
  The plain mathematics of the mixing function of chapter 3: it is a bijection of the numbers below 2^64; its lowest bits. No program is named here.
  Conditions: none beyond those that each theorem names.
-/
import Derived.WalkKit
import Derived.Laws.BitsAllLaws
namespace Go.Proofs.YtkhfmldheclddaaDoor.Mx

def M : Nat := 18446744073709551616
def C1 : Nat := 11400714819323198485
def C2 : Nat := 13787848793156543929
def C3 : Nat := 10723151780598845931
def D2 : Nat := 10871156337175269513
def D3 : Nat := 3573116690164977347
/-- x XOR (x >> s), and back. -/
def over (x s : Nat) : Nat := x ^^^ (x >>> s)
def back (x s : Nat) : Nat := x ^^^ (x >>> s) ^^^ (x >>> (2 * s))

theorem shr_lt {x s : Nat} (h : x < M) : x >>> s < M := by
  rw [Nat.shiftRight_eq_div_pow]
  exact Nat.lt_of_le_of_lt (Nat.div_le_self _ _) h
theorem xor_lt {x y : Nat} (h : x < M) (k : y < M) : x ^^^ y < M := Nat.xor_lt_two_pow (n := 64) h k
theorem over_lt {x s : Nat} (h : x < M) : over x s < M := xor_lt h (shr_lt h)
theorem back_lt {x s : Nat} (h : x < M) : back x s < M := xor_lt (xor_lt h (shr_lt h)) (shr_lt h)
theorem high {x i : Nat} (h : x < M) (hi : 64 ≤ i) : x.testBit i = false :=
  Nat.testBit_lt_two_pow (Nat.lt_of_lt_of_le h (Nat.pow_le_pow_right (n := 2) (i := 64) (by omega) hi))
theorem back_over {x s : Nat} (h : x < M) (hs : 64 ≤ 3 * s) : back (over x s) s = x := by
  apply Nat.eq_of_testBit_eq
  intro i
  simp only [back, over, Nat.testBit_xor, Nat.testBit_shiftRight]
  rw [show s + (s + i) = 2 * s + i from by omega, high (i := s + (2 * s + i)) h (by omega)]
  cases x.testBit i <;> cases x.testBit (s + i) <;> cases x.testBit (2 * s + i) <;> rfl
theorem over_back {x s : Nat} (h : x < M) (hs : 64 ≤ 3 * s) : over (back x s) s = x := by
  apply Nat.eq_of_testBit_eq
  intro i
  simp only [back, over, Nat.testBit_xor, Nat.testBit_shiftRight]
  rw [show s + (s + i) = 2 * s + i from by omega, high (i := 2 * s + (s + i)) h (by omega)]
  cases x.testBit i <;> cases x.testBit (s + i) <;> cases x.testBit (2 * s + i) <;> rfl
theorem mul_mul {x c d : Nat} (h : x < M) (hcd : c * d % M = 1) : x * c % M * d % M = x := by
  rw [Nat.mod_mul_mod, Nat.mul_assoc, Nat.mul_mod, hcd, Nat.mul_one, Nat.mod_mod]
  exact Nat.mod_eq_of_lt h

def mix (k : Nat) : Nat := over (over (over ((k + C1) % M) 30 * C2 % M) 27 * C3 % M) 31
def unmix (x : Nat) : Nat := (back (back (back x 31 * D3 % M) 27 * D2 % M) 30 + (M - C1)) % M
theorem M_pos : 0 < M := by decide
theorem mix_lt (k : Nat) : mix k < M := over_lt (Nat.mod_lt _ M_pos)
theorem unmix_lt (k : Nat) : unmix k < M := Nat.mod_lt _ M_pos
theorem cd2 : C2 * D2 % M = 1 := by decide
theorem dc2 : D2 * C2 % M = 1 := by decide
theorem cd3 : C3 * D3 % M = 1 := by decide
theorem dc3 : D3 * C3 % M = 1 := by decide
theorem unmix_mix {k : Nat} (h : k < M) : unmix (mix k) = k := by
  have hm : ∀ n, n % M < M := fun n => Nat.mod_lt _ M_pos
  unfold unmix mix
  rw [back_over (hm _) (by decide), mul_mul (over_lt (hm _)) cd3, back_over (hm _) (by decide), mul_mul (over_lt (hm _)) cd2, back_over (hm _) (by decide)]
  unfold M at *
  unfold C1
  omega
theorem mix_unmix {x : Nat} (h : x < M) : mix (unmix x) = x := by
  have hm : ∀ n, n % M < M := fun n => Nat.mod_lt _ M_pos
  unfold unmix mix
  have e : ∀ n, n < M → ((n + (M - C1)) % M + C1) % M = n := fun n hn => by
    unfold M at *
    unfold C1
    omega
  rw [e _ (back_lt (hm _)), over_back (hm _) (by decide), mul_mul (back_lt (hm _)) dc2, over_back (hm _) (by decide), mul_mul (back_lt h) dc3, over_back h (by decide)]
theorem mix_inj {a b : Nat} (ha : a < M) (hb : b < M) (h : mix a = mix b) : a = b := by
  rw [← unmix_mix ha, h, unmix_mix hb]

/-- In how many of the lowest bits two numbers agree, from bit n on, up to 64. -/
def agree (x y : Nat) : Nat → Nat
  | 0 => 0
  | f + 1 => if x.testBit (63 - f) = y.testBit (63 - f) then agree x y f + 1 else 0
def alike (x y : Nat) : Nat := agree x y 64
theorem agree_le (x y : Nat) : ∀ f, agree x y f ≤ f
  | 0 => Nat.le_refl _
  | f + 1 => by
    rw [agree]
    split
    · have := agree_le x y f; omega
    · omega
theorem agree_bits (x y : Nat) : ∀ f, f ≤ 64 → ∀ i, 64 - f ≤ i → i < 64 - f + agree x y f → x.testBit i = y.testBit i
  | 0, _, i, h1, h2 => by rw [agree] at h2; omega
  | f + 1, hf, i, h1, h2 => by
    rw [agree] at h2
    split at h2
    · rename_i he
      by_cases e : i = 63 - f
      · rw [e]; exact he
      · exact agree_bits x y f (by omega) i (by omega) (by omega)
    · omega
theorem agree_stop (x y : Nat) : ∀ f, f ≤ 64 → agree x y f < f → x.testBit (64 - f + agree x y f) ≠ y.testBit (64 - f + agree x y f)
  | 0, _, h => by omega
  | f + 1, hf, h => by
    rw [agree] at h ⊢
    split
    · rename_i he
      rw [if_pos he] at h
      have := agree_stop x y f (by omega) (by omega)
      rwa [show 64 - (f + 1) + (agree x y f + 1) = 64 - f + agree x y f from by omega]
    · rename_i he
      rwa [show 64 - (f + 1) + 0 = 63 - f from by omega]
theorem alike_le (x y : Nat) : alike x y ≤ 64 := agree_le x y 64
theorem alike_bits {x y i : Nat} (h : i < alike x y) : x.testBit i = y.testBit i := agree_bits x y 64 (Nat.le_refl _) i (by omega) (by unfold alike at h; omega)
theorem alike_stop {x y : Nat} (h : alike x y < 64) : x.testBit (alike x y) ≠ y.testBit (alike x y) := by
  have := agree_stop x y 64 (Nat.le_refl _) h
  rwa [show 64 - 64 + agree x y 64 = alike x y from by unfold alike; omega] at this
theorem alike_of {x y n : Nat} (hn : n ≤ 64) (h1 : ∀ i, i < n → x.testBit i = y.testBit i) (h2 : n < 64 → x.testBit n ≠ y.testBit n) : alike x y = n := by
  rcases Nat.lt_trichotomy (alike x y) n with h | h | h
  · exact absurd (h1 _ h) (alike_stop (by omega))
  · exact h
  · have := alike_le x y
    exact absurd (alike_bits h) (h2 (by omega))
theorem alike_all {x y : Nat} (hx : x < M) (hy : y < M) : alike x y = 64 ↔ x = y := by
  constructor
  · intro h
    apply Nat.eq_of_testBit_eq
    intro i
    by_cases hi : i < 64
    · exact alike_bits (by omega)
    · rw [high hx (by omega), high hy (by omega)]
  · intro h
    subst h
    exact alike_of (Nat.le_refl _) (fun _ _ => rfl) (fun h => absurd h (Nat.lt_irrefl _))
theorem low_same {x y n : Nat} (hn : n ≤ 64) : (x % 2 ^ n = y % 2 ^ n) ↔ n ≤ alike x y := by
  constructor
  · intro h
    rcases Nat.lt_or_ge (alike x y) n with h1 | h1
    · have h2 := congrArg (Nat.testBit · (alike x y)) h
      simp only [Nat.testBit_mod_two_pow, h1, decide_true, Bool.true_and] at h2
      exact absurd h2 (alike_stop (by omega))
    · exact h1
  · intro h
    apply Nat.eq_of_testBit_eq
    intro i
    rw [Nat.testBit_mod_two_pow, Nat.testBit_mod_two_pow]
    by_cases hi : i < n
    · rw [alike_bits (show i < alike x y by omega)]
    · simp [hi]
/-- One bit more of the lowest. -/
theorem low_more (x n : Nat) : x % 2 ^ (n + 1) = x % 2 ^ n + (if x.testBit n = true then 2 ^ n else 0) := by
  rw [Nat.mod_pow_succ]
  have : x / 2 ^ n % 2 = (x.testBit n).toNat := by rw [Nat.toNat_testBit]
  rw [this]
  cases x.testBit n <;> simp
end Go.Proofs.YtkhfmldheclddaaDoor.Mx
