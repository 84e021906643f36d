/-
  The numbers in which a map keeps its pages: the bits of a list of bools, 64 in a number; a bit looked at, a bit turned.
  Conditions: none beyond those that each theorem names.
-/
import Derived.Test.YtfmjnjhocpoafaaBase
namespace Go.Proofs.Ytfmjnjhocpoafaa
open Go.RowKit

/-- The number whose bits are the list's. -/
def wd : List Bool → Nat
  | [] => 0
  | b :: r => b.toNat + 2 * wd r
theorem wd_nil : wd [] = 0 := rfl
theorem wd_cons (b : Bool) (r : List Bool) : wd (b :: r) = b.toNat + 2 * wd r := rfl
theorem wd_lt : ∀ l : List Bool, wd l < 2 ^ l.length
  | [] => by rw [wd_nil]; exact Nat.two_pow_pos _
  | b :: r => by
    have := wd_lt r
    rw [wd_cons, List.length_cons, Nat.pow_succ]
    cases b <;> simp only [Bool.toNat_true, Bool.toNat_false] <;> omega
theorem wd_bit : ∀ (l : List Bool) (i : Nat), (wd l).testBit i = l.getD i false
  | [], i => by rw [wd_nil]; simp
  | b :: r, 0 => by
    rw [wd_cons, Nat.testBit_zero]
    cases b <;> simp <;> omega
  | b :: r, i + 1 => by
    rw [wd_cons, Nat.testBit_succ, show (b.toNat + 2 * wd r) / 2 = wd r from by cases b <;> simp only [Bool.toNat_true, Bool.toNat_false] <;> omega, wd_bit r i]
    simp
/-- The pages below 64, and the others. -/
@[irreducible] def lo (l : List Bool) : Nat := wd (l.take 64)
@[irreducible] def hi (l : List Bool) : Nat := wd (l.drop 64)
theorem lo_lt (l : List Bool) : lo l < 2 ^ 64 := by
  unfold lo
  exact Nat.lt_of_lt_of_le (wd_lt _) (Nat.pow_le_pow_right (by decide) (by rw [List.length_take]; omega))
theorem hi_lt (l : List Bool) (h : l.length ≤ 120) : hi l < 2 ^ 64 := by
  unfold hi
  exact Nat.lt_of_lt_of_le (wd_lt _) (Nat.pow_le_pow_right (by decide) (by rw [List.length_drop]; omega))
theorem lo_bit (l : List Bool) (i : Nat) (h : i < 64) : (lo l).testBit i = l.getD i false := by
  unfold lo
  rw [wd_bit, List.getD_eq_getElem?_getD, List.getElem?_take_of_lt h, ← List.getD_eq_getElem?_getD]
theorem lo_bit' (l : List Bool) (i : Nat) (h : 64 ≤ i) : (lo l).testBit i = false := by
  unfold lo
  rw [wd_bit, List.getD_eq_getElem?_getD, List.getElem?_eq_none (by rw [List.length_take]; omega)]
  rfl
theorem hi_bit (l : List Bool) (i : Nat) : (hi l).testBit i = l.getD (64 + i) false := by
  unfold hi
  rw [wd_bit, List.getD_eq_getElem?_getD, List.getElem?_drop, ← List.getD_eq_getElem?_getD]
theorem getD_set (l : List Bool) (i j : Nat) (t : Bool) (h : i < l.length) : (l.set i t).getD j false = if i = j then t else l.getD j false := by
  rw [List.getD_eq_getElem?_getD, List.getElem?_set]
  split
  · rename_i e
    simp
  · rw [List.getD_eq_getElem?_getD]
theorem two_bit (i j : Nat) : (2 ^ i).testBit j = decide (i = j) := Nat.testBit_two_pow
theorem lo_set (l : List Bool) (i : Nat) (t : Bool) (hi : i < l.length) (ht : l.getD i false = !t) (h : i < 64) : lo (l.set i t) = lo l ^^^ 2 ^ i := by
  refine Nat.eq_of_testBit_eq fun j => ?_
  rw [Nat.testBit_xor, two_bit]
  by_cases hj : j < 64
  · rw [lo_bit _ j hj, lo_bit _ j hj, getD_set l i j t hi]
    by_cases e : i = j
    · subst e
      rw [if_pos rfl, ht]
      cases t <;> simp
    · rw [if_neg e]
      simp [e]
  · rw [lo_bit' _ j (by omega), lo_bit' _ j (by omega)]
    simp
    omega
theorem lo_set' (l : List Bool) (i : Nat) (t : Bool) (h : 64 ≤ i) : lo (l.set i t) = lo l := by
  unfold lo
  rw [List.take_set, List.set_eq_of_length_le (by rw [List.length_take]; omega)]
theorem hi_set (l : List Bool) (i : Nat) (t : Bool) (hl : i < l.length) (ht : l.getD i false = !t) (h : 64 ≤ i) : hi (l.set i t) = hi l ^^^ 2 ^ (i - 64) := by
  refine Nat.eq_of_testBit_eq fun j => ?_
  rw [Nat.testBit_xor, two_bit, hi_bit, hi_bit, getD_set l i _ t hl]
  by_cases e : i = 64 + j
  · subst e
    rw [if_pos rfl, ht, show 64 + j - 64 = j from by omega]
    cases t <;> simp
  · rw [if_neg e, show decide (i - 64 = j) = false from by simp; omega]
    simp
theorem hi_set' (l : List Bool) (i : Nat) (t : Bool) (h : i < 64) : hi (l.set i t) = hi l := by
  unfold hi
  rw [List.drop_set, if_pos h]
theorem lo_none (n : Nat) : lo (List.replicate n false) = 0 := by
  refine Nat.eq_of_testBit_eq fun j => ?_
  rw [Nat.zero_testBit]
  by_cases hj : j < 64
  · rw [lo_bit _ j hj, List.getD_eq_getElem?_getD, List.getElem?_replicate]
    split <;> rfl
  · exact lo_bit' _ j (by omega)
theorem hi_none (n : Nat) : hi (List.replicate n false) = 0 := by
  refine Nat.eq_of_testBit_eq fun j => ?_
  rw [Nat.zero_testBit, hi_bit, List.getD_eq_getElem?_getD, List.getElem?_replicate]
  split <;> rfl

/-- Is page i taken? -/
def tk (l : List Bool) (i : Int) : Bool := decide (0 ≤ i) && l.getD i.toNat false
theorem tk_nat (l : List Bool) (i : Nat) : tk l (i : Int) = l.getD i false := by simp [tk]
theorem tk_neg (l : List Bool) (i : Int) (h : i < 0) : tk l i = false := by
  unfold tk
  rw [show decide (0 ≤ i) = false from by simp; omega]
  rfl
theorem tk_out (l : List Bool) (i : Int) (h : (l.length : Int) ≤ i) : tk l i = false := by
  unfold tk
  rw [List.getD_eq_getElem?_getD, List.getElem?_eq_none (by omega)]
  simp
end Go.Proofs.Ytfmjnjhocpoafaa
