/-
  The plain mathematics of a burst that is laid bit by bit.
  Conditions: none beyond those that each theorem names.
-/
import Derived.Test.YtnnbodbcnbcbnaaSeal
namespace Go.Proofs.Ytnnbodbcnbcbnaa
open Crc (regI)

/-- The bits of t are those of s, but for the first k of the burst. -/
def Burst (s t : List UInt8) (n mask k : Nat) : Prop :=
  s.length = t.length ∧ ∀ i (_ : i < 8 * s.length) (_ : i < 8 * t.length), (t[i / 8]'(by omega)).toNat.testBit (i % 8) = ((s[i / 8]'(by omega)).toNat.testBit (i % 8) ^^ (decide (n ≤ i) && decide (i < n + k) && mask.testBit (i - n)))

theorem burst_none (s : List UInt8) (n mask : Nat) : Burst s s n mask 0 := by
  refine ⟨rfl, fun i h _ => ?_⟩
  by_cases e : n ≤ i
  · have : ¬ i < n := by omega
    simp [this]
  · simp [e]

def flip (t : List UInt8) (i : Nat) (h : i / 8 < t.length) : List UInt8 := t.set (i / 8) (UInt8.ofNat (t[i / 8].toNat ^^^ 2 ^ (i % 8)))
theorem flip_length (t : List UInt8) (i : Nat) (h : i / 8 < t.length) : (flip t i h).length = t.length := by simp [flip]
theorem pow_lt8 {j : Nat} (h : j < 8) : 2 ^ j < 256 := Nat.pow_lt_pow_right (by omega) h
theorem toNat_flip (b : UInt8) (j : Nat) (h : j < 8) : (UInt8.ofNat (b.toNat ^^^ 2 ^ j)).toNat = b.toNat ^^^ 2 ^ j := by
  rw [UInt8.toNat_ofNat']
  exact Nat.mod_eq_of_lt (Nat.xor_lt_two_pow b.toNat_lt (pow_lt8 h))
theorem turn_val (b : UInt8) (j : Nat) (h : j < 8) : Go.bits .xor .u8 (b.toNat : Int) ((2 : Int) ^ j % 256) = ((UInt8.ofNat (b.toNat ^^^ 2 ^ j)).toNat : Int) := by
  rw [toNat_flip b j h]
  have e : (2 : Int) ^ j % 256 = ((2 ^ j : Nat) : Int) := by
    have h1 := pow_lt8 h
    rw [show (2 : Int) ^ j = ((2 ^ j : Nat) : Int) from by rw [Int.natCast_pow]; rfl]
    generalize 2 ^ j = q at h1
    omega
  rw [e]
  exact u8_xor_nat _ _ b.toNat_lt (pow_lt8 h)
theorem flip_bit (t : List UInt8) (q : Nat) (hq : q / 8 < t.length) (i : Nat) (hi : i / 8 < t.length) :
    ((flip t q hq)[i / 8]'(by rw [flip_length]; exact hi)).toNat.testBit (i % 8) = (t[i / 8].toNat.testBit (i % 8) ^^ decide (i = q)) := by
  unfold flip
  rw [List.getElem_set]
  split
  · rename_i h
    rw [toNat_flip _ _ (Nat.mod_lt _ (by omega)), Nat.testBit_xor, Nat.testBit_two_pow]
    have e : (q % 8 = i % 8) = (i = q) := by apply propext; omega
    simp only [e, h]
  · rename_i h
    have e : ¬ i = q := fun e => h (by rw [e])
    simp [e]
theorem mask_bit {mask k : Nat} {z : Bool} (hm : mask < 4294967296) (h : (Go.bits .and .u32 ((mask : Int) / 2 ^ k) 1 == 1) = z) : mask.testBit k = z := by
  have e : (mask : Int) / 2 ^ k = regI (mask / 2 ^ k) := by unfold regI; rw [Int.natCast_ediv, Int.natCast_pow]; rfl
  have hb : mask / 2 ^ k ≤ mask := Nat.div_le_self _ _
  rw [e, Crc.and_one (by omega), Nat.testBit_div_two_pow, Nat.zero_add] at h
  rw [← h]
  cases mask.testBit k <;> rfl
theorem burst_yes {s t : List UInt8} {n mask k : Nat} (h : Burst s t n mask k) (hq : (n + k) / 8 < t.length) (hb : mask.testBit k = true) : Burst s (flip t (n + k) hq) n mask (k + 1) := by
  refine ⟨by rw [flip_length]; exact h.1, fun i h1 h2 => ?_⟩
  have hl := h.1
  rw [flip_bit t (n + k) hq i (by omega), h.2 i h1 (by omega)]
  by_cases e : i = n + k
  · subst e
    have e1 : n + k - n = k := by omega
    simp [e1, hb]
  · have e2 : decide (i < n + (k + 1)) = decide (i < n + k) := by rw [Bool.eq_iff_iff]; simp; omega
    simp [e, e2]
theorem burst_no {s t : List UInt8} {n mask k : Nat} (h : Burst s t n mask k) (hb : mask.testBit k = false) : Burst s t n mask (k + 1) := by
  refine ⟨h.1, fun i h1 h2 => ?_⟩
  rw [h.2 i h1 h2]
  by_cases e : i = n + k
  · subst e
    have e1 : n + k - n = k := by omega
    simp [e1, hb]
  · have e2 : decide (i < n + (k + 1)) = decide (i < n + k) := by rw [Bool.eq_iff_iff]; simp; omega
    rw [e2]
/-- What a burst was laid into is not sealed. -/
theorem burst_unsealed (l t : List UInt8) (n mask : Nat) (h : Burst (sealL l) t n mask 32) (hn : n + 32 ≤ 8 * (l.length + 4)) (hm : mask < 4294967296) (h0 : mask ≠ 0) :
    (t.drop l.length == Crc.le4 (Crc.sumN (t.take l.length))) = false := by
  rw [beq_eq_false_iff_ne]
  intro e
  have ht : t = t.take l.length ++ Crc.le4 (Crc.sumN (t.take l.length)) := by rw [← e, List.take_append_drop]
  have hl := h.1
  refine Crc.burst_told l (t.take l.length) (sealL l) t n mask rfl ht hl (by rw [sealL_length]; exact hn) (by simpa using hm) h0 (fun i hi => ?_)
  exact h.2 i hi (by omega)
end Go.Proofs.Ytnnbodbcnbcbnaa
