/-
  The plain mathematics of CRC-32C: the register is linear, and no burst of at most 32 bits is lost. No program is named here.
  Conditions: none beyond those that each theorem names.
-/
import Derived.WalkKit
namespace Go.Proofs.YtihlmjknhgnjpaaDoor.Crc

/-- Castagnoli's polynomial, the lowest bit first. -/
def poly : Nat := 2197175160
def ones : Nat := 4294967295

/-- One bit into the register. -/
def stp (r : Nat) (b : Bool) : Nat := (r >>> 1) ^^^ (if (r.testBit 0 != b) = true then poly else 0)
def feed (r : Nat) (bs : List Bool) : Nat := bs.foldl stp r

theorem poly_lt : poly < 2 ^ 32 := by decide
theorem stp_lt {r : Nat} (h : r < 2 ^ 32) (b : Bool) : stp r b < 2 ^ 32 := by
  unfold stp
  refine Nat.xor_lt_two_pow ?_ ?_
  · rw [Nat.shiftRight_eq_div_pow]; omega
  · split
    · exact poly_lt
    · decide
theorem feed_lt (bs : List Bool) : ∀ {r : Nat}, r < 2 ^ 32 → feed r bs < 2 ^ 32 := by
  induction bs with
  | nil => intro r h; exact h
  | cons b bs ih => intro r h; exact ih (stp_lt h b)
theorem feed_append (r : Nat) (bs cs : List Bool) : feed r (bs ++ cs) = feed (feed r bs) cs := by simp [feed]
theorem feed_cons (r : Nat) (b : Bool) (bs : List Bool) : feed r (b :: bs) = feed (stp r b) bs := rfl

theorem pick_xor (x y : Bool) : (if (x ^^ y) = true then poly else 0) = (if x = true then poly else 0) ^^^ (if y = true then poly else 0) := by
  cases x <;> cases y <;> simp

theorem stp_xor (r s : Nat) (b c : Bool) : stp (r ^^^ s) (b ^^ c) = stp r b ^^^ stp s c := by
  unfold stp
  have e : ((r ^^^ s).testBit 0 != (b ^^ c)) = ((r.testBit 0 != b) ^^ (s.testBit 0 != c)) := by
    rw [Nat.testBit_xor]
    cases r.testBit 0 <;> cases s.testBit 0 <;> cases b <;> cases c <;> rfl
  rw [e, pick_xor, Nat.shiftRight_xor_distrib]
  generalize r >>> 1 = p
  generalize s >>> 1 = q
  generalize (if (r.testBit 0 != b) = true then poly else 0) = x
  generalize (if (s.testBit 0 != c) = true then poly else 0) = y
  rw [Nat.xor_assoc, Nat.xor_assoc, ← Nat.xor_assoc q, Nat.xor_comm q x, Nat.xor_assoc x]

theorem feed_xor : ∀ (bs cs : List Bool), bs.length = cs.length → ∀ r s, feed (r ^^^ s) (List.zipWith (· ^^ ·) bs cs) = feed r bs ^^^ feed s cs
  | [], [], _, r, s => rfl
  | b :: bs, c :: cs, h, r, s => by
    rw [List.zipWith_cons_cons, feed_cons, feed_cons, feed_cons, stp_xor]
    exact feed_xor bs cs (by simpa using h) _ _

/-- Zeros lose nothing. -/
theorem stp_zero {r : Nat} (h : r < 2 ^ 32) (h0 : stp r false = 0) : r = 0 := by
  have hb : r.testBit 0 = false := by
    have h1 : (stp r false).testBit 31 = false := by rw [h0]; exact Nat.zero_testBit 31
    unfold stp at h1
    rw [Nat.testBit_xor, Nat.testBit_shiftRight] at h1
    rw [Nat.testBit_lt_two_pow (show r < 2 ^ (1 + 31) from h)] at h1
    cases hr : r.testBit 0 with
    | false => rfl
    | true =>
      rw [hr] at h1
      exact absurd h1 (by decide)
  unfold stp at h0
  rw [hb] at h0
  simp at h0
  simp [Nat.testBit_zero] at hb
  omega

def zeros (r : Nat) (n : Nat) : Nat := feed r (List.replicate n false)
theorem zeros_succ (r n : Nat) : zeros r (n + 1) = zeros (stp r false) n := by simp [zeros, List.replicate_succ, feed]
theorem zeros_zero (n : Nat) : zeros 0 n = 0 := by
  induction n with
  | zero => rfl
  | succ n ih => rw [zeros_succ]; exact ih
theorem zeros_ne {r : Nat} (h : r < 2 ^ 32) (hne : r ≠ 0) (n : Nat) : zeros r n ≠ 0 := by
  induction n generalizing r with
  | zero => exact hne
  | succ n ih =>
    rw [zeros_succ]
    exact ih (stp_lt h false) (fun h0 => hne (stp_zero h h0))

/-- The n lowest bits of X, the lowest first. -/
def bits (n X : Nat) : List Bool := (List.range n).map fun k => X.testBit k
theorem bits_length (n X : Nat) : (bits n X).length = n := by simp [bits]
theorem bits_succ (n X : Nat) : bits (n + 1) X = X.testBit 0 :: bits n (X / 2) := by
  unfold bits
  rw [List.range_succ_eq_map, List.map_cons, List.map_map]
  congr 1
  apply List.map_congr_left
  intro k _
  simp [Nat.testBit_succ]

/-- Bits that are fed one after the other are the same as their number XORed in, and zeros fed. -/
theorem feed_bits (n : Nat) : ∀ (r X : Nat), X < 2 ^ n → feed r (bits n X) = zeros (r ^^^ X) n := by
  induction n with
  | zero =>
    intro r X h
    have : X = 0 := by omega
    subst this
    simp [bits, feed, zeros]
  | succ n ih =>
    intro r X h
    rw [bits_succ, feed_cons, ih _ _ (by rw [Nat.pow_succ] at h; omega), zeros_succ]
    congr 1
    unfold stp
    rw [Nat.shiftRight_xor_distrib, Nat.testBit_xor]
    have e1 : X >>> 1 = X / 2 := by rw [Nat.shiftRight_eq_div_pow]
    have e2 : ((r.testBit 0 ^^ X.testBit 0) != false) = (r.testBit 0 != X.testBit 0) := by cases r.testBit 0 <;> cases X.testBit 0 <;> rfl
    rw [e1, e2, Nat.xor_assoc, Nat.xor_assoc, Nat.xor_comm (X / 2)]

theorem feed_zeros (r n : Nat) : feed r (List.replicate n false) = zeros r n := rfl

/-- A burst: zeros, 32 bits that are not all zero, zeros: the register is not zero behind it. -/
theorem burst_ne (n m mask : Nat) (h : mask < 2 ^ 32) (hne : mask ≠ 0) : feed 0 (List.replicate n false ++ bits 32 mask ++ List.replicate m false) ≠ 0 := by
  rw [feed_append, feed_append, feed_zeros 0 n, zeros_zero, feed_bits 32 0 mask h, Nat.zero_xor, feed_zeros]
  exact zeros_ne (feed_lt _ h) (zeros_ne h hne 32) m

/-! ### Bytes -/
def byteBits (b : UInt8) : List Bool := bits 8 b.toNat
def allBits (l : List UInt8) : List Bool := l.flatMap byteBits
theorem allBits_append (l m : List UInt8) : allBits (l ++ m) = allBits l ++ allBits m := by simp [allBits]
theorem allBits_cons (b : UInt8) (l : List UInt8) : allBits (b :: l) = byteBits b ++ allBits l := by simp [allBits]
theorem allBits_length (l : List UInt8) : (allBits l).length = 8 * l.length := by
  induction l with
  | nil => rfl
  | cons b l ih =>
    rw [allBits_cons, List.length_append, ih, byteBits, bits_length, List.length_cons]
    omega
theorem allBits_get (l : List UInt8) : ∀ (i : Nat) (h : i < 8 * l.length), (allBits l)[i]? = some ((l[i / 8]'(by omega)).toNat.testBit (i % 8)) := by
  induction l with
  | nil => intro i h; simp at h
  | cons b l ih =>
    intro i h
    rw [allBits_cons, List.getElem?_append]
    rw [byteBits, bits_length]
    split
    · rename_i h8
      have e1 : i / 8 = 0 := by omega
      have e2 : i % 8 = i := by omega
      simp [bits, h8, e1, e2]
    · rename_i h8
      rw [List.length_cons] at h
      rw [ih (i - 8) (by omega)]
      have e1 : i / 8 = (i - 8) / 8 + 1 := by omega
      have e2 : (i - 8) % 8 = i % 8 := by omega
      simp only [e1, e2, List.getElem_cons_succ]

/-- The register behind the bytes, and the checksum. -/
def reg (r : Nat) (l : List UInt8) : Nat := feed r (allBits l)
def sumN (l : List UInt8) : Nat := ones ^^^ reg ones l
theorem reg_append (r : Nat) (l m : List UInt8) : reg r (l ++ m) = reg (reg r l) m := by simp [reg, allBits_append, feed_append]
theorem reg_lt {r : Nat} (h : r < 2 ^ 32) (l : List UInt8) : reg r l < 2 ^ 32 := feed_lt _ h
theorem sumN_lt (l : List UInt8) : sumN l < 2 ^ 32 := Nat.xor_lt_two_pow (by decide) (reg_lt (by decide) l)
theorem ones_xor_self (x : Nat) : ones ^^^ (ones ^^^ x) = x := by rw [← Nat.xor_assoc, Nat.xor_self, Nat.zero_xor]

/-- Four bytes, the lowest first. -/
def le4 (x : Nat) : List UInt8 := [UInt8.ofNat x, UInt8.ofNat (x >>> 8), UInt8.ofNat (x >>> 16), UInt8.ofNat (x >>> 24)]
theorem byteBits_shift (x k : Nat) : byteBits (UInt8.ofNat (x >>> k)) = (List.range 8).map fun i => x.testBit (k + i) := by
  unfold byteBits bits
  apply List.map_congr_left
  intro i hi
  have : i < 8 := by simpa using hi
  rw [UInt8.toNat_ofNat', show (2 : Nat) ^ 8 = 2 ^ 8 from rfl, Nat.testBit_mod_two_pow, Nat.testBit_shiftRight]
  simp [this]
theorem allBits_le4 (x : Nat) : allBits (le4 x) = bits 32 x := by
  have h0 := byteBits_shift x 0
  rw [Nat.shiftRight_zero] at h0
  simp only [le4, allBits, List.flatMap_cons, List.flatMap_nil, List.append_nil, h0, byteBits_shift]
  rfl

/-- What is sealed leaves the same register, whatever the bytes. -/
theorem sealed_reg (l : List UInt8) : reg ones (l ++ le4 (sumN l)) = zeros ones 32 := by
  rw [reg_append, reg, allBits_le4, feed_bits 32 _ _ (sumN_lt l)]
  congr 1
  rw [sumN, Nat.xor_comm ones, ← Nat.xor_assoc, Nat.xor_self, Nat.zero_xor]

/-- **No burst is lost.** If t is s with a burst of at most 32 bits in it, and s is sealed, t is not. -/
theorem burst_told (l m s t : List UInt8) (n mask : Nat) (hs : s = l ++ le4 (sumN l)) (ht : t = m ++ le4 (sumN m)) (hl : s.length = t.length) (hn : n + 32 ≤ 8 * s.length) (hm : mask < 2 ^ 32) (hne : mask ≠ 0)
    (hb : ∀ i (h : i < 8 * s.length), (t[i / 8]'(by omega)).toNat.testBit (i % 8) = ((s[i / 8]'(by omega)).toNat.testBit (i % 8) ^^ (decide (n ≤ i) && decide (i < n + 32) && mask.testBit (i - n)))) : False := by
  have h1 := sealed_reg l
  have h2 := sealed_reg m
  rw [← hs] at h1
  rw [← ht] at h2
  let e := List.replicate n false ++ bits 32 mask ++ List.replicate (8 * s.length - n - 32) false
  have hel : e.length = 8 * s.length := by
    show (List.replicate n false ++ bits 32 mask ++ List.replicate (8 * s.length - n - 32) false).length = _
    rw [List.length_append, List.length_append, List.length_replicate, bits_length, List.length_replicate]
    omega
  have hz : allBits t = List.zipWith (· ^^ ·) (allBits s) e := by
    apply List.ext_getElem?
    intro i
    rw [List.getElem?_zipWith]
    by_cases hi : i < 8 * s.length
    · rw [allBits_get t i (by omega), allBits_get s i hi, hb i hi]
      have he : e[i]? = some (decide (n ≤ i) && decide (i < n + 32) && mask.testBit (i - n)) := by
        show (List.replicate n false ++ bits 32 mask ++ List.replicate (8 * s.length - n - 32) false)[i]? = _
        rw [List.getElem?_append, List.length_append, List.length_replicate, bits_length]
        split
        · rename_i h3
          rw [List.getElem?_append, List.length_replicate]
          split
          · rename_i h4
            have : ¬ n ≤ i := by omega
            simp [h4, this]
          · rename_i h4
            have h5 : n ≤ i := by omega
            have h6 : i - n < 32 := by omega
            simp [bits, h3, h5, h6]
        · rename_i h3
          have h4 : i - (n + 32) < 8 * s.length - n - 32 := by omega
          have : ¬ i < n + 32 := h3
          simp [h4, this]
      rw [he]
    · rw [List.getElem?_eq_none (by rw [allBits_length]; omega), List.getElem?_eq_none (by rw [allBits_length]; omega)]
  have h3 := feed_xor (allBits s) e (by rw [allBits_length, hel]) ones 0
  rw [Nat.xor_zero, ← hz] at h3
  have h4 : reg ones t = reg ones s ^^^ feed 0 e := h3
  rw [h1, h2] at h4
  have h5 : feed 0 e = 0 := by
    have := congrArg (zeros ones 32 ^^^ ·) h4
    simpa [← Nat.xor_assoc] using this.symm
  exact burst_ne n _ mask hm hne h5
end Go.Proofs.YtihlmjknhgnjpaaDoor.Crc
