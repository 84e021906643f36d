/-
  The plain mathematics of big-endian numbers and fields: no program is named here.
  Conditions: none beyond those that each theorem names.
-/
import Derived.WalkKit
namespace Go.Proofs.Ytgjkbnplpioloaa

/-- Bytes as the cells of a []byte. -/
def BC (l : List UInt8) : List Value := l.map fun b => Value.int .u8 b.toNat

theorem BC_length (l : List UInt8) : (BC l).length = l.length := by simp [BC]
theorem BC_append (l m : List UInt8) : BC (l ++ m) = BC l ++ BC m := by simp [BC]
theorem BC_get (l : List UInt8) (k : Nat) (h : k < l.length) : (BC l)[k]? = some (.int .u8 (l[k].toNat : Nat)) := by simp [BC, h]
theorem BC_one (l : List UInt8) : ∀ u ∈ BC l, u.oneCell' = true := by
  intro u hu
  obtain ⟨b, _, rfl⟩ := List.mem_map.1 hu
  rfl
theorem BC_take (l : List UInt8) (k : Nat) : (BC l).take k = BC (l.take k) := by simp [BC, List.map_take]
theorem BC_drop (l : List UInt8) (k : Nat) : (BC l).drop k = BC (l.drop k) := by simp [BC, List.map_drop]
theorem BC_zeros (m : Nat) : List.replicate m (Value.int .u8 0) = BC (List.replicate m 0) := by simp [BC]

/-- The big-endian number in the bytes, modulo 2^64. -/
def getN (l : List UInt8) : Nat := l.foldl (fun n b => (n * 256 + b.toNat) % 18446744073709551616) 0
def getI (l : List UInt8) : Int := (getN l : Nat)
theorem getN_lt (l : List UInt8) : getN l < 18446744073709551616 := by
  rcases List.eq_nil_or_concat l with rfl | ⟨m, b, rfl⟩
  · simp [getN]
  · simp only [getN, List.concat_eq_append, List.foldl_append, List.foldl_cons, List.foldl_nil]
    exact Nat.mod_lt _ (by decide)
theorem getN_snoc (l : List UInt8) (b : UInt8) : getN (l ++ [b]) = (getN l * 256 + b.toNat) % 18446744073709551616 := by
  simp [getN, List.foldl_append]

theorem getI_bounds (l : List UInt8) : 0 ≤ getI l ∧ getI l < 18446744073709551616 := by
  have := getN_lt l
  unfold getI
  omega
theorem u8_lt (b : UInt8) : b.toNat < 256 := b.toNat_lt
/-- n<<8 | b, as the walk writes it. -/
theorem getI_or (l : List UInt8) (b : UInt8) :
    bits BinOp.or IntKind.u64 (IntKind.u64.wrap (getI l * 256)) (IntKind.u64.wrap (b.toNat : Int)) = getI (l ++ [b]) := by
  have hb := u8_lt b
  have e1 : IntKind.u64.wrap (getI l * 256) = (((getN l % 72057594037927936) <<< 8 : Nat) : Int) := by
    rw [IntKind.wrap_u64, getI, Nat.shiftLeft_eq]
    omega
  have e2 : IntKind.u64.wrap (b.toNat : Int) = (b.toNat : Int) := by rw [IntKind.wrap_u64]; omega
  have hlt : (getN l % 72057594037927936) <<< 8 < 18446744073709551616 := by rw [Nat.shiftLeft_eq]; omega
  rw [e1, e2, u64_or_nat _ _ hlt (by omega), ← Nat.shiftLeft_add_eq_or_of_lt (by simpa using hb), getI, getN_snoc, Nat.shiftLeft_eq]
  omega
/-- n*256 + b, as the walk writes it. -/
theorem getI_add (l : List UInt8) (b : UInt8) :
    IntKind.u64.wrap (IntKind.u64.wrap (getI l * 256) + IntKind.u64.wrap (b.toNat : Int)) = getI (l ++ [b]) := by
  have hb := u8_lt b
  rw [IntKind.wrap_u64, IntKind.wrap_u64, IntKind.wrap_u64, getI, getI, getN_snoc]
  omega

theorem take_snoc (l : List UInt8) (k : Nat) (h : k < l.length) : l.take (k + 1) = l.take k ++ [l[k]] := by
  rw [List.take_succ_eq_append_getElem h]


/-- The size lowest bytes of n, the highest first. -/
def putL : Nat → Nat → List UInt8
  | _, 0 => []
  | n, k + 1 => putL (n / 256) k ++ [UInt8.ofNat (n % 256)]
theorem putL_length (k : Nat) : ∀ n, (putL n k).length = k := by
  induction k with
  | zero => intro n; rfl
  | succ k ih => intro n; simp [putL, ih]
theorem putL_cons (k : Nat) : ∀ n, putL n (k + 1) = UInt8.ofNat (n / 256 ^ k % 256) :: putL n k := by
  induction k with
  | zero => intro n; simp [putL]
  | succ k ih =>
    intro n
    rw [putL, ih (n / 256), putL, List.cons_append, Nat.div_div_eq_div_mul, Nat.pow_succ', ]
theorem putL_high (k n : Nat) (hn : n < 18446744073709551616) (hk : 8 ≤ k) : putL n (k + 1) = 0 :: putL n k := by
  rw [putL_cons]
  have h : (256 : Nat) ^ 8 ≤ 256 ^ k := Nat.pow_le_pow_right (by omega) hk
  rw [Nat.div_eq_of_lt (by omega)]
  rfl
theorem toNat_ofNat_mod (m : Nat) : (UInt8.ofNat (m % 256)).toNat = m % 256 := by
  simp [UInt8.toNat_ofNat']
theorem u8_ofNat_mod (m : Nat) : UInt8.ofNat (m % 256) = UInt8.ofNat m := by
  apply UInt8.toNat_inj.1
  simp [UInt8.toNat_ofNat']

/-- byte(n >> (8 * (t - 1))), as the walk writes it. -/
theorem put_byte (n : Nat) (t : Int) (h : 0 < t) : ((n : Int) / 2 ^ (8 * (t - 1)).toNat % 256) = ((UInt8.ofNat (n / 256 ^ (t - 1).toNat % 256)).toNat : Int) := by
  obtain ⟨k, hk⟩ : ∃ k : Nat, t - 1 = k := ⟨(t - 1).toNat, by omega⟩
  rw [hk, toNat_ofNat_mod, show (8 * (k : Int)).toNat = 8 * k from by omega, Int.toNat_natCast]
  have e : ((2 : Int) ^ (8 * k)) = ((256 ^ k : Nat) : Int) := by
    rw [Int.pow_mul, Int.natCast_pow]
    rfl
  rw [e, Int.natCast_emod, Int.natCast_ediv]
  rfl

/-- The field of the bytes s in so many bytes. -/
def fieldL (s : List UInt8) (size : Nat) : List UInt8 := UInt8.ofNat s.length :: s ++ List.replicate (size - 1 - s.length) 0
theorem fieldL_length (s : List UInt8) (size : Nat) (h : s.length < size) : (fieldL s size).length = size := by
  simp [fieldL]; omega

def strOf (l : List UInt8) : ByteArray := ⟨l.toArray⟩
theorem strOf_toList (l : List UInt8) : (strOf l).data.toList = l := rfl

end Go.Proofs.Ytgjkbnplpioloaa
