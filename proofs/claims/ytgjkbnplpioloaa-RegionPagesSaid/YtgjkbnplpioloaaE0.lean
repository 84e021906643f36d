/-
  The plain mathematics of points as bytes: what a reader's state is behind each call, and that encoding and decoding are inverse.
  Conditions: none beyond those that each theorem names.
-/
import Derived.Test.YtgjkbnplpioloaaWReader
namespace Go.Proofs.Ytgjkbnplpioloaa

/-! ### Numbers there and back -/
theorem getN_put (k : Nat) : ∀ n, getN (putL n k) = n % 256 ^ k % 18446744073709551616 := by
  induction k with
  | zero => intro n; simp [putL, getN, Nat.mod_one]
  | succ k ih =>
    intro n
    rw [putL, getN_snoc, ih, toNat_ofNat_mod, Nat.pow_succ', Nat.mod_mul]
    omega
theorem getN_put8 (n : Nat) (h : n < 18446744073709551616) : getN (putL n 8) = n := by
  rw [getN_put, show (256 : Nat) ^ 8 = 18446744073709551616 from rfl]
  omega
theorem getN_put4 (n : Nat) (h : n < 4294967296) : getN (putL n 4) = n := by
  rw [getN_put, show (256 : Nat) ^ 4 = 4294967296 from rfl]
  omega
theorem getN_one (b : UInt8) : getN [b] = b.toNat := by
  have := u8_lt b
  simp [getN]
theorem snoc_ind {α : Type} {p : List α → Prop} (h0 : p []) (h1 : ∀ l a, p l → p (l ++ [a])) : ∀ l, p l := by
  intro l
  have : ∀ n (l : List α), l.length = n → p l := by
    intro n
    induction n with
    | zero => intro l h; rw [List.eq_nil_of_length_eq_zero h]; exact h0
    | succ n ih =>
      intro l h
      rcases List.eq_nil_or_concat l with rfl | ⟨m, b, rfl⟩
      · simp at h
      · rw [List.concat_eq_append] at h ⊢
        exact h1 m b (ih m (by simpa using h))
  exact this _ l rfl
theorem getN_small (l : List UInt8) : l.length ≤ 8 → getN l < 256 ^ l.length := by
  refine snoc_ind (p := fun l => l.length ≤ 8 → getN l < 256 ^ l.length) (by simp [getN]) ?_ l
  intro l b ih h
  have h1 : l.length ≤ 7 := by simp at h; omega
  have := ih (by omega)
  have hb := u8_lt b
  rw [getN_snoc, List.length_append, List.length_singleton, Nat.pow_succ]
  have : getN l * 256 + b.toNat < 256 ^ l.length * 256 := by omega
  exact Nat.lt_of_le_of_lt (Nat.mod_le _ _) this
theorem put_getN (l : List UInt8) : l.length ≤ 8 → putL (getN l) l.length = l := by
  refine snoc_ind (p := fun l => l.length ≤ 8 → putL (getN l) l.length = l) (by simp [putL]) ?_ l
  intro l b ih h
  have h1 : l.length ≤ 7 := by simp at h; omega
  have hs := getN_small l (by omega)
  have hb := u8_lt b
  have hp : 256 ^ l.length ≤ 256 ^ 7 := Nat.pow_le_pow_right (by omega) h1
  have e : (getN l * 256 + b.toNat) % 18446744073709551616 = getN l * 256 + b.toNat := Nat.mod_eq_of_lt (by omega)
  rw [getN_snoc, List.length_append, List.length_singleton, e, putL, show (getN l * 256 + b.toNat) / 256 = getN l from by omega, ih (by omega), u8_ofNat_mod]
  congr 2
  apply UInt8.toNat_inj.1
  rw [UInt8.toNat_ofNat']
  omega
theorem put_getN' {l : List UInt8} {k : Nat} (h : l.length = k) (hk : k ≤ 8) : putL (getN l) k = l := by
  subst h; exact put_getN l hk

/-! ### A reader's state: what is left, and whether it has failed -/
abbrev RS := List UInt8 × Bool
def can (k : Nat) (s : RS) : Bool := !s.2 && decide (k ≤ s.1.length)
def nx (k : Nat) (s : RS) : RS := if can k s = true then (s.1.drop k, false) else (s.1, true)
def tk (k : Nat) (s : RS) : List UInt8 := if can k s = true then s.1.take k else []
def vl (k : Nat) (s : RS) : Nat := getN (tk k s)
theorem nx_len (k : Nat) (s : RS) : (nx k s).1.length ≤ s.1.length := by
  unfold nx; split <;> simp
theorem can_app {k : Nat} {l m : List UInt8} (h : l.length = k) : can k (l ++ m, false) = true := by simp [can]; omega
theorem nx_app {k : Nat} {l m : List UInt8} (h : l.length = k) : nx k (l ++ m, false) = (m, false) := by
  rw [nx, if_pos (can_app h)]; simp [← h]
theorem tk_app {k : Nat} {l m : List UInt8} (h : l.length = k) : tk k (l ++ m, false) = l := by
  rw [tk, if_pos (can_app h)]; simp [← h]
theorem nx_inv {k : Nat} {s : RS} (h : (nx k s).2 = false) : s = (tk k s ++ (nx k s).1, false) ∧ (tk k s).length = k := by
  unfold nx at h ⊢
  unfold tk
  by_cases hc : can k s = true
  · rw [if_pos hc] at h ⊢
    rw [if_pos hc]
    obtain ⟨l, b⟩ := s
    simp [can] at hc
    obtain ⟨rfl, hk⟩ := hc
    simp
    omega
  · rw [if_neg hc] at h
    simp at h
theorem tk_len (k : Nat) (s : RS) : (tk k s).length ≤ k := by
  unfold tk; split
  · rw [List.length_take]; omega
  · simp
theorem vl_lt8 (s : RS) : vl 8 s < 18446744073709551616 := getN_lt _
theorem vl_lt4 (s : RS) : vl 4 s < 4294967296 := by
  have h := tk_len 4 s
  have := getN_small (tk 4 s) (by omega)
  have h2 : 256 ^ (tk 4 s).length ≤ 256 ^ 4 := Nat.pow_le_pow_right (by omega) h
  unfold vl
  omega
theorem vl_lt1 (s : RS) : vl 1 s < 256 := by
  have h := tk_len 1 s
  have := getN_small (tk 1 s) (by omega)
  have h2 : 256 ^ (tk 1 s).length ≤ 256 ^ 1 := Nat.pow_le_pow_right (by omega) h
  unfold vl
  omega

/-! ### Points -/
structure Rc where
  x : Nat
  y : Nat
  id : Nat
  key : Nat
  deriving DecidableEq
def zrc : Rc := ⟨0, 0, 0, 0⟩
structure Rc.ok (r : Rc) : Prop where
  x : r.x < 4294967296
  y : r.y < 4294967296
  id : r.id < 18446744073709551616
  key : r.key < 18446744073709551616
def recL (r : Rc) : List UInt8 := putL r.x 4 ++ (putL r.y 4 ++ (putL r.id 8 ++ putL r.key 8))
theorem recL_length (r : Rc) : (recL r).length = 24 := by
  simp [recL, putL_length]
def sameR (a b : Rc) : Bool := a.x == b.x && (a.y == b.y && (a.id == b.id && a.key == b.key))
theorem sameR_iff (a b : Rc) : sameR a b = true ↔ a = b := by
  cases a; cases b
  simp [sameR]
theorem sameR_refl (a : Rc) : sameR a a = true := (sameR_iff a a).2 rfl

def q1 (s : RS) : RS := nx 4 s
def q2 (s : RS) : RS := nx 4 (q1 s)
def q3 (s : RS) : RS := nx 8 (q2 s)
def q4 (s : RS) : RS := nx 8 (q3 s)
def rrRec (s : RS) : Rc := ⟨vl 4 s, vl 4 (q1 s), vl 8 (q2 s), vl 8 (q3 s)⟩
theorem q4_len (s : RS) : (q4 s).1.length ≤ s.1.length :=
  Nat.le_trans (nx_len 8 _) (Nat.le_trans (nx_len 8 _) (Nat.le_trans (nx_len 4 _) (nx_len 4 _)))
theorem nx_failed (k : Nat) {s : RS} (h : s.2 = true) : (nx k s).2 = true := by
  unfold nx can
  simp [h]
theorem q4_failed {s : RS} (h : s.2 = true) : (q4 s).2 = true := nx_failed 8 (nx_failed 8 (nx_failed 4 (nx_failed 4 h)))
theorem rrRec_ok (s : RS) : (rrRec s).ok := ⟨vl_lt4 _, vl_lt4 _, vl_lt8 _, vl_lt8 _⟩
theorem rr_put (r : Rc) (m : List UInt8) (hr : r.ok) : rrRec (recL r ++ m, false) = r ∧ q4 (recL r ++ m, false) = (m, false) := by
  have e0 : recL r ++ m = putL r.x 4 ++ (putL r.y 4 ++ (putL r.id 8 ++ (putL r.key 8 ++ m))) := by simp [recL]
  have e1 : q1 (recL r ++ m, false) = (putL r.y 4 ++ (putL r.id 8 ++ (putL r.key 8 ++ m)), false) := by rw [q1, e0, nx_app (putL_length 4 _)]
  have e2 : q2 (recL r ++ m, false) = (putL r.id 8 ++ (putL r.key 8 ++ m), false) := by rw [q2, e1, nx_app (putL_length 4 _)]
  have e3 : q3 (recL r ++ m, false) = (putL r.key 8 ++ m, false) := by rw [q3, e2, nx_app (putL_length 8 _)]
  have e4 : q4 (recL r ++ m, false) = (m, false) := by rw [q4, e3, nx_app (putL_length 8 _)]
  refine ⟨?_, e4⟩
  rw [rrRec, e1, e2, e3, e0, vl, tk_app (putL_length 4 _), vl, tk_app (putL_length 4 _), vl, tk_app (putL_length 8 _), vl, tk_app (putL_length 8 _),
      getN_put8 _ hr.id, getN_put8 _ hr.key, getN_put4 _ hr.x, getN_put4 _ hr.y]
theorem rr_inv {s : RS} (h4 : (q4 s).2 = false) : s = (recL (rrRec s) ++ (q4 s).1, false) := by
  obtain ⟨i3, l3⟩ := nx_inv (s := q3 s) h4
  have f3 : (q3 s).2 = false := by rw [i3]
  obtain ⟨i2, l2⟩ := nx_inv (s := q2 s) f3
  have f2 : (q2 s).2 = false := by rw [i2]
  obtain ⟨i1, l1⟩ := nx_inv (s := q1 s) f2
  have f1 : (q1 s).2 = false := by rw [i1]
  obtain ⟨i0, l0⟩ := nx_inv (s := s) f1
  have er : recL (rrRec s) = tk 4 s ++ (tk 4 (q1 s) ++ (tk 8 (q2 s) ++ tk 8 (q3 s))) := by
    simp only [recL, rrRec]
    rw [vl, vl, vl, vl, put_getN' l0 (by omega), put_getN' l1 (by omega), put_getN' l2 (by omega), put_getN' l3 (by omega)]
  rw [er]
  have e3' : (q3 s).1 = tk 8 (q3 s) ++ (q4 s).1 := by conv => lhs; rw [i3]
                                                      rfl
  have e2' : (q2 s).1 = tk 8 (q2 s) ++ (q3 s).1 := by conv => lhs; rw [i2]
                                                      rfl
  have e1' : (q1 s).1 = tk 4 (q1 s) ++ (q2 s).1 := by conv => lhs; rw [i1]
                                                      rfl
  have e0' : s = (tk 4 s ++ (q1 s).1, false) := i0
  rw [e1', e2', e3'] at e0'
  simpa using e0'

/-! ### Pages -/
abbrev Pg := Vector UInt8 224
structure Im where
  page : Int
  p : Pg
@[irreducible] def padPg (l : List UInt8) : Pg := Vector.ofFn fun j : Fin 224 => l.getD j 0
theorem padPg_toList (l : List UInt8) (h : l.length ≤ 224) : (padPg l).toList = l ++ List.replicate (224 - l.length) 0 := by
  unfold padPg
  apply List.ext_getElem (by simp; omega)
  intro i h1 h2
  simp only [Vector.getElem_toList, Vector.getElem_ofFn, List.getD_eq_getElem?_getD]
  by_cases hi : i < l.length
  · rw [List.getElem?_eq_getElem hi, List.getElem_append_left hi]; rfl
  · rw [List.getElem?_eq_none (by omega), List.getElem_append_right (by omega)]; simp
def zpg : Pg := padPg []
theorem toNat_ofNat {n : Nat} (h : n < 256) : (UInt8.ofNat n).toNat = n := by rw [UInt8.toNat_ofNat']; omega
theorem ofNat_toNat (b : UInt8) : UInt8.ofNat b.toNat = b := by
  have := u8_lt b
  apply UInt8.toNat_inj.1
  rw [UInt8.toNat_ofNat']
  omega
theorem one_byte {l : List UInt8} (h : l.length = 1) : l = [UInt8.ofNat (getN l)] := by
  match l, h with
  | [b], _ => rw [getN_one, ofNat_toNat]
def sameI (a b : Im) : Bool := decide (a.page = b.page) && (a.p == b.p)
theorem sameI_iff (a b : Im) : sameI a b = true ↔ a = b := by
  cases a; cases b
  simp [sameI]
end Go.Proofs.Ytgjkbnplpioloaa
