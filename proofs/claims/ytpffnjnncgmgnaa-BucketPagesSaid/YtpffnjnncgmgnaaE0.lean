/-
  The plain mathematics of records and entries as bytes: what a reader's state is behind each call, and that encoding and decoding are inverse.
  Conditions: none beyond those that each theorem names.
-/
import Derived.Test.YtpffnjnncgmgnaaWReader
namespace Go.Proofs.Ytpffnjnncgmgnaa

/-! ### Numbers there and back -/
theorem getN_put (k : Nat) : ∀ n, getN (putL n k) = n % 256 ^ k % 18446744073709551616 := by
  induction k with
  | zero => intro n; simp [putL, getN, Nat.mod_one]
  | succ k ih =>
    intro n
    rw [putL, getN_snoc, ih, toNat_ofNat_mod, Nat.pow_succ', Nat.mod_mul]
    omega
theorem getN_put8 (n : Nat) (h : n < 18446744073709551616) : getN (putL n 8) = n := by
  rw [getN_put, show (256 : Nat) ^ 8 = 18446744073709551616 from rfl]
  omega
theorem getN_put4 (n : Nat) (h : n < 4294967296) : getN (putL n 4) = n := by
  rw [getN_put, show (256 : Nat) ^ 4 = 4294967296 from rfl]
  omega
theorem getN_one (b : UInt8) : getN [b] = b.toNat := by
  have := u8_lt b
  simp [getN]
theorem snoc_ind {α : Type} {p : List α → Prop} (h0 : p []) (h1 : ∀ l a, p l → p (l ++ [a])) : ∀ l, p l := by
  intro l
  have : ∀ n (l : List α), l.length = n → p l := by
    intro n
    induction n with
    | zero => intro l h; rw [List.eq_nil_of_length_eq_zero h]; exact h0
    | succ n ih =>
      intro l h
      rcases List.eq_nil_or_concat l with rfl | ⟨m, b, rfl⟩
      · simp at h
      · rw [List.concat_eq_append] at h ⊢
        exact h1 m b (ih m (by simpa using h))
  exact this _ l rfl
theorem getN_small (l : List UInt8) : l.length ≤ 8 → getN l < 256 ^ l.length := by
  refine snoc_ind (p := fun l => l.length ≤ 8 → getN l < 256 ^ l.length) (by simp [getN]) ?_ l
  intro l b ih h
  have h1 : l.length ≤ 7 := by simp at h; omega
  have := ih (by omega)
  have hb := u8_lt b
  rw [getN_snoc, List.length_append, List.length_singleton, Nat.pow_succ]
  have : getN l * 256 + b.toNat < 256 ^ l.length * 256 := by omega
  exact Nat.lt_of_le_of_lt (Nat.mod_le _ _) this
theorem put_getN (l : List UInt8) : l.length ≤ 8 → putL (getN l) l.length = l := by
  refine snoc_ind (p := fun l => l.length ≤ 8 → putL (getN l) l.length = l) (by simp [putL]) ?_ l
  intro l b ih h
  have h1 : l.length ≤ 7 := by simp at h; omega
  have hs := getN_small l (by omega)
  have hb := u8_lt b
  have hp : 256 ^ l.length ≤ 256 ^ 7 := Nat.pow_le_pow_right (by omega) h1
  have e : (getN l * 256 + b.toNat) % 18446744073709551616 = getN l * 256 + b.toNat := Nat.mod_eq_of_lt (by omega)
  rw [getN_snoc, List.length_append, List.length_singleton, e, putL, show (getN l * 256 + b.toNat) / 256 = getN l from by omega, ih (by omega), u8_ofNat_mod]
  congr 2
  apply UInt8.toNat_inj.1
  rw [UInt8.toNat_ofNat']
  omega
theorem put_getN' {l : List UInt8} {k : Nat} (h : l.length = k) (hk : k ≤ 8) : putL (getN l) k = l := by
  subst h; exact put_getN l hk

/-! ### A reader's state: what is left, and whether it has failed -/
abbrev RS := List UInt8 × Bool
def can (k : Nat) (s : RS) : Bool := !s.2 && decide (k ≤ s.1.length)
def nx (k : Nat) (s : RS) : RS := if can k s = true then (s.1.drop k, false) else (s.1, true)
def tk (k : Nat) (s : RS) : List UInt8 := if can k s = true then s.1.take k else []
def vl (k : Nat) (s : RS) : Nat := getN (tk k s)
def txt (s : RS) : List UInt8 := fldS (tk 16 s)
def txs (s : RS) : RS := ((nx 16 s).1, (nx 16 s).2 || !(fldB (tk 16 s)))
theorem nx_len (k : Nat) (s : RS) : (nx k s).1.length ≤ s.1.length := by
  unfold nx; split <;> simp
theorem txs_len (s : RS) : (txs s).1.length ≤ s.1.length := nx_len 16 s
theorem can_app {k : Nat} {l m : List UInt8} (h : l.length = k) : can k (l ++ m, false) = true := by simp [can]; omega
theorem nx_app {k : Nat} {l m : List UInt8} (h : l.length = k) : nx k (l ++ m, false) = (m, false) := by
  rw [nx, if_pos (can_app h)]; simp [← h]
theorem tk_app {k : Nat} {l m : List UInt8} (h : l.length = k) : tk k (l ++ m, false) = l := by
  rw [tk, if_pos (can_app h)]; simp [← h]
theorem nx_inv {k : Nat} {s : RS} (h : (nx k s).2 = false) : s = (tk k s ++ (nx k s).1, false) ∧ (tk k s).length = k := by
  unfold nx at h ⊢
  unfold tk
  by_cases hc : can k s = true
  · rw [if_pos hc] at h ⊢
    rw [if_pos hc]
    obtain ⟨l, b⟩ := s
    simp [can] at hc
    obtain ⟨rfl, hk⟩ := hc
    simp
    omega
  · rw [if_neg hc] at h
    simp at h
theorem tk_len (k : Nat) (s : RS) : (tk k s).length ≤ k := by
  unfold tk; split
  · rw [List.length_take]; omega
  · simp
theorem vl_lt8 (s : RS) : vl 8 s < 18446744073709551616 := getN_lt _
theorem vl_lt4 (s : RS) : vl 4 s < 4294967296 := by
  have h := tk_len 4 s
  have := getN_small (tk 4 s) (by omega)
  have h2 : 256 ^ (tk 4 s).length ≤ 256 ^ 4 := Nat.pow_le_pow_right (by omega) h
  unfold vl
  omega
theorem vl_lt1 (s : RS) : vl 1 s < 256 := by
  have h := tk_len 1 s
  have := getN_small (tk 1 s) (by omega)
  have h2 : 256 ^ (tk 1 s).length ≤ 256 ^ 1 := Nat.pow_le_pow_right (by omega) h
  unfold vl
  omega
theorem txs_inv {s : RS} (h : (txs s).2 = false) : (nx 16 s).2 = false ∧ parseF (tk 16 s) = some (txt s) ∧ (txs s).1 = (nx 16 s).1 := by
  simp only [txs, Bool.or_eq_false_iff, Bool.not_eq_false', fldB, Option.isSome_iff_exists] at h
  obtain ⟨h1, a, ha⟩ := h
  exact ⟨h1, by rw [txt, fldS, ha]; rfl, rfl⟩
theorem parseF_field (s : List UInt8) (k : Nat) (h : s.length < k) (hk : k ≤ 256) : parseF (fieldL s k) = some s := by
  have e : (UInt8.ofNat s.length).toNat = s.length := by rw [UInt8.toNat_ofNat']; omega
  have hz : zeroB (List.replicate (k - 1 - s.length) (0 : UInt8)) = true := zeroB_yes _ fun j hj => by simp
  simp only [fieldL, parseF, List.cons_append, e]
  rw [if_pos]
  · simp
  · refine ⟨by simp, ?_⟩
    rw [List.drop_left' rfl]
    exact hz
theorem parseF_inv {l s : List UInt8} {k : Nat} (hl : l.length = k) (h : parseF l = some s) : l = fieldL s k ∧ s.length < k := by
  cases l with
  | nil => simp [parseF] at h
  | cons b rest =>
    simp only [parseF] at h
    split at h
    · rename_i hc
      obtain ⟨h1, h2⟩ := hc
      injection h with h
      subst h
      have hb := u8_lt b
      have hsl : (rest.take b.toNat).length = b.toNat := by rw [List.length_take]; omega
      have hl' : rest.length + 1 = k := by simpa using hl
      refine ⟨?_, by omega⟩
      rw [fieldL, hsl]
      have e0 : UInt8.ofNat b.toNat = b := by
        apply UInt8.toNat_inj.1
        rw [UInt8.toNat_ofNat']
        omega
      have ez : rest.drop b.toNat = List.replicate (k - 1 - b.toNat) 0 := by
        rw [List.eq_replicate_iff]
        refine ⟨by rw [List.length_drop]; omega, fun x hx => ?_⟩
        unfold zeroB at h2
        rw [List.all_eq_true] at h2
        simpa using h2 x hx
      rw [e0, ← ez]
      simp
    · cases h

/-! ### Records -/
structure Rc where
  id : Nat
  key : Nat
  x : Nat
  y : Nat
  val : List UInt8
  ghost : Bool
def zrc : Rc := ⟨0, 0, 0, 0, [], false⟩
structure Rc.ok (r : Rc) : Prop where
  id : r.id < 18446744073709551616
  key : r.key < 18446744073709551616
  x : r.x < 4294967296
  y : r.y < 4294967296
def gB (b : Bool) : UInt8 := if b = true then 1 else 0
def recL (r : Rc) : List UInt8 := putL r.id 8 ++ (putL r.key 8 ++ (putL r.x 4 ++ (putL r.y 4 ++ ([gB r.ghost] ++ fieldL r.val 16))))
theorem recL_length (r : Rc) (h : r.val.length ≤ 15) : (recL r).length = 41 := by
  simp [recL, putL_length, fieldL_length r.val 16 (by omega)]
def sameR (a b : Rc) : Bool := a.id == b.id && (a.key == b.key && (a.x == b.x && (a.y == b.y && (a.val == b.val && a.ghost == b.ghost))))
theorem sameR_iff (a b : Rc) : sameR a b = true ↔ a = b := by
  cases a; cases b
  simp [sameR]
theorem sameR_refl (a : Rc) : sameR a a = true := (sameR_iff a a).2 rfl

def q1 (s : RS) : RS := nx 8 s
def q2 (s : RS) : RS := nx 8 (q1 s)
def q3 (s : RS) : RS := nx 4 (q2 s)
def q4 (s : RS) : RS := nx 4 (q3 s)
def q5 (s : RS) : RS := nx 1 (q4 s)
def q6 (s : RS) : RS := txs (q5 s)
def rrRec (s : RS) : Rc := ⟨vl 8 s, vl 8 (q1 s), vl 4 (q2 s), vl 4 (q3 s), txt (q5 s), vl 1 (q4 s) == 1⟩
def rrOk (s : RS) : Bool := !(q6 s).2 && decide (vl 1 (q4 s) ≤ 1)
theorem q6_len (s : RS) : (q6 s).1.length ≤ s.1.length :=
  Nat.le_trans (txs_len _) (Nat.le_trans (nx_len 1 _) (Nat.le_trans (nx_len 4 _) (Nat.le_trans (nx_len 4 _) (Nat.le_trans (nx_len 8 _) (nx_len 8 _)))))

theorem rr_put (r : Rc) (m : List UInt8) (hr : r.ok) (hv : r.val.length ≤ 15) :
    rrOk (recL r ++ m, false) = true ∧ rrRec (recL r ++ m, false) = r ∧ q6 (recL r ++ m, false) = (m, false) := by
  have hf := fieldL_length r.val 16 (by omega)
  have e0 : recL r ++ m = putL r.id 8 ++ (putL r.key 8 ++ (putL r.x 4 ++ (putL r.y 4 ++ ([gB r.ghost] ++ (fieldL r.val 16 ++ m))))) := by simp [recL]
  have e1 : q1 (recL r ++ m, false) = (putL r.key 8 ++ (putL r.x 4 ++ (putL r.y 4 ++ ([gB r.ghost] ++ (fieldL r.val 16 ++ m)))), false) := by rw [q1, e0, nx_app (putL_length 8 _)]
  have e2 : q2 (recL r ++ m, false) = (putL r.x 4 ++ (putL r.y 4 ++ ([gB r.ghost] ++ (fieldL r.val 16 ++ m))), false) := by rw [q2, e1, nx_app (putL_length 8 _)]
  have e3 : q3 (recL r ++ m, false) = (putL r.y 4 ++ ([gB r.ghost] ++ (fieldL r.val 16 ++ m)), false) := by rw [q3, e2, nx_app (putL_length 4 _)]
  have e4 : q4 (recL r ++ m, false) = ([gB r.ghost] ++ (fieldL r.val 16 ++ m), false) := by rw [q4, e3, nx_app (putL_length 4 _)]
  have e5 : q5 (recL r ++ m, false) = (fieldL r.val 16 ++ m, false) := by rw [q5, e4, nx_app (l := [gB r.ghost]) (k := 1) rfl]
  have hp := parseF_field r.val 16 (by omega) (by omega)
  have t5 : tk 16 (fieldL r.val 16 ++ m, false) = fieldL r.val 16 := tk_app hf
  have e6 : q6 (recL r ++ m, false) = (m, false) := by rw [q6, e5, txs, nx_app hf, t5, fldB, hp]; rfl
  have v4 : vl 1 ([gB r.ghost] ++ (fieldL r.val 16 ++ m), false) = (gB r.ghost).toNat := by rw [vl, tk_app (l := [gB r.ghost]) (k := 1) rfl, getN_one]
  have x5 : txt (fieldL r.val 16 ++ m, false) = r.val := by rw [txt, t5, fldS, hp]; rfl
  refine ⟨?_, ?_, e6⟩
  · rw [rrOk, e6, e4, v4]
    cases r.ghost <;> rfl
  · rw [rrRec, e1, e2, e3, e4, e5, x5, v4, e0, vl, tk_app (putL_length 8 _), vl, tk_app (putL_length 8 _), vl, tk_app (putL_length 4 _), vl, tk_app (putL_length 4 _),
      getN_put8 _ hr.id, getN_put8 _ hr.key, getN_put4 _ hr.x, getN_put4 _ hr.y]
    obtain ⟨i, k, x, y, v, g⟩ := r
    cases g <;> rfl
theorem rr_inv {s : RS} (h : rrOk s = true) : s = (recL (rrRec s) ++ (q6 s).1, false) ∧ (q6 s).2 = false ∧ (rrRec s).ok ∧ (rrRec s).val.length ≤ 15 := by
  simp only [rrOk, Bool.and_eq_true, Bool.not_eq_true', decide_eq_true_eq] at h
  obtain ⟨h6, hg⟩ := h
  obtain ⟨h6n, hp, h6e⟩ := txs_inv h6
  obtain ⟨i5, l5⟩ := nx_inv h6n
  have f5 : (q5 s).2 = false := by rw [i5]
  obtain ⟨i4, l4⟩ := nx_inv (s := q4 s) f5
  have f4 : (q4 s).2 = false := by rw [i4]
  obtain ⟨i3, l3⟩ := nx_inv (s := q3 s) f4
  have f3 : (q3 s).2 = false := by rw [i3]
  obtain ⟨i2, l2⟩ := nx_inv (s := q2 s) f3
  have f2 : (q2 s).2 = false := by rw [i2]
  obtain ⟨i1, l1⟩ := nx_inv (s := q1 s) f2
  have f1 : (q1 s).2 = false := by rw [i1]
  obtain ⟨i0, l0⟩ := nx_inv (s := s) f1
  obtain ⟨hfl, hvl⟩ := parseF_inv l5 hp
  refine ⟨?_, h6, ⟨vl_lt8 _, vl_lt8 _, vl_lt4 _, vl_lt4 _⟩, by show (txt (q5 s)).length ≤ 15; omega⟩
  have eg : [gB (vl 1 (q4 s) == 1)] = tk 1 (q4 s) := by
    match hq : tk 1 (q4 s), l4 with
    | [b], _ =>
      have hv : vl 1 (q4 s) = b.toNat := by rw [vl, hq, getN_one]
      rw [hv] at hg ⊢
      congr 1
      apply UInt8.toNat_inj.1
      rcases (show b.toNat = 0 ∨ b.toNat = 1 by omega) with e | e <;> rw [e] <;> rfl
  have er : recL (rrRec s) = tk 8 s ++ (tk 8 (q1 s) ++ (tk 4 (q2 s) ++ (tk 4 (q3 s) ++ (tk 1 (q4 s) ++ tk 16 (q5 s))))) := by
    simp only [recL, rrRec]
    rw [eg, ← hfl, vl, vl, vl, vl, put_getN' l0 (by omega), put_getN' l1 (by omega), put_getN' l2 (by omega), put_getN' l3 (by omega)]
  rw [er]
  have e5' : (q5 s).1 = tk 16 (q5 s) ++ (q6 s).1 := by rw [show (q6 s).1 = (nx 16 (q5 s)).1 from h6e]; conv => lhs; rw [i5]
  have e4' : (q4 s).1 = tk 1 (q4 s) ++ (q5 s).1 := by conv => lhs; rw [i4]
                                                      rfl
  have e3' : (q3 s).1 = tk 4 (q3 s) ++ (q4 s).1 := by conv => lhs; rw [i3]
                                                      rfl
  have e2' : (q2 s).1 = tk 4 (q2 s) ++ (q3 s).1 := by conv => lhs; rw [i2]
                                                      rfl
  have e1' : (q1 s).1 = tk 8 (q1 s) ++ (q2 s).1 := by conv => lhs; rw [i1]
                                                      rfl
  have e0' : s = (tk 8 s ++ (q1 s).1, false) := i0
  rw [e1', e2', e3', e4', e5'] at e0'
  simpa using e0'
end Go.Proofs.Ytpffnjnncgmgnaa
