/- Texts behind one another: E0 E1 A2 A3 A4 Held C1 C2 Seal SGet D1 K0 A1. -/
import Derived.Test.YthicidpdgggbjaaDoorQ1
import Derived.OwnWalk
import Derived.Deep.RegionHeld
import Derived.WalkLawsBesides
import Derived.WalkSpells
import Derived.Deep.MidRow
import Derived.Deep.WholeRow
/-
  The plain mathematics of records and entries as bytes: what a reader's state is behind each call, and that encoding and decoding are inverse.
  Conditions: none beyond those that each theorem names.
-/

namespace Go.Proofs.YthicidpdgggbjaaDoor

/-! ### Numbers there and back -/
theorem getN_put (k : Nat) : ∀ n, getN (putL n k) = n % 256 ^ k % 18446744073709551616 := by
  induction k with
  | zero => intro n; simp [putL, getN, Nat.mod_one]
  | succ k ih =>
    intro n
    rw [putL, getN_snoc, ih, toNat_ofNat_mod, Nat.pow_succ', Nat.mod_mul]
    omega
theorem getN_put8 (n : Nat) (h : n < 18446744073709551616) : getN (putL n 8) = n := by
  rw [getN_put, show (256 : Nat) ^ 8 = 18446744073709551616 from rfl]
  omega
theorem getN_put4 (n : Nat) (h : n < 4294967296) : getN (putL n 4) = n := by
  rw [getN_put, show (256 : Nat) ^ 4 = 4294967296 from rfl]
  omega
theorem getN_one (b : UInt8) : getN [b] = b.toNat := by
  have := u8_lt b
  simp [getN]
theorem snoc_ind {α : Type} {p : List α → Prop} (h0 : p []) (h1 : ∀ l a, p l → p (l ++ [a])) : ∀ l, p l := by
  intro l
  have : ∀ n (l : List α), l.length = n → p l := by
    intro n
    induction n with
    | zero => intro l h; rw [List.eq_nil_of_length_eq_zero h]; exact h0
    | succ n ih =>
      intro l h
      rcases List.eq_nil_or_concat l with rfl | ⟨m, b, rfl⟩
      · simp at h
      · rw [List.concat_eq_append] at h ⊢
        exact h1 m b (ih m (by simpa using h))
  exact this _ l rfl
theorem getN_small (l : List UInt8) : l.length ≤ 8 → getN l < 256 ^ l.length := by
  refine snoc_ind (p := fun l => l.length ≤ 8 → getN l < 256 ^ l.length) (by simp [getN]) ?_ l
  intro l b ih h
  have h1 : l.length ≤ 7 := by simp at h; omega
  have := ih (by omega)
  have hb := u8_lt b
  rw [getN_snoc, List.length_append, List.length_singleton, Nat.pow_succ]
  have : getN l * 256 + b.toNat < 256 ^ l.length * 256 := by omega
  exact Nat.lt_of_le_of_lt (Nat.mod_le _ _) this
theorem put_getN (l : List UInt8) : l.length ≤ 8 → putL (getN l) l.length = l := by
  refine snoc_ind (p := fun l => l.length ≤ 8 → putL (getN l) l.length = l) (by simp [putL]) ?_ l
  intro l b ih h
  have h1 : l.length ≤ 7 := by simp at h; omega
  have hs := getN_small l (by omega)
  have hb := u8_lt b
  have hp : 256 ^ l.length ≤ 256 ^ 7 := Nat.pow_le_pow_right (by omega) h1
  have e : (getN l * 256 + b.toNat) % 18446744073709551616 = getN l * 256 + b.toNat := Nat.mod_eq_of_lt (by omega)
  rw [getN_snoc, List.length_append, List.length_singleton, e, putL, show (getN l * 256 + b.toNat) / 256 = getN l from by omega, ih (by omega), u8_ofNat_mod]
  congr 2
  apply UInt8.toNat_inj.1
  rw [UInt8.toNat_ofNat']
  omega
theorem put_getN' {l : List UInt8} {k : Nat} (h : l.length = k) (hk : k ≤ 8) : putL (getN l) k = l := by
  subst h; exact put_getN l hk

/-! ### A reader's state: what is left, and whether it has failed -/
abbrev RS := List UInt8 × Bool
def can (k : Nat) (s : RS) : Bool := !s.2 && decide (k ≤ s.1.length)
def nx (k : Nat) (s : RS) : RS := if can k s = true then (s.1.drop k, false) else (s.1, true)
def tk (k : Nat) (s : RS) : List UInt8 := if can k s = true then s.1.take k else []
def vl (k : Nat) (s : RS) : Nat := getN (tk k s)
def txt (s : RS) : List UInt8 := fldS (tk 16 s)
def txs (s : RS) : RS := ((nx 16 s).1, (nx 16 s).2 || !(fldB (tk 16 s)))
theorem nx_len (k : Nat) (s : RS) : (nx k s).1.length ≤ s.1.length := by
  unfold nx; split <;> simp
theorem txs_len (s : RS) : (txs s).1.length ≤ s.1.length := nx_len 16 s
theorem can_app {k : Nat} {l m : List UInt8} (h : l.length = k) : can k (l ++ m, false) = true := by simp [can]; omega
theorem nx_app {k : Nat} {l m : List UInt8} (h : l.length = k) : nx k (l ++ m, false) = (m, false) := by
  rw [nx, if_pos (can_app h)]; simp [← h]
theorem tk_app {k : Nat} {l m : List UInt8} (h : l.length = k) : tk k (l ++ m, false) = l := by
  rw [tk, if_pos (can_app h)]; simp [← h]
theorem nx_inv {k : Nat} {s : RS} (h : (nx k s).2 = false) : s = (tk k s ++ (nx k s).1, false) ∧ (tk k s).length = k := by
  unfold nx at h ⊢
  unfold tk
  by_cases hc : can k s = true
  · rw [if_pos hc] at h ⊢
    rw [if_pos hc]
    obtain ⟨l, b⟩ := s
    simp [can] at hc
    obtain ⟨rfl, hk⟩ := hc
    simp
    omega
  · rw [if_neg hc] at h
    simp at h
theorem tk_len (k : Nat) (s : RS) : (tk k s).length ≤ k := by
  unfold tk; split
  · rw [List.length_take]; omega
  · simp
theorem vl_lt8 (s : RS) : vl 8 s < 18446744073709551616 := getN_lt _
theorem vl_lt4 (s : RS) : vl 4 s < 4294967296 := by
  have h := tk_len 4 s
  have := getN_small (tk 4 s) (by omega)
  have h2 : 256 ^ (tk 4 s).length ≤ 256 ^ 4 := Nat.pow_le_pow_right (by omega) h
  unfold vl
  omega
theorem vl_lt1 (s : RS) : vl 1 s < 256 := by
  have h := tk_len 1 s
  have := getN_small (tk 1 s) (by omega)
  have h2 : 256 ^ (tk 1 s).length ≤ 256 ^ 1 := Nat.pow_le_pow_right (by omega) h
  unfold vl
  omega
theorem txs_inv {s : RS} (h : (txs s).2 = false) : (nx 16 s).2 = false ∧ parseF (tk 16 s) = some (txt s) ∧ (txs s).1 = (nx 16 s).1 := by
  simp only [txs, Bool.or_eq_false_iff, Bool.not_eq_false', fldB, Option.isSome_iff_exists] at h
  obtain ⟨h1, a, ha⟩ := h
  exact ⟨h1, by rw [txt, fldS, ha]; rfl, rfl⟩
theorem parseF_field (s : List UInt8) (k : Nat) (h : s.length < k) (hk : k ≤ 256) : parseF (fieldL s k) = some s := by
  have e : (UInt8.ofNat s.length).toNat = s.length := by rw [UInt8.toNat_ofNat']; omega
  have hz : zeroB (List.replicate (k - 1 - s.length) (0 : UInt8)) = true := zeroB_yes _ fun j hj => by simp
  simp only [fieldL, parseF, List.cons_append, e]
  rw [if_pos]
  · simp
  · refine ⟨by simp, ?_⟩
    rw [List.drop_left' rfl]
    exact hz
theorem parseF_inv {l s : List UInt8} {k : Nat} (hl : l.length = k) (h : parseF l = some s) : l = fieldL s k ∧ s.length < k := by
  cases l with
  | nil => simp [parseF] at h
  | cons b rest =>
    simp only [parseF] at h
    split at h
    · rename_i hc
      obtain ⟨h1, h2⟩ := hc
      injection h with h
      subst h
      have hb := u8_lt b
      have hsl : (rest.take b.toNat).length = b.toNat := by rw [List.length_take]; omega
      have hl' : rest.length + 1 = k := by simpa using hl
      refine ⟨?_, by omega⟩
      rw [fieldL, hsl]
      have e0 : UInt8.ofNat b.toNat = b := by
        apply UInt8.toNat_inj.1
        rw [UInt8.toNat_ofNat']
        omega
      have ez : rest.drop b.toNat = List.replicate (k - 1 - b.toNat) 0 := by
        rw [List.eq_replicate_iff]
        refine ⟨by rw [List.length_drop]; omega, fun x hx => ?_⟩
        unfold zeroB at h2
        rw [List.all_eq_true] at h2
        simpa using h2 x hx
      rw [e0, ← ez]
      simp
    · cases h

/-! ### Records -/
structure Rc where
  id : Nat
  key : Nat
  x : Nat
  y : Nat
  val : List UInt8
  ghost : Bool
def zrc : Rc := ⟨0, 0, 0, 0, [], false⟩
structure Rc.ok (r : Rc) : Prop where
  id : r.id < 18446744073709551616
  key : r.key < 18446744073709551616
  x : r.x < 4294967296
  y : r.y < 4294967296
def gB (b : Bool) : UInt8 := if b = true then 1 else 0
def recL (r : Rc) : List UInt8 := putL r.id 8 ++ (putL r.key 8 ++ (putL r.x 4 ++ (putL r.y 4 ++ ([gB r.ghost] ++ fieldL r.val 16))))
theorem recL_length (r : Rc) (h : r.val.length ≤ 15) : (recL r).length = 41 := by
  simp [recL, putL_length, fieldL_length r.val 16 (by omega)]
def sameR (a b : Rc) : Bool := a.id == b.id && (a.key == b.key && (a.x == b.x && (a.y == b.y && (a.val == b.val && a.ghost == b.ghost))))
theorem sameR_iff (a b : Rc) : sameR a b = true ↔ a = b := by
  cases a; cases b
  simp [sameR]
theorem sameR_refl (a : Rc) : sameR a a = true := (sameR_iff a a).2 rfl

def q1 (s : RS) : RS := nx 8 s
def q2 (s : RS) : RS := nx 8 (q1 s)
def q3 (s : RS) : RS := nx 4 (q2 s)
def q4 (s : RS) : RS := nx 4 (q3 s)
def q5 (s : RS) : RS := nx 1 (q4 s)
def q6 (s : RS) : RS := txs (q5 s)
def rrRec (s : RS) : Rc := ⟨vl 8 s, vl 8 (q1 s), vl 4 (q2 s), vl 4 (q3 s), txt (q5 s), vl 1 (q4 s) == 1⟩
def rrOk (s : RS) : Bool := !(q6 s).2 && decide (vl 1 (q4 s) ≤ 1)
theorem q6_len (s : RS) : (q6 s).1.length ≤ s.1.length :=
  Nat.le_trans (txs_len _) (Nat.le_trans (nx_len 1 _) (Nat.le_trans (nx_len 4 _) (Nat.le_trans (nx_len 4 _) (Nat.le_trans (nx_len 8 _) (nx_len 8 _)))))

theorem rr_put (r : Rc) (m : List UInt8) (hr : r.ok) (hv : r.val.length ≤ 15) :
    rrOk (recL r ++ m, false) = true ∧ rrRec (recL r ++ m, false) = r ∧ q6 (recL r ++ m, false) = (m, false) := by
  have hf := fieldL_length r.val 16 (by omega)
  have e0 : recL r ++ m = putL r.id 8 ++ (putL r.key 8 ++ (putL r.x 4 ++ (putL r.y 4 ++ ([gB r.ghost] ++ (fieldL r.val 16 ++ m))))) := by simp [recL]
  have e1 : q1 (recL r ++ m, false) = (putL r.key 8 ++ (putL r.x 4 ++ (putL r.y 4 ++ ([gB r.ghost] ++ (fieldL r.val 16 ++ m)))), false) := by rw [q1, e0, nx_app (putL_length 8 _)]
  have e2 : q2 (recL r ++ m, false) = (putL r.x 4 ++ (putL r.y 4 ++ ([gB r.ghost] ++ (fieldL r.val 16 ++ m))), false) := by rw [q2, e1, nx_app (putL_length 8 _)]
  have e3 : q3 (recL r ++ m, false) = (putL r.y 4 ++ ([gB r.ghost] ++ (fieldL r.val 16 ++ m)), false) := by rw [q3, e2, nx_app (putL_length 4 _)]
  have e4 : q4 (recL r ++ m, false) = ([gB r.ghost] ++ (fieldL r.val 16 ++ m), false) := by rw [q4, e3, nx_app (putL_length 4 _)]
  have e5 : q5 (recL r ++ m, false) = (fieldL r.val 16 ++ m, false) := by rw [q5, e4, nx_app (l := [gB r.ghost]) (k := 1) rfl]
  have hp := parseF_field r.val 16 (by omega) (by omega)
  have t5 : tk 16 (fieldL r.val 16 ++ m, false) = fieldL r.val 16 := tk_app hf
  have e6 : q6 (recL r ++ m, false) = (m, false) := by rw [q6, e5, txs, nx_app hf, t5, fldB, hp]; rfl
  have v4 : vl 1 ([gB r.ghost] ++ (fieldL r.val 16 ++ m), false) = (gB r.ghost).toNat := by rw [vl, tk_app (l := [gB r.ghost]) (k := 1) rfl, getN_one]
  have x5 : txt (fieldL r.val 16 ++ m, false) = r.val := by rw [txt, t5, fldS, hp]; rfl
  refine ⟨?_, ?_, e6⟩
  · rw [rrOk, e6, e4, v4]
    cases r.ghost <;> rfl
  · rw [rrRec, e1, e2, e3, e4, e5, x5, v4, e0, vl, tk_app (putL_length 8 _), vl, tk_app (putL_length 8 _), vl, tk_app (putL_length 4 _), vl, tk_app (putL_length 4 _),
      getN_put8 _ hr.id, getN_put8 _ hr.key, getN_put4 _ hr.x, getN_put4 _ hr.y]
    obtain ⟨i, k, x, y, v, g⟩ := r
    cases g <;> rfl
theorem rr_inv {s : RS} (h : rrOk s = true) : s = (recL (rrRec s) ++ (q6 s).1, false) ∧ (q6 s).2 = false ∧ (rrRec s).ok ∧ (rrRec s).val.length ≤ 15 := by
  simp only [rrOk, Bool.and_eq_true, Bool.not_eq_true', decide_eq_true_eq] at h
  obtain ⟨h6, hg⟩ := h
  obtain ⟨h6n, hp, h6e⟩ := txs_inv h6
  obtain ⟨i5, l5⟩ := nx_inv h6n
  have f5 : (q5 s).2 = false := by rw [i5]
  obtain ⟨i4, l4⟩ := nx_inv (s := q4 s) f5
  have f4 : (q4 s).2 = false := by rw [i4]
  obtain ⟨i3, l3⟩ := nx_inv (s := q3 s) f4
  have f3 : (q3 s).2 = false := by rw [i3]
  obtain ⟨i2, l2⟩ := nx_inv (s := q2 s) f3
  have f2 : (q2 s).2 = false := by rw [i2]
  obtain ⟨i1, l1⟩ := nx_inv (s := q1 s) f2
  have f1 : (q1 s).2 = false := by rw [i1]
  obtain ⟨i0, l0⟩ := nx_inv (s := s) f1
  obtain ⟨hfl, hvl⟩ := parseF_inv l5 hp
  refine ⟨?_, h6, ⟨vl_lt8 _, vl_lt8 _, vl_lt4 _, vl_lt4 _⟩, by show (txt (q5 s)).length ≤ 15; omega⟩
  have eg : [gB (vl 1 (q4 s) == 1)] = tk 1 (q4 s) := by
    match hq : tk 1 (q4 s), l4 with
    | [b], _ =>
      have hv : vl 1 (q4 s) = b.toNat := by rw [vl, hq, getN_one]
      rw [hv] at hg ⊢
      congr 1
      apply UInt8.toNat_inj.1
      rcases (show b.toNat = 0 ∨ b.toNat = 1 by omega) with e | e <;> rw [e] <;> rfl
  have er : recL (rrRec s) = tk 8 s ++ (tk 8 (q1 s) ++ (tk 4 (q2 s) ++ (tk 4 (q3 s) ++ (tk 1 (q4 s) ++ tk 16 (q5 s))))) := by
    simp only [recL, rrRec]
    rw [eg, ← hfl, vl, vl, vl, vl, put_getN' l0 (by omega), put_getN' l1 (by omega), put_getN' l2 (by omega), put_getN' l3 (by omega)]
  rw [er]
  have e5' : (q5 s).1 = tk 16 (q5 s) ++ (q6 s).1 := by rw [show (q6 s).1 = (nx 16 (q5 s)).1 from h6e]; conv => lhs; rw [i5]
  have e4' : (q4 s).1 = tk 1 (q4 s) ++ (q5 s).1 := by conv => lhs; rw [i4]
                                                      rfl
  have e3' : (q3 s).1 = tk 4 (q3 s) ++ (q4 s).1 := by conv => lhs; rw [i3]
                                                      rfl
  have e2' : (q2 s).1 = tk 4 (q2 s) ++ (q3 s).1 := by conv => lhs; rw [i2]
                                                      rfl
  have e1' : (q1 s).1 = tk 8 (q1 s) ++ (q2 s).1 := by conv => lhs; rw [i1]
                                                      rfl
  have e0' : s = (tk 8 s ++ (q1 s).1, false) := i0
  rw [e1', e2', e3', e4', e5'] at e0'
  simpa using e0'
end Go.Proofs.YthicidpdgggbjaaDoor

/-
  The plain mathematics of pages and entries as bytes, there and back.
  Conditions: none beyond those that each theorem names.
-/

namespace Go.Proofs.YthicidpdgggbjaaDoor

/-! ### Pages -/
abbrev Pg := Vector UInt8 224
structure Im where
  page : Int
  p : Pg
/-- How many bytes there are up to the last one of the first k that is not 0. -/
def sN (l : List UInt8) : Nat → Nat
  | 0 => 0
  | k + 1 => if l.getD k 0 = 0 then sN l k else k + 1
theorem sN_le (l : List UInt8) : ∀ k, sN l k ≤ k
  | 0 => Nat.le_refl _
  | k + 1 => by
    rw [sN]; split
    · exact Nat.le_succ_of_le (sN_le l k)
    · exact Nat.le_refl _
theorem sN_last (l : List UInt8) : ∀ k, sN l k = 0 ∨ l.getD (sN l k - 1) 0 ≠ 0
  | 0 => .inl rfl
  | k + 1 => by
    rw [sN]; split
    · exact sN_last l k
    · rename_i h; exact .inr h
theorem sN_above (l : List UInt8) : ∀ k j, sN l k ≤ j → j < k → l.getD j 0 = 0
  | 0, j, _, h => by omega
  | k + 1, j, h1, h2 => by
    rw [sN] at h1
    split at h1
    · rename_i h
      by_cases e : j = k
      · rw [e]; exact h
      · exact sN_above l k j h1 (by omega)
    · omega
theorem sN_is (l : List UInt8) (n : Nat) : ∀ k, n ≤ k → (∀ j, n ≤ j → j < k → l.getD j 0 = 0) → (n = 0 ∨ l.getD (n - 1) 0 ≠ 0) → sN l k = n
  | 0, h, _, _ => by rw [sN]; omega
  | k + 1, h, hz, hl => by
    rw [sN]
    by_cases e : n = k + 1
    · subst e
      rcases hl with hl | hl
      · omega
      · rw [if_neg (by simpa using hl)]
    · rw [if_pos (hz k (by omega) (by omega)), sN_is l n k (by omega) (fun j h1 h2 => hz j h1 (by omega)) hl]
def stored (p : Pg) : List UInt8 := p.toList.take (sN p.toList 224)
def stN (p : Pg) : Nat := sN p.toList 224
theorem stN_le (p : Pg) : stN p ≤ 224 := sN_le _ _
theorem stored_length (p : Pg) : (stored p).length = stN p := by
  have := sN_le p.toList 224
  rw [stored, List.length_take, Vector.length_toList, stN]
  omega
def pageL (i : Im) : List UInt8 := [UInt8.ofNat i.page.toNat] ++ ([UInt8.ofNat (stN i.p)] ++ stored i.p)
theorem pageL_length (i : Im) : (pageL i).length = 2 + stN i.p := by simp [pageL, stored_length]; omega
@[irreducible] def padPg (l : List UInt8) : Pg := Vector.ofFn fun j : Fin 224 => l.getD j 0
theorem padPg_toList (l : List UInt8) (h : l.length ≤ 224) : (padPg l).toList = l ++ List.replicate (224 - l.length) 0 := by
  unfold padPg
  apply List.ext_getElem (by simp; omega)
  intro i h1 h2
  simp only [Vector.getElem_toList, Vector.getElem_ofFn, List.getD_eq_getElem?_getD]
  by_cases hi : i < l.length
  · rw [List.getElem?_eq_getElem hi, List.getElem_append_left hi]; rfl
  · rw [List.getElem?_eq_none (by omega), List.getElem_append_right (by omega)]; simp
def zpg : Pg := padPg []
/-- Whether the last byte is 0. -/
def sfx (l : List UInt8) : Bool := decide (0 < l.length) && (l.getD (l.length - 1) 0 == 0)
theorem sfx_stored (p : Pg) : sfx (stored p) = false := by
  have hl := stored_length p
  rcases sN_last p.toList 224 with h | h
  · have : (stored p).length = 0 := by rw [hl]; exact h
    simp [sfx, this]
  · by_cases h0 : stN p = 0
    · simp [sfx, hl, h0]
    · have hle := stN_le p
      have e : (stored p).getD (stN p - 1) 0 = p.toList.getD (stN p - 1) 0 := by
        rw [stored, List.getD_eq_getElem?_getD, List.getElem?_take_of_lt (by have : sN p.toList 224 = stN p := rfl; omega), List.getD_eq_getElem?_getD]
      simp only [sfx, hl, e, Bool.and_eq_false_iff]
      have h' : p.toList.getD (stN p - 1) 0 ≠ 0 := h
      exact .inr (by simpa using h')
theorem pad_stored (p : Pg) : padPg (stored p) = p := by
  apply Vector.toList_inj.1
  have hl := stored_length p
  have hle := stN_le p
  rw [padPg_toList _ (by omega), hl]
  apply List.ext_getElem (by simp [hl]; omega)
  intro i h1 h2
  by_cases hi : i < stN p
  · rw [List.getElem_append_left (by omega)]
    simp [stored]
  · rw [List.getElem_append_right (by omega), List.getElem_replicate]
    have := sN_above p.toList 224 i (by have : sN p.toList 224 = stN p := rfl; omega) (by simpa using h2)
    rw [List.getD_eq_getElem?_getD, List.getElem?_eq_getElem h2] at this
    exact this.symm
theorem stored_pad (l : List UInt8) (h : l.length ≤ 224) (hs : sfx l = false) : stored (padPg l) = l := by
  have e : (padPg l).toList = l ++ List.replicate (224 - l.length) 0 := padPg_toList l h
  have hn : sN (padPg l).toList 224 = l.length := by
    refine sN_is _ _ 224 h ?_ ?_
    · intro j h1 h2
      rw [e, List.getD_eq_getElem?_getD, List.getElem?_append_right h1]
      rw [List.getElem?_replicate]
      split <;> rfl
    · by_cases h0 : l.length = 0
      · exact .inl h0
      · right
        simp only [sfx, Bool.and_eq_false_iff, decide_eq_false_iff_not] at hs
        rcases hs with hs | hs
        · omega
        · rw [e, List.getD_eq_getElem?_getD, List.getElem?_append_left (by omega), ← List.getD_eq_getElem?_getD]
          simpa using hs
  rw [stored, hn, e]
  simp

def p1 (s : RS) : RS := nx 1 s
def p2 (s : RS) : RS := nx 1 (p1 s)
def pn (s : RS) : Nat := vl 1 (p1 s)
def p3 (s : RS) : RS := nx (pn s) (p2 s)
def pst (s : RS) : List UInt8 := tk (pn s) (p2 s)
def rpOk (s : RS) : Bool := !(p3 s).2 && (decide ((pst s).length ≤ 224) && !(sfx (pst s)))
def rpIm (s : RS) : Im := ⟨(vl 1 s : Nat), padPg (pst s)⟩
theorem p3_len (s : RS) : (p3 s).1.length ≤ s.1.length := Nat.le_trans (nx_len _ _) (Nat.le_trans (nx_len _ _) (nx_len _ _))
theorem toNat_ofNat {n : Nat} (h : n < 256) : (UInt8.ofNat n).toNat = n := by rw [UInt8.toNat_ofNat']; omega
theorem ofNat_toNat (b : UInt8) : UInt8.ofNat b.toNat = b := by
  have := u8_lt b
  apply UInt8.toNat_inj.1
  rw [UInt8.toNat_ofNat']
  omega
theorem rp_put (i : Im) (m : List UInt8) (h0 : 0 ≤ i.page) (h1 : i.page ≤ 255) : rpOk (pageL i ++ m, false) = true ∧ rpIm (pageL i ++ m, false) = i ∧ p3 (pageL i ++ m, false) = (m, false) := by
  have hle := stN_le i.p
  have e0 : pageL i ++ m = [UInt8.ofNat i.page.toNat] ++ ([UInt8.ofNat (stN i.p)] ++ (stored i.p ++ m)) := by simp [pageL]
  have e1 : p1 (pageL i ++ m, false) = ([UInt8.ofNat (stN i.p)] ++ (stored i.p ++ m), false) := by rw [p1, e0, nx_app (l := [UInt8.ofNat i.page.toNat]) (k := 1) rfl]
  have e2 : p2 (pageL i ++ m, false) = (stored i.p ++ m, false) := by rw [p2, e1, nx_app (l := [UInt8.ofNat (stN i.p)]) (k := 1) rfl]
  have en : pn (pageL i ++ m, false) = stN i.p := by rw [pn, e1, vl, tk_app (l := [UInt8.ofNat (stN i.p)]) (k := 1) rfl, getN_one, toNat_ofNat (by omega)]
  have e3 : p3 (pageL i ++ m, false) = (m, false) := by rw [p3, en, e2, nx_app (stored_length i.p)]
  have es : pst (pageL i ++ m, false) = stored i.p := by rw [pst, en, e2, tk_app (stored_length i.p)]
  refine ⟨?_, ?_, e3⟩
  · rw [rpOk, e3, es, sfx_stored, stored_length]
    simpa using hle
  · rw [rpIm, es, pad_stored, e0, vl, tk_app (l := [UInt8.ofNat i.page.toNat]) (k := 1) rfl, getN_one, toNat_ofNat (by omega)]
    obtain ⟨pg, p⟩ := i
    simp only [Im.mk.injEq, and_true]
    simp only at h0 h1
    omega
theorem one_byte {l : List UInt8} (h : l.length = 1) : l = [UInt8.ofNat (getN l)] := by
  match l, h with
  | [b], _ => rw [getN_one, ofNat_toNat]
theorem rp_inv {s : RS} (h : rpOk s = true) : s = (pageL (rpIm s) ++ (p3 s).1, false) ∧ (p3 s).2 = false ∧ 0 ≤ (rpIm s).page ∧ (rpIm s).page ≤ 255 := by
  simp only [rpOk, Bool.and_eq_true, Bool.not_eq_true', decide_eq_true_eq] at h
  obtain ⟨h3, h224, hs⟩ := h
  obtain ⟨i2, l2⟩ := nx_inv h3
  have f2 : (p2 s).2 = false := by rw [i2]
  obtain ⟨i1, l1⟩ := nx_inv (s := p1 s) f2
  have f1 : (p1 s).2 = false := by rw [i1]
  obtain ⟨i0, l0⟩ := nx_inv (s := s) f1
  have hv := vl_lt1 s
  refine ⟨?_, h3, by simp [rpIm], by simp [rpIm]; omega⟩
  have hst : stored (padPg (pst s)) = pst s := stored_pad _ h224 hs
  have hsn : stN (padPg (pst s)) = pn s := by rw [← stored_length, hst]; exact l2
  have er : pageL (rpIm s) = tk 1 s ++ (tk 1 (p1 s) ++ pst s) := by
    simp only [pageL, rpIm]
    rw [hst, hsn, pn, Int.toNat_natCast, vl, vl, ← one_byte l0, ← one_byte l1]
  rw [er]
  have e2' : (p2 s).1 = pst s ++ (p3 s).1 := by conv => lhs; rw [i2]
                                                rfl
  have e1' : (p1 s).1 = tk 1 (p1 s) ++ (p2 s).1 := by conv => lhs; rw [i1]
                                                      rfl
  have e0' : s = (tk 1 s ++ (p1 s).1, false) := i0
  rw [e1', e2'] at e0'
  simpa using e0'

/-! ### So many pages, one behind the other -/
def stK : Nat → RS → RS
  | 0, s => s
  | k + 1, s => p3 (stK k s)
def imK : Nat → RS → List Im
  | 0, _ => []
  | k + 1, s => imK k s ++ [rpIm (stK k s)]
def okK : Nat → RS → Bool
  | 0, _ => true
  | k + 1, s => okK k s && rpOk (stK k s)
theorem imK_length (s : RS) : ∀ k, (imK k s).length = k
  | 0 => rfl
  | k + 1 => by simp [imK, imK_length s k]
theorem stK_len (s : RS) : ∀ k, (stK k s).1.length ≤ s.1.length
  | 0 => Nat.le_refl _
  | k + 1 => Nat.le_trans (p3_len _) (stK_len s k)
theorem okK_down (s : RS) {k : Nat} : ∀ n, k ≤ n → okK n s = true → okK k s = true
  | 0, h, h2 => by rw [show k = 0 by omega]; rfl
  | n + 1, h, h2 => by
    by_cases e : k = n + 1
    · rw [e]; exact h2
    · simp only [okK, Bool.and_eq_true] at h2
      exact okK_down s n (by omega) h2.1
theorem okK_no (s : RS) {k n : Nat} (hk : k < n) (h : rpOk (stK k s) = false) : okK n s = false := by
  by_cases e : okK n s = true
  · have := okK_down s (k := k + 1) n (by omega) e
    simp [okK, h] at this
  · simpa using e
def pagesL (l : List Im) : List UInt8 := l.flatMap pageL
theorem pagesL_snoc (l : List Im) (i : Im) : pagesL (l ++ [i]) = pagesL l ++ pageL i := by simp [pagesL]
theorem pagesL_length (l : List Im) : (pagesL l).length ≤ 226 * l.length := by
  induction l with
  | nil => simp [pagesL]
  | cons i r ih =>
    have h1 := pageL_length i
    have h2 := stN_le i.p
    have e : pagesL (i :: r) = pageL i ++ pagesL r := by simp [pagesL]
    rw [e, List.length_append, List.length_cons]
    omega
theorem pg_put (l : List Im) : ∀ m, (∀ i ∈ l, 0 ≤ i.page ∧ i.page ≤ 255) → okK l.length (pagesL l ++ m, false) = true ∧ imK l.length (pagesL l ++ m, false) = l ∧ stK l.length (pagesL l ++ m, false) = (m, false) := by
  refine snoc_ind (p := fun l => ∀ m, (∀ i ∈ l, 0 ≤ i.page ∧ i.page ≤ 255) → okK l.length (pagesL l ++ m, false) = true ∧ imK l.length (pagesL l ++ m, false) = l ∧ stK l.length (pagesL l ++ m, false) = (m, false)) ?_ ?_ l
  · intro m _
    exact ⟨rfl, rfl, by simp [stK, pagesL]⟩
  · intro l i ih m hi
    obtain ⟨h1, h2, h3⟩ := ih (pageL i ++ m) fun j hj => hi j (by simp [hj])
    have hb := hi i (by simp)
    obtain ⟨r1, r2, r3⟩ := rp_put i m hb.1 hb.2
    rw [pagesL_snoc, List.length_append, List.length_singleton, List.append_assoc]
    simp only [okK, imK, stK, h1, h2, h3, r1, r2, r3, Bool.and_self, and_self]
theorem pg_inv (s : RS) (hs : s.2 = false) : ∀ k, okK k s = true → s = (pagesL (imK k s) ++ (stK k s).1, false) ∧ (stK k s).2 = false ∧ ∀ i ∈ imK k s, 0 ≤ i.page ∧ i.page ≤ 255
  | 0, _ => ⟨by obtain ⟨l, b⟩ := s; simp at hs; subst hs; rfl, hs, by simp [imK]⟩
  | k + 1, h => by
    simp only [okK, Bool.and_eq_true] at h
    obtain ⟨h1, h2, h3⟩ := pg_inv s hs k h.1
    obtain ⟨r1, r2, r3⟩ := rp_inv h.2
    refine ⟨?_, r2, ?_⟩
    · have e : (stK k s).1 = pageL (rpIm (stK k s)) ++ (p3 (stK k s)).1 := by conv => lhs; rw [r1]
      rw [e] at h1
      rw [imK, pagesL_snoc, stK, List.append_assoc]
      exact h1
    · intro i hi
      rw [imK, List.mem_append] at hi
      rcases hi with hi | hi
      · exact h3 i hi
      · rw [List.mem_singleton.1 hi]; exact r3

/-! ### So many numbers -/
def stA : Nat → RS → RS
  | 0, s => s
  | k + 1, s => nx 8 (stA k s)
def acK : Nat → RS → List Nat
  | 0, _ => []
  | k + 1, s => acK k s ++ [vl 8 (stA k s)]
theorem acK_length (s : RS) : ∀ k, (acK k s).length = k
  | 0 => rfl
  | k + 1 => by simp [acK, acK_length s k]
theorem stA_len (s : RS) : ∀ k, (stA k s).1.length ≤ s.1.length
  | 0 => Nat.le_refl _
  | k + 1 => Nat.le_trans (nx_len _ _) (stA_len s k)
def numsL (l : List Nat) : List UInt8 := l.flatMap fun n => putL n 8
theorem numsL_snoc (l : List Nat) (n : Nat) : numsL (l ++ [n]) = numsL l ++ putL n 8 := by simp [numsL]
theorem numsL_length (l : List Nat) : (numsL l).length = 8 * l.length := by
  induction l with
  | nil => rfl
  | cons i r ih =>
    have e : numsL (i :: r) = putL i 8 ++ numsL r := by simp [numsL]
    rw [e, List.length_append, List.length_cons, putL_length]
    omega
theorem ac_put (l : List Nat) : ∀ m, (∀ n ∈ l, n < 18446744073709551616) → acK l.length (numsL l ++ m, false) = l ∧ stA l.length (numsL l ++ m, false) = (m, false) := by
  refine snoc_ind (p := fun l => ∀ m, (∀ n ∈ l, n < 18446744073709551616) → acK l.length (numsL l ++ m, false) = l ∧ stA l.length (numsL l ++ m, false) = (m, false)) ?_ ?_ l
  · intro m _
    exact ⟨rfl, by simp [stA, numsL]⟩
  · intro l i ih m hi
    obtain ⟨h2, h3⟩ := ih (putL i 8 ++ m) fun j hj => hi j (by simp [hj])
    have hb := hi i (by simp)
    rw [numsL_snoc, List.length_append, List.length_singleton, List.append_assoc]
    simp only [acK, stA, h2, h3]
    rw [vl, tk_app (putL_length 8 _), nx_app (putL_length 8 _), getN_put8 _ hb]
    exact ⟨rfl, rfl⟩
theorem stA_down (s : RS) : ∀ k, (stA k s).2 = false → s.2 = false
  | 0, h => h
  | k + 1, h => stA_down s k (by have := (nx_inv (s := stA k s) h).1; rw [this])
theorem ac_inv (s : RS) : ∀ k, (stA k s).2 = false → s = (numsL (acK k s) ++ (stA k s).1, false) ∧ ∀ n ∈ acK k s, n < 18446744073709551616
  | 0, h => ⟨by obtain ⟨l, b⟩ := s; simp [stA] at h; subst h; rfl, by simp [acK]⟩
  | k + 1, h => by
    obtain ⟨i, l⟩ := nx_inv (s := stA k s) h
    have hk : (stA k s).2 = false := by rw [i]
    obtain ⟨h1, h3⟩ := ac_inv s k hk
    refine ⟨?_, ?_⟩
    · have e : (stA k s).1 = tk 8 (stA k s) ++ (nx 8 (stA k s)).1 := by conv => lhs; rw [i]
      rw [e] at h1
      rw [acK, numsL_snoc, stA, List.append_assoc, vl, put_getN' l (by omega)]
      exact h1
    · intro n hn
      rw [acK, List.mem_append] at hn
      rcases hn with hn | hn
      · exact h3 n hn
      · rw [List.mem_singleton.1 hn]; exact vl_lt8 _

/-! ### Entries -/
structure Ent where
  lsn : Nat
  kind : Int
  txn : Nat
  prev : Nat
  next : Nat
  rc : Rc
  pages : List Im
  act : List Nat
def zent : Ent := ⟨0, 0, 0, 0, 0, zrc, [], []⟩
structure Ent.ok (e : Ent) : Prop where
  lsn : e.lsn < 18446744073709551616
  txn : e.txn < 18446744073709551616
  prev : e.prev < 18446744073709551616
  next : e.next < 18446744073709551616
  rc : e.rc.ok
  act : ∀ n ∈ e.act, n < 18446744073709551616
def headL (e : Ent) : List UInt8 := [UInt8.ofNat e.kind.toNat] ++ (putL e.lsn 8 ++ (putL e.txn 8 ++ (putL e.prev 8 ++ putL e.next 8)))
def entL (e : Ent) : List UInt8 := headL e ++ (recL e.rc ++ ([UInt8.ofNat e.pages.length] ++ (pagesL e.pages ++ ([UInt8.ofNat e.act.length] ++ numsL e.act))))
theorem entL_length (e : Ent) (h : e.rc.val.length ≤ 15) : (entL e).length ≤ 76 + 226 * e.pages.length + 8 * e.act.length := by
  have h1 := recL_length e.rc h
  have h2 := pagesL_length e.pages
  have h3 := numsL_length e.act
  simp only [entL, headL, List.length_append, List.length_singleton, putL_length, h1, h3]
  omega
def risB : Int → List Im → Bool
  | _, [] => true
  | last, i :: r => if i.page ≤ last ∨ 255 < i.page then false else risB i.page r
theorem risB_all : ∀ (l : List Im) (last : Int), risB last l = true → -1 ≤ last → ∀ i ∈ l, 0 ≤ i.page ∧ i.page ≤ 255
  | [], _, _, _, i, hi => by simp at hi
  | j :: r, last, h, hl, i, hi => by
    rw [risB] at h
    split at h
    · cases h
    · rename_i hc
      rcases List.mem_cons.1 hi with rfl | hi
      · omega
      · exact risB_all r j.page h (by omega) i hi
def chk (e : Ent) : Int :=
  if e.kind < 1 ∨ 10 < e.kind then 1 else if 15 < e.rc.val.length then 9 else if 24 < e.pages.length ∨ 64 < e.act.length then 13 else if risB (-1) e.pages = true then 0 else 2
structure Good (e : Ent) : Prop where
  lo : 1 ≤ e.kind
  hi : e.kind ≤ 10
  val : e.rc.val.length ≤ 15
  pages : e.pages.length ≤ 24
  act : e.act.length ≤ 64
  ris : risB (-1) e.pages = true
theorem chk_zero {e : Ent} (h : chk e = 0) : Good e := by
  unfold chk at h
  split at h
  · cases h
  · split at h
    · cases h
    · split at h
      · cases h
      · split at h
        · exact ⟨by omega, by omega, by omega, by omega, by omega, by assumption⟩
        · cases h
theorem chk_good {e : Ent} (h : Good e) : chk e = 0 := by
  have h1 := h.lo
  have h2 := h.hi
  have h3 := h.val
  have h4 := h.pages
  have h5 := h.act
  rw [chk, if_neg (by omega), if_neg (by omega), if_neg (by omega), if_pos h.ris]

def e1 (s : RS) : RS := nx 1 s
def e2 (s : RS) : RS := nx 8 (e1 s)
def e3 (s : RS) : RS := nx 8 (e2 s)
def e4 (s : RS) : RS := nx 8 (e3 s)
def e5 (s : RS) : RS := nx 8 (e4 s)
def e6 (s : RS) : RS := q6 (e5 s)
def eNp (s : RS) : Nat := vl 1 (e6 s)
def e7 (s : RS) : RS := nx 1 (e6 s)
def e8 (s : RS) : RS := stK (eNp s) (e7 s)
def eNa (s : RS) : Nat := vl 1 (e8 s)
def e9 (s : RS) : RS := nx 1 (e8 s)
def e10 (s : RS) : RS := stA (eNa s) (e9 s)
def reOk (s : RS) : Bool := rrOk (e5 s) && (okK (eNp s) (e7 s) && !(e10 s).2)
def reEnt (s : RS) : Ent := ⟨vl 8 (e1 s), (vl 1 s : Nat), vl 8 (e2 s), vl 8 (e3 s), vl 8 (e4 s), rrRec (e5 s), imK (eNp s) (e7 s), acK (eNa s) (e9 s)⟩
theorem re_put (e : Ent) (ho : e.ok) (hg : Good e) : reOk (entL e, false) = true ∧ reEnt (entL e, false) = e ∧ e10 (entL e, false) = ([], false) := by
  have g1 := hg.lo
  have g2 := hg.hi
  have g4 := hg.pages
  have g5 := hg.act
  generalize hn : numsL e.act = NL
  generalize ha : [UInt8.ofNat e.act.length] ++ NL = AL
  generalize hp : pagesL e.pages ++ AL = PL
  generalize hq : [UInt8.ofNat e.pages.length] ++ PL = QL
  generalize hr : recL e.rc ++ QL = RL
  have x0 : entL e = [UInt8.ofNat e.kind.toNat] ++ (putL e.lsn 8 ++ (putL e.txn 8 ++ (putL e.prev 8 ++ (putL e.next 8 ++ RL)))) := by
    rw [← hr, ← hq, ← hp, ← ha, ← hn]
    simp [entL, headL]
  have x1 : e1 (entL e, false) = (putL e.lsn 8 ++ (putL e.txn 8 ++ (putL e.prev 8 ++ (putL e.next 8 ++ RL))), false) := by rw [e1, x0, nx_app (l := [UInt8.ofNat e.kind.toNat]) (k := 1) rfl]
  have x2 : e2 (entL e, false) = (putL e.txn 8 ++ (putL e.prev 8 ++ (putL e.next 8 ++ RL)), false) := by rw [e2, x1, nx_app (putL_length 8 _)]
  have x3 : e3 (entL e, false) = (putL e.prev 8 ++ (putL e.next 8 ++ RL), false) := by rw [e3, x2, nx_app (putL_length 8 _)]
  have x4 : e4 (entL e, false) = (putL e.next 8 ++ RL, false) := by rw [e4, x3, nx_app (putL_length 8 _)]
  have x5 : e5 (entL e, false) = (RL, false) := by rw [e5, x4, nx_app (putL_length 8 _)]
  obtain ⟨r1, r2, r3⟩ := rr_put e.rc QL ho.rc hg.val
  rw [hr] at r1 r2 r3
  have x6 : e6 (entL e, false) = (QL, false) := by rw [e6, x5, r3]
  have xn : eNp (entL e, false) = e.pages.length := by rw [eNp, x6, ← hq, vl, tk_app (l := [UInt8.ofNat e.pages.length]) (k := 1) rfl, getN_one, toNat_ofNat (by omega)]
  have x7 : e7 (entL e, false) = (PL, false) := by rw [e7, x6, ← hq, nx_app (l := [UInt8.ofNat e.pages.length]) (k := 1) rfl]
  obtain ⟨t1, t2, t3⟩ := pg_put e.pages AL (risB_all _ _ hg.ris (by omega))
  rw [hp] at t1 t2 t3
  have x8 : e8 (entL e, false) = (AL, false) := by rw [e8, xn, x7, t3]
  have xa : eNa (entL e, false) = e.act.length := by rw [eNa, x8, ← ha, vl, tk_app (l := [UInt8.ofNat e.act.length]) (k := 1) rfl, getN_one, toNat_ofNat (by omega)]
  have x9 : e9 (entL e, false) = (NL, false) := by rw [e9, x8, ← ha, nx_app (l := [UInt8.ofNat e.act.length]) (k := 1) rfl]
  obtain ⟨u2, u3⟩ := ac_put e.act [] ho.act
  rw [List.append_nil, hn] at u2 u3
  have x10 : e10 (entL e, false) = ([], false) := by rw [e10, xa, x9, u3]
  refine ⟨?_, ?_, x10⟩
  · rw [reOk, x5, r1, xn, x7, t1, x10]; rfl
  · rw [reEnt, x1, x2, x3, x4, x5, r2, xn, x7, t2, xa, x9, u2, x0]
    rw [vl, tk_app (putL_length 8 _), vl, tk_app (l := [UInt8.ofNat e.kind.toNat]) (k := 1) rfl, vl, tk_app (putL_length 8 _), vl, tk_app (putL_length 8 _), vl, tk_app (putL_length 8 _),
      getN_put8 _ ho.lsn, getN_put8 _ ho.txn, getN_put8 _ ho.prev, getN_put8 _ ho.next, getN_one, toNat_ofNat (by omega)]
    obtain ⟨l, k, t, p, n, r, pg, ac⟩ := e
    simp only [Ent.mk.injEq, and_true, true_and]
    simp only at g1 g2
    omega
theorem re_inv {s : RS} (h : reOk s = true) (hl : (e10 s).1 = []) : s = (entL (reEnt s), false) ∧ (reEnt s).ok := by
  simp only [reOk, Bool.and_eq_true, Bool.not_eq_true'] at h
  obtain ⟨hr, hp, h10⟩ := h
  obtain ⟨a1, a3⟩ := ac_inv _ _ h10
  have f9 : (e9 s).2 = false := by rw [a1]
  obtain ⟨i8, l8⟩ := nx_inv (s := e8 s) f9
  have f8 : (e8 s).2 = false := by rw [i8]
  obtain ⟨r1, r2, r3, r4⟩ := rr_inv hr
  have f7 : (e7 s).2 = false := by
    by_cases hn : (e7 s).2 = false
    · exact hn
    · exfalso
      have hb : ∀ k, (stK k (e7 s)).2 = false → k = 0 ∨ (e7 s).2 = false := fun k => by
        induction k with
        | zero => intro _; exact .inl rfl
        | succ k ih =>
          intro h
          right
          have h2 := (nx_inv (s := p2 (stK k (e7 s))) h).1
          have h3 := (nx_inv (s := p1 (stK k (e7 s))) (by rw [show nx 1 (p1 (stK k (e7 s))) = p2 (stK k (e7 s)) from rfl, h2])).1
          have h4 := (nx_inv (s := stK k (e7 s)) (by rw [show nx 1 (stK k (e7 s)) = p1 (stK k (e7 s)) from rfl, h3])).1
          rcases ih (by rw [h4]) with h5 | h5
          · subst h5
            rw [show stK 0 (e7 s) = e7 s from rfl] at h4
            rw [h4]
          · exact h5
      rcases hb _ f8 with h0 | h0
      · rw [e8, h0] at f8
        exact hn f8
      · exact hn h0
  obtain ⟨g1, g2, g3⟩ := pg_inv (e7 s) f7 (eNp s) hp
  obtain ⟨i6, l6⟩ := nx_inv (s := e6 s) f7
  have f6 : (e6 s).2 = false := by rw [i6]
  have f5 : (e5 s).2 = false := by rw [r1]
  obtain ⟨i4, l4⟩ := nx_inv (s := e4 s) f5
  obtain ⟨i3, l3⟩ := nx_inv (s := e3 s) (show (e4 s).2 = false by rw [i4])
  obtain ⟨i2, l2⟩ := nx_inv (s := e2 s) (show (e3 s).2 = false by rw [i3])
  obtain ⟨i1, l1⟩ := nx_inv (s := e1 s) (show (e2 s).2 = false by rw [i2])
  obtain ⟨i0, l0⟩ := nx_inv (s := s) (show (e1 s).2 = false by rw [i1])
  refine ⟨?_, ⟨vl_lt8 _, vl_lt8 _, vl_lt8 _, vl_lt8 _, r3, a3⟩⟩
  have c9 : (e9 s).1 = numsL (acK (eNa s) (e9 s)) := by
    conv => lhs; rw [a1]
    show _ ++ (e10 s).1 = _
    rw [hl, List.append_nil]
  have c8 : (e8 s).1 = [UInt8.ofNat (eNa s)] ++ (e9 s).1 := by
    rw [eNa, vl, ← one_byte l8]
    conv => lhs; rw [i8]
    rfl
  have c7 : (e7 s).1 = pagesL (imK (eNp s) (e7 s)) ++ (e8 s).1 := by
    conv => lhs; rw [g1]
    rfl
  have c6 : (e6 s).1 = [UInt8.ofNat (eNp s)] ++ (e7 s).1 := by
    rw [eNp, vl, ← one_byte l6]
    conv => lhs; rw [i6]
    rfl
  have c5 : (e5 s).1 = recL (rrRec (e5 s)) ++ (e6 s).1 := by
    conv => lhs; rw [r1]
    rfl
  have c4 : (e4 s).1 = putL (vl 8 (e4 s)) 8 ++ (e5 s).1 := by
    rw [vl, put_getN' l4 (by omega)]
    conv => lhs; rw [i4]
    rfl
  have c3 : (e3 s).1 = putL (vl 8 (e3 s)) 8 ++ (e4 s).1 := by
    rw [vl, put_getN' l3 (by omega)]
    conv => lhs; rw [i3]
    rfl
  have c2 : (e2 s).1 = putL (vl 8 (e2 s)) 8 ++ (e3 s).1 := by
    rw [vl, put_getN' l2 (by omega)]
    conv => lhs; rw [i2]
    rfl
  have c1 : (e1 s).1 = putL (vl 8 (e1 s)) 8 ++ (e2 s).1 := by
    rw [vl, put_getN' l1 (by omega)]
    conv => lhs; rw [i1]
    rfl
  have c0 : s = ([UInt8.ofNat (vl 1 s)] ++ (e1 s).1, false) := by
    rw [vl, ← one_byte l0]
    exact i0
  rw [c1, c2, c3, c4, c5, c6, c7, c8, c9] at c0
  simp only [entL, headL, reEnt, imK_length, acK_length, Int.toNat_natCast]
  simpa using c0

/-! ### Two entries -/
def sameI (a b : Im) : Bool := decide (a.page = b.page) && (a.p == b.p)
theorem sameI_iff (a b : Im) : sameI a b = true ↔ a = b := by
  cases a; cases b
  simp [sameI]
def sameIs : List Im → List Im → Bool
  | [], [] => true
  | a :: r, b :: t => sameI a b && sameIs r t
  | _, _ => false
theorem sameIs_iff : ∀ a b : List Im, sameIs a b = true ↔ a = b
  | [], [] => by simp [sameIs]
  | [], b :: t => by simp [sameIs]
  | a :: r, [] => by simp [sameIs]
  | a :: r, b :: t => by rw [sameIs, Bool.and_eq_true, sameI_iff, sameIs_iff r t]; simp
def sameE (a b : Ent) : Bool := a.lsn == b.lsn && (decide (a.kind = b.kind) && (a.txn == b.txn && (a.prev == b.prev && (a.next == b.next && (sameR a.rc b.rc && (sameIs a.pages b.pages && a.act == b.act))))))
theorem sameE_iff (a b : Ent) : sameE a b = true ↔ a = b := by
  obtain ⟨l, k, t, p, n, r, pg, ac⟩ := a
  obtain ⟨l', k', t', p', n', r', pg', ac'⟩ := b
  simp [sameE, sameR_iff, sameIs_iff]
theorem sameE_refl (a : Ent) : sameE a a = true := (sameE_iff a a).2 rfl
end Go.Proofs.YthicidpdgggbjaaDoor

/-
  Walks: putNumbers, entry.Rec and the reference's Rec.
  Conditions: a value of at most 15 bytes; at most 1000 numbers behind at most 10000 bytes.
-/

namespace Go.Proofs.YthicidpdgggbjaaDoor
open Go.RowKit
set_option maxRecDepth 8000

/-- Numbers as the cells of a []uint64. -/
def UC (l : List Nat) : List Value := l.map fun n : Nat => Value.int .u64 (n : Int)
theorem UC_length (l : List Nat) : (UC l).length = l.length := by simp [UC]
theorem UC_append (l m : List Nat) : UC (l ++ m) = UC l ++ UC m := by simp [UC]
theorem UC_get (l : List Nat) (k : Nat) (h : k < l.length) : (UC l)[k]? = some (.int .u64 (l[k] : Nat)) := by simp [UC, h]
theorem UC_one (l : List Nat) : ∀ u ∈ UC l, u.oneCell' = true := by
  intro u hu
  obtain ⟨b, _, rfl⟩ := List.mem_map.1 hu
  rfl
theorem take_snocN (l : List Nat) (k : Nat) (h : k < l.length) : l.take (k + 1) = l.take k ++ [l[k]] := by
  rw [List.take_succ_eq_append_getElem h]
theorem lies_new' (w : World) (cs : List Value) (t : TypeId) (n : Nat) (hn : cs.length = n) : Lies (w.alloc (.cells cs.toArray t)) (w.heap.size + 1) 1 (some ⟨w.heap.size, 0, none⟩) n cs := by
  subst hn
  refine ⟨by simp, fun _ => ⟨_, rfl, Nat.lt_succ_self _, fun j u hu => ?_⟩⟩
  have hadd : (⟨w.heap.size, 0, none⟩ : Addr).add j = ⟨w.heap.size, j, none⟩ := by unfold Addr.add; split <;> simp_all
  rw [hadd, cell_of_row _ w.heap.size j cs.toArray t (0, 0) (heap_alloc_new w _)]
  simpa using hu

section
variable {P : Program} (w : World)
/-- append(v, x...), and where the row lies behind it. -/
theorem run_append_lies2 (base : Nat) (t ty e : TypeId) (i : TypeInfo) (z : Value) (size bytes : Nat) (ht : P.underlying t = some (.slice e)) (hi : P.info? e = some i) (hz : i.zero = some z)
    (hsize : i.size = size) (hby : i.bytes = bytes) (hzs : z.cells.size = size) (hsz : 0 < size)
    (v : Value) (n : Nat) (xs : List Value) (hown : w.ownsRow base e size v n xs)
    (B : Nat) (A : Option Addr) (m c : Nat) (news : List Value) (hr : Lies w B size A m news) (h1 : ∀ u ∈ news, u.oneCell' = true) (hm : 0 < m)
    (h63 : n + m ≤ maxLen) (hbytes : (n + m) * bytes ≤ 140737488355328) (hbase : base ≤ w.heap.size) :
    ∃ v' w', (Builtin.append_ #[t, t] ty #[v, .slice A m c]).run P w = .ok v' w' ∧ w'.ownsRow base e size v' (n + m) (xs ++ news) ∧ w.grownBy w' v.ownBlock ∧ (v'.ownBlock = v.ownBlock ∨ v'.ownBlock = some w.heap.size) := by
  obtain ⟨a, rfl, _, hx⟩ := hr.spot hm
  obtain ⟨v', w', h2, h3, h4, _, h5⟩ := run_append_own_at (P := P) w base t ty e i z size bytes ht hi hz hsize hby hzs hsz v n xs hown a m c news hr.len hx h1 h63 hbytes hbase
  exact ⟨v', w', h2, h3, h4, h5⟩
theorem wpList_app2 {ops : Array Oper} {rest : List Oper} {o : Oper} {a : Act} {Q : Exit → Act → World → Prop} (hgd : o.guard = none) (s x : Operand) (t : TypeId)
    (ho : o.op = .call { callee := .builtin .append, args := #[s, x], argTypes := #[t, t] })
    (base : Nat) (e : TypeId) (i : TypeInfo) (z : Value) (size bytes : Nat) (ht : P.underlying t = some (.slice e)) (hi : P.info? e = some i) (hz : i.zero = some z)
    (hsize : i.size = size) (hby : i.bytes = bytes) (hzs : z.cells.size = size) (hsz : 0 < size)
    (v : Value) (n : Nat) (xs : List Value) (hs : a.eval s = v) (hown : w.ownsRow base e size v n xs)
    (B : Nat) (A : Option Addr) (m c : Nat) (news : List Value) (hx : a.eval x = .slice A m c) (hr : Lies w B size A m news) (h1 : ∀ u ∈ news, u.oneCell' = true) (hm : 0 < m)
    (h63 : n + m ≤ maxLen) (hbytes : (n + m) * bytes ≤ 140737488355328) (hbase : base ≤ w.heap.size)
    (h : ∀ v' w', w'.ownsRow base e size v' (n + m) (xs ++ news) → w.grownBy w' v.ownBlock → (v'.ownBlock = v.ownBlock ∨ v'.ownBlock = some w.heap.size) → wpList P ops Q rest (a.put o.dst v') w') : wpList P ops Q (o :: rest) a w := by
  obtain ⟨v', w', hrun, h2, h3, h4⟩ := run_append_lies2 (P := P) w base t o.type e i z size bytes ht hi hz hsize hby hzs hsz v n xs hown B A m c news hr h1 hm h63 hbytes hbase
  exact Lib.wpList_append_run w hgd s x t t ho v _ hs hx v' w' hrun (h v' w' h2 h3 h4)
end

theorem u64_info : (Tryd.prog.info? 35).map (fun i => (i.zero, i.size, i.bytes)) = some (some (.int .u64 0), 1, 8) := by kernel_rfl

/-- A slice in a block that is not v's own. -/
def Off (n : Nat) (v : Value) (A : Option Addr) : Prop := 0 < n → ∀ k a, v.ownBlock = some k → A = some a → a.block ≠ k
theorem Lies.grown {w w' : World} {B size n : Nat} {A : Option Addr} {xs : List Value} {v : Value} (h : Lies w B size A n xs) (hg : w.grownBy w' v.ownBlock) (ho : Off n v A) : Lies w' B size A n xs := by
  refine ⟨h.len, fun hn => ?_⟩
  obtain ⟨a, ha, hb, hx⟩ := h.spot hn
  refine ⟨a, ha, hb, fun j u hu => ?_⟩
  exact hg.cell (hx j u hu) (by rw [add_block]; intro e; exact ho hn _ a e.symm ha rfl)

/-- What holds at the head of each round of putNumbers. -/
def PNR (w : World) (base B : Nat) (l : List UInt8) (ns : List Nat) (A2 : Option Addr) (m : Nat) (b i : Value) (wr : World) : Prop :=
  ∃ k : Nat, k ≤ m ∧ i = .int .i64 k ∧ Hid (wr.ownsRow base 5 1 b (l.length + 8 * k) (BC (l ++ numsL (ns.take k)))) ∧ Hid (Lies wr B 1 A2 m (UC ns)) ∧ Hid (Off m b A2) ∧ Below base w wr ∧ base ≤ wr.heap.size ∧ B ≤ wr.heap.size

/-- A row of the caller's own comes back, longer. -/
def RetO (w : World) (base : Nat) (l : List UInt8) (e : Ending) (w' : World) : Prop :=
  ∃ A n c, e = .returned (.slice A n c) ∧ w'.ownsRow base 5 1 (.slice A n c) n (BC l) ∧ Below base w w' ∧ w.heap.size ≤ w'.heap.size
theorem RetB.n {w w' : World} {l : List UInt8} {e : Ending} (h : RetB w l e w') : ∃ A n c, e = .returned (.slice A n c) ∧ w'.ownsRow w.heap.size 5 1 (.slice A n c) n (BC l) ∧ Below w.heap.size w w' := by
  obtain ⟨A, c, he, ho, hb⟩ := h
  exact ⟨A, _, c, he, ho, hb⟩
theorem own_n {w : World} {base n : Nat} {v : Value} {l : List UInt8} (h : w.ownsRow base 5 1 v n (BC l)) : l.length = n := by have := h.1; rw [BC_length] at this; omega
theorem RetO.mk {w w' : World} {base : Nat} {l : List UInt8} {v : Value} {n : Nat} (h : w'.ownsRow base 5 1 v n (BC l)) (hb : Below base w w') : RetO w base l (.returned v) w' := by
  obtain ⟨A, c, rfl, _⟩ := own_slice h
  exact ⟨A, n, c, rfl, h, hb, hb.size⟩

set_option maxHeartbeats 400000 in
theorem putNumbers_any (base B n c m c2 : Nat) (A A2 : Option Addr) (l : List UInt8) (ns : List Nat) (w : World) (ho : w.ownsRow base 5 1 (.slice A n c) n (BC l)) (hns : Lies w B 1 A2 m (UC ns)) (hoff : Off m (.slice A n c) A2)
    (hB : B ≤ w.heap.size) (hbase : base ≤ w.heap.size) (hn : n ≤ 10000) (hm : m ≤ 1000) (hok : ∀ x ∈ ns, x < 18446744073709551616) :
    Calls Tryd.prog 55 #[.slice A n c, .slice A2 m c2] w (RetO w base (l ++ numsL ns)) := by
  obtain ⟨i0, hi0, hz0, hz1, hz2⟩ := info_parts u8_info
  have hl : l.length = n := by have := ho.1; rw [BC_length] at this; omega
  have hlm : ns.length = m := by have := hns.len; rw [UC_length] at this; omega
  have HL := Lib.hid hl
  have HM := Lib.hid hlm
  have HO := Lib.hid ho
  have HN := Lib.hid hns
  have HF := Lib.hid hoff
  have HK := Lib.hid hok
  clear hl hlm ho hns hoff hok
  go_enter Tryd.func55, Tryd.ntmps55
  go_wp2_with fail
  go_loopw [0, 9] (fun b i wr => PNR w base B l ns A2 m b i wr) (fun _ i _ => m - (intOf i).toNat)
  case atStart =>
    exact ⟨0, Nat.zero_le _, rfl, Lib.hid (by have := HL.out; rw [this]; simpa [numsL] using HO.out), HN, HF, Below.refl _ _, hbase, hB⟩
  case round =>
    obtain ⟨k, hk, rfl, hown, hli, hof, hbw, hbs, hBs⟩ := hrel
    by_cases hlt : k < m
    · obtain ⟨a, u, rfl, hb, hx, hc⟩ := hli.out.get hlt
      have hkl : k < ns.length := by rw [HM.out]; exact hlt
      rw [UC_get ns k hkl] at hx
      injection hx with hx
      subst hx
      have hx64 := HK.out ns[k] (List.getElem_mem hkl)
      go_wp2_with fail
      refine (wput_any 0 0 0 ns[k] none [] 8 wr Lies.empty (Nat.zero_le _) (by omega) hx64 (by omega) (by omega)).mono ?_
      rintro e w1 ⟨A1, c1, rfl, ho1, hb1⟩
      rw [List.nil_append, show (8 : Int).toNat = 8 from rfl] at ho1 ⊢
      rw [putL_length] at ho1 ⊢
      have s1 := hb1.size
      have L1 := Lib.hid (Lies.of_own ho1)
      have O1 := Lib.hid (own_under hown.out hb1 (Nat.le_refl _))
      have N1 := Lib.hid (hli.out.under (hb1.mono hBs))
      have B1 := hbw.trans (hb1.mono hbs)
      have hnb := HL.out
      clear hb1 ho1
      go_wp2_with (at_builtin; refine wpList_app2 _ rfl (.tmp 13) (.tmp 15) _ rfl base 5 i0 _ 1 1 Tryd.underlying59 hi0 hz0 hz1 hz2 rfl (by omega) _ _ _ rfl O1.out w1.heap.size _ _ _ _ rfl L1.out (BC_one _) (by omega) (by simp only [maxLen]; omega) (by omega) (by omega) ?_; intro v2 w2 ho2 hg2 hv2)
      have hof2 : Off m v2 (some a) := by
        intro hm0 q a' hq ha'
        rcases hv2 with hv2 | hv2
        · exact hof.out hm0 q a' (hv2.symm.trans hq) ha'
        · rw [hv2] at hq
          injection hq with hq
          injection ha' with ha'
          subst ha' hq
          have := hb
          omega
      refine ⟨⟨k + 1, by omega, by go_num, Lib.hid ?_, Lib.hid (N1.out.grown hg2 hof.out), Lib.hid hof2, below_own B1 O1.out hg2 (Nat.le_refl _) (by omega), by have := hg2.size; omega, by have := hg2.size; omega⟩, by simp [intOf]; omega⟩
      rw [show l.length + 8 * (k + 1) = l.length + 8 * k + 8 from by omega]
      refine own_len ho2 ?_
      rw [take_snocN ns k hkl, numsL_snoc]
      simp [BC_append]
    · go_wp2_with fail
      go_ret
      obtain rfl : k = m := by omega
      have e : ns.take k = ns := List.take_of_length_le (by rw [HM.out]; exact Nat.le_refl _)
      rw [e] at hown
      exact RetO.mk hown.out hbw
end Go.Proofs.YthicidpdgggbjaaDoor

/-
  Walks: entry.Rec.
  Conditions: a value of at most 15 bytes.
-/

namespace Go.Proofs.YthicidpdgggbjaaDoor
open Go.RowKit
set_option maxRecDepth 8000

theorem strOf_size (l : List UInt8) : (strOf l).size = l.length := by simp [strOf, ByteArray.size]

/-! ### A block of cells -/
def At (w : World) (g : Nat) (t : TypeId) (cs : Array Value) : Prop := w.heap[g]? = some (.cells cs t (0, 0))
section
variable {w w' : World} {g : Nat} {t : TypeId} {cs : Array Value}
theorem At.lt (h : At w g t cs) : g < w.heap.size := (Array.getElem?_eq_some_iff.1 h).1
theorem At.cell (h : At w g t cs) (k : Nat) : w.cell? ⟨g, k, none⟩ = cs[k]? := cell_of_row w g k _ _ _ h
theorem At.frozen (h : At w g t cs) (k : Nat) : w.frozen? ⟨g, k, none⟩ = false := frozen_of_row w g k _ _ h
theorem At.under {B : Nat} (h : At w g t cs) (hb : Below B w w') (hg : g < B) : At w' g t cs := (hb.block g hg).trans h
theorem At.grown {row : Option Nat} (h : At w g t cs) (hb : w.grownBy w' row) (hg : some g ≠ row) : At w' g t cs := (hb.block g h.lt hg).trans h
theorem At.alloc (h : At w g t cs) (o : Obj) : At (w.alloc o) g t cs := (Below.heap_alloc w o g h.lt).trans h
theorem At.set (h : At w g t cs) (k : Nat) (u : Value) : At (w.setCell ⟨g, k, none⟩ u) g t (cs.setIfInBounds k u) := heap_set w g k _ _ u h
theorem At.other (h : At w g t cs) {p : Addr} (hp : g ≠ p.block) (u : Value) : At (w.setCell p u) g t cs := (Below.heap_setCell w p u g hp).trans h
end
theorem At.new (w : World) (t : TypeId) (cs : Array Value) : At (w.alloc (.cells cs t)) w.heap.size t cs := heap_alloc_new w _

/-- What the call of putNumbers in Rec comes to. -/
theorem rec_nums (id key : Nat) (w : World) (k : Nat) (hk : k = w.heap.size) (h1 : id < 18446744073709551616) (h2 : key < 18446744073709551616) :
    Calls Tryd.prog 55 #[.slice none 0 0, .slice (some ⟨k, 0, none⟩) 2 2] (w.alloc (.cells #[.int .u64 (id : Int), .int .u64 (key : Int)] 35)) fun e w' =>
      ∃ A c, e = .returned (.slice A 16 c) ∧ Lies w' w'.heap.size 1 A 16 (BC (putL id 8 ++ putL key 8)) ∧ Below w.heap.size w w' := by
  subst hk
  have hli := lies_new' w (UC [id, key]) 35 2 rfl
  refine (putNumbers_any w.heap.size (w.heap.size + 1) 0 0 2 2 none _ [] [id, key] _ (World.ownsRow_nil _ _ _ _) hli (by intro _ k a hk; cases hk) (by simp) (by simp) (by omega) (by omega) (by simp [h1, h2])).mono ?_
  rintro e w' ⟨A, n, c, rfl, ho, hb, _⟩
  have hl : ([] ++ numsL [id, key]).length = 16 := by simp [numsL, putL_length]
  obtain rfl : n = 16 := by have := own_n ho; omega
  refine ⟨A, c, rfl, ?_, ((Below.refl _ _).alloc (Nat.le_refl _) _).trans hb⟩
  have := Lies.of_own ho
  simpa [numsL] using this

set_option maxHeartbeats 800000 in
theorem rec_any (r : Rc) (w : World) (hr : r.ok) (hv : r.val.length ≤ 15) : Calls Tryd.prog 56 #[.agg #[.int .u64 (r.id : Nat), .int .u64 (r.key : Nat), .int .u32 (r.x : Nat), .int .u32 (r.y : Nat), .string (strOf r.val), .bool r.ghost]] w (RetB w (recL r)) := by
  obtain ⟨id, key, x, y, val, ghost⟩ := r
  obtain ⟨h1, h2, h3, h4⟩ := hr
  simp only at h1 h2 h3 h4 hv
  have R0 := Lib.hid (At.new w 38 #[.int .u64 (id : Int), .int .u64 (key : Int), .int .u32 (x : Int), .int .u32 (y : Int), .string (strOf val), .bool ghost])
  have l2 : (putL id 8 ++ putL key 8 ++ putL x (4 : Int).toNat).length = 20 := by simp [putL_length]
  have l3 : (putL id 8 ++ putL key 8 ++ putL x (4 : Int).toNat ++ putL y (4 : Int).toNat).length = 24 := by simp [putL_length]
  have L2 := Lib.hid l2
  have L3 := Lib.hid l3
  clear l2 l3
  cases ghost with
  | false =>
    have L4 := Lib.hid (show (putL id 8 ++ putL key 8 ++ putL x (4 : Int).toNat ++ putL y (4 : Int).toNat ++ putL 0 (1 : Int).toNat).length = 25 by simp [putL_length])
    go_enter Tryd.func56, Tryd.ntmps56
    go_wp2_with fail
    refine (rec_nums id key _ _ (by simp) h1 h2).mono ?_
    rintro e w1 ⟨A1, c1, rfl, li1, hb1⟩
    have s1 := hb1.size
    have R1 := Lib.hid (R0.out.under hb1 R0.out.lt)
    have cx : w1.cell? ⟨w.heap.size, 2, none⟩ = some (.int .u32 (x : Int)) := R1.out.cell 2
    have B1 := (((Below.refl w.heap.size w).alloc (Nat.le_refl _) _).trans (hb1.mono (by simp)))
    have I1 := Lib.hid li1
    clear li1 hb1
    go_wp2_with fail
    refine (wput32_any w1.heap.size 16 c1 x A1 (putL id 8 ++ putL key 8) 4 w1 I1.out (Nat.le_refl _) (by omega) h3 (by omega) (by omega)).mono ?_
    rintro e w2 ⟨A2, c2, rfl, ho2, hb2⟩
    rw [L2.out] at ho2 ⊢
    have s2 := hb2.size
    have R2 := Lib.hid (R1.out.under hb2 R1.out.lt)
    have cy : w2.cell? ⟨w.heap.size, 3, none⟩ = some (.int .u32 (y : Int)) := R2.out.cell 3
    have B2 := B1.trans (hb2.mono B1.size)
    have I2 := Lib.hid (Lies.of_own ho2)
    clear ho2 hb2 I1 R1 cx B1
    go_wp2_with fail
    refine (wput32_any w2.heap.size 20 c2 y A2 _ 4 w2 I2.out (Nat.le_refl _) (by omega) h4 (by omega) (by omega)).mono ?_
    rintro e w3 ⟨A3, c3, rfl, ho3, hb3⟩
    rw [L3.out] at ho3 ⊢
    have s3 := hb3.size
    have R3 := Lib.hid (R2.out.under hb3 R2.out.lt)
    have B3 := B2.trans (hb3.mono B2.size)
    have I3 := Lib.hid (Lies.of_own ho3)
    clear ho3 hb3 I2 R2 cy B2
    go_wp2_with fail
    refine (wput8_any w3.heap.size 24 c3 0 A3 _ 1 w3 I3.out (Nat.le_refl _) (by omega) (by omega) (by omega) (by omega)).mono ?_
    rintro e w4 ⟨A4, c4, rfl, ho4, hb4⟩
    rw [L4.out] at ho4 ⊢
    have s4 := hb4.size
    have R4 := Lib.hid (R3.out.under hb4 R3.out.lt)
    have cv : w4.cell? ⟨w.heap.size, 4, none⟩ = some (.string (strOf val)) := R4.out.cell 4
    have B4 := B3.trans (hb4.mono B3.size)
    have I4 := Lib.hid (Lies.of_own ho4)
    clear ho4 hb4 I3 R3 B3
    go_wp2_with fail
    refine (text_ok w4.heap.size 25 c4 A4 _ (strOf val) 16 w4 I4.out (Nat.le_refl _) (by omega) (by omega) (by omega) (by rw [strOf_size]; omega)).mono ?_
    rintro e w5 ⟨A5, n5, c5, rfl, ho5, hb5⟩
    have O5 := Lib.hid ho5
    clear ho5
    go_wp2_with fail
    go_ret
    refine RetB.mk (own_len (own_base O5.out B4.size) ?_) (B4.trans (hb5.mono B4.size))
    rw [strOf_toList]
    simp [recL, gB, putL]
  | true =>
    have L4 := Lib.hid (show (putL id 8 ++ putL key 8 ++ putL x (4 : Int).toNat ++ putL y (4 : Int).toNat ++ putL 1 (1 : Int).toNat).length = 25 by simp [putL_length])
    go_enter Tryd.func56, Tryd.ntmps56
    go_wp2_with fail
    refine (rec_nums id key _ _ (by simp) h1 h2).mono ?_
    rintro e w1 ⟨A1, c1, rfl, li1, hb1⟩
    have s1 := hb1.size
    have R1 := Lib.hid (R0.out.under hb1 R0.out.lt)
    have cx : w1.cell? ⟨w.heap.size, 2, none⟩ = some (.int .u32 (x : Int)) := R1.out.cell 2
    have B1 := (((Below.refl w.heap.size w).alloc (Nat.le_refl _) _).trans (hb1.mono (by simp)))
    have I1 := Lib.hid li1
    clear li1 hb1
    go_wp2_with fail
    refine (wput32_any w1.heap.size 16 c1 x A1 (putL id 8 ++ putL key 8) 4 w1 I1.out (Nat.le_refl _) (by omega) h3 (by omega) (by omega)).mono ?_
    rintro e w2 ⟨A2, c2, rfl, ho2, hb2⟩
    rw [L2.out] at ho2 ⊢
    have s2 := hb2.size
    have R2 := Lib.hid (R1.out.under hb2 R1.out.lt)
    have cy : w2.cell? ⟨w.heap.size, 3, none⟩ = some (.int .u32 (y : Int)) := R2.out.cell 3
    have B2 := B1.trans (hb2.mono B1.size)
    have I2 := Lib.hid (Lies.of_own ho2)
    clear ho2 hb2 I1 R1 cx B1
    go_wp2_with fail
    refine (wput32_any w2.heap.size 20 c2 y A2 _ 4 w2 I2.out (Nat.le_refl _) (by omega) h4 (by omega) (by omega)).mono ?_
    rintro e w3 ⟨A3, c3, rfl, ho3, hb3⟩
    rw [L3.out] at ho3 ⊢
    have s3 := hb3.size
    have R3 := Lib.hid (R2.out.under hb3 R2.out.lt)
    have B3 := B2.trans (hb3.mono B2.size)
    have I3 := Lib.hid (Lies.of_own ho3)
    clear ho3 hb3 I2 R2 cy B2
    go_wp2_with fail
    refine (wput8_any w3.heap.size 24 c3 1 A3 _ 1 w3 I3.out (Nat.le_refl _) (by omega) (by omega) (by omega) (by omega)).mono ?_
    rintro e w4 ⟨A4, c4, rfl, ho4, hb4⟩
    rw [L4.out] at ho4 ⊢
    have s4 := hb4.size
    have R4 := Lib.hid (R3.out.under hb4 R3.out.lt)
    have cv : w4.cell? ⟨w.heap.size, 4, none⟩ = some (.string (strOf val)) := R4.out.cell 4
    have B4 := B3.trans (hb4.mono B3.size)
    have I4 := Lib.hid (Lies.of_own ho4)
    clear ho4 hb4 I3 R3 B3
    go_wp2_with fail
    refine (text_ok w4.heap.size 25 c4 A4 _ (strOf val) 16 w4 I4.out (Nat.le_refl _) (by omega) (by omega) (by omega) (by rw [strOf_size]; omega)).mono ?_
    rintro e w5 ⟨A5, n5, c5, rfl, ho5, hb5⟩
    have O5 := Lib.hid ho5
    clear ho5
    go_wp2_with fail
    go_ret
    refine RetB.mk (own_len (own_base O5.out B4.size) ?_) (B4.trans (hb5.mono B4.size))
    rw [strOf_toList]
    simp [recL, gB, putL]
end Go.Proofs.YthicidpdgggbjaaDoor

/-
  A row of bytes that a call makes and lengthens while a box of its own stays as it was; the walk of the reference's Rec.
  Conditions: a value of at most 15 bytes.
-/

namespace Go.Proofs.YthicidpdgggbjaaDoor
open Go.RowKit
set_option maxRecDepth 8000

/-- The call that began in world w0 has laid a box (block b), and the row v holds the bytes l. -/
structure Grow (w0 : World) (b : Nat) (t : TypeId) (cs : Array Value) (l : List UInt8) (v : Value) (w : World) : Prop where
  box : At w b t cs
  own : w.ownsRow (b + 1) 5 1 v l.length (BC l)
  below : Below b w0 w
  size : b + 1 ≤ w.heap.size
section
variable {w0 w w' : World} {b : Nat} {t : TypeId} {cs : Array Value} {l : List UInt8} {v : Value}
theorem Grow.call (h : Grow w0 b t cs l v w) (hb : Below w.heap.size w w') : Grow w0 b t cs l v w' :=
  ⟨h.box.under hb h.box.lt, own_under h.own hb (Nat.le_refl _), h.below.trans (hb.mono (Nat.le_of_lt h.box.lt)), Nat.le_trans h.size hb.size⟩
theorem Grow.alloc (h : Grow w0 b t cs l v w) (o : Obj) : Grow w0 b t cs l v (w.alloc o) := h.call ((Below.refl _ _).alloc (Nat.le_refl _) o)
theorem Grow.eq {m : List UInt8} (h : Grow w0 b t cs l v w) (e : l = m) : Grow w0 b t cs m v w := by subst e; exact h
theorem Grow.ret (h : Grow w0 b t cs l v w) (hb : b = w0.heap.size) : RetB w0 l (.returned v) w := by
  subst hb
  exact RetB.mk (own_base h.own (Nat.le_succ _)) h.below
theorem Grow.first (hb : b = w0.heap.size) (h : At w b t cs) (ho : w.ownsRow (b + 1) 5 1 v l.length (BC l)) (hbl : Below (b + 1) (w0.alloc (.cells cs t)) w) : Grow w0 b t cs l v w := by
  subst hb
  exact ⟨h, ho, ((Below.refl _ _).alloc (Nat.le_refl _) _).trans (hbl.mono (Nat.le_succ _)), h.lt⟩
theorem Grow.slice (h : Grow w0 b t cs l v w) : ∃ A n c, v = .slice A n c ∧ l.length = n := by
  obtain ⟨A, c, hv, _⟩ := own_slice h.own
  exact ⟨A, _, c, hv, rfl⟩
theorem Grow.ownN {n : Nat} (h : Grow w0 b t cs l v w) (hn : l.length = n) : w.ownsRow (b + 1) 5 1 v n (BC l) := by subst hn; exact h.own
theorem Grow.retO {l' : List UInt8} {v' : Value} (h : Grow w0 b t cs l v w) (hr : RetO w (b + 1) l' (.returned v') w') : Grow w0 b t cs l' v' w' := by
  obtain ⟨A, n, c, he, ho, hb, hs⟩ := hr
  injection he with he
  subst he
  have hn := own_n ho
  exact ⟨h.box.under hb (Nat.lt_succ_self _), by rw [hn]; exact ho, h.below.trans (hb.mono (Nat.le_succ _)), Nat.le_trans h.size hs⟩
theorem RetO.len {base n c : Nat} {A : Option Addr} (h : RetO w base l (.returned (.slice A n c)) w') : l.length = n := by
  obtain ⟨A', n', c', he, ho, _⟩ := h
  injection he with he
  injection he with _ h2
  rw [h2]
  exact own_n ho
/-- append(v, x...) onto the row. -/
theorem wpList_grow {ops : Array Oper} {rest : List Oper} {o : Oper} {a : Act} {Q : Exit → Act → World → Prop} (hgd : o.guard = none) (s x : Operand)
    (ho : o.op = .call { callee := .builtin .append, args := #[s, x], argTypes := #[59, 59] }) (hs : a.eval s = v) (G : Grow w0 b t cs l v w)
    (B : Nat) (A : Option Addr) (m c : Nat) (news : List UInt8) (hx : a.eval x = .slice A m c) (hr : Lies w B 1 A m (BC news)) (hlen : l.length ≤ 20000) (hm : m ≤ 20000)
    (h : ∀ v' w', Grow w0 b t cs (l ++ news) v' w' → wpList Tryd.prog ops Q rest (a.put o.dst v') w') : wpList Tryd.prog ops Q (o :: rest) a w := by
  obtain ⟨i0, hi0, hz0, hz1, hz2⟩ := info_parts u8_info
  have hn : news.length = m := by have := hr.len; rw [BC_length] at this; omega
  refine wpList_app w hgd s x 59 ho (b + 1) 5 i0 _ 1 1 Tryd.underlying59 hi0 hz0 hz1 hz2 rfl (by omega) v _ _ hs G.own B A m c _ hx hr (BC_one _) (by simp only [maxLen]; omega) (by omega) G.size ?_
  intro v' w' ho' hg
  refine h v' w' ⟨G.box.grown hg (fun e => by have := (G.own.lt _ e.symm).1; omega), ?_, below_own G.below G.own hg (Nat.le_succ _) (Nat.le_of_lt G.box.lt), Nat.le_trans G.size hg.size⟩
  rw [List.length_append, hn, BC_append]
  exact ho'
end

theorem wrap_nat {x : Nat} (h : x < 4294967296) : IntKind.u64.wrap (x : Int) = (x : Int) := by rw [IntKind.wrap_u64]; omega
theorem lies_byte (w : World) (b : UInt8) (z : Int) (t : TypeId) (hz : z = (b.toNat : Int)) : Lies (w.alloc (.cells #[.int .u8 z] t)) (w.heap.size + 1) 1 (some ⟨w.heap.size, 0, none⟩) 1 (BC [b]) := by
  subst hz
  exact lies_new w _ t

set_option maxHeartbeats 1600000 in
theorem refRec_any (r : Rc) (w : World) (hr : r.ok) (hv : r.val.length ≤ 15) : Calls Tryd.prog 45 #[.agg #[.int .u64 (r.id : Nat), .int .u64 (r.key : Nat), .int .u32 (r.x : Nat), .int .u32 (r.y : Nat), .string (strOf r.val), .bool r.ghost]] w (RetB w (recL r)) := by
  obtain ⟨id, key, x, y, val, ghost⟩ := r
  obtain ⟨h1, h2, h3, h4⟩ := hr
  simp only at h1 h2 h3 h4 hv
  have R0 := Lib.hid (At.new w 38 #[.int .u64 (id : Int), .int .u64 (key : Int), .int .u32 (x : Int), .int .u32 (y : Int), .string (strOf val), .bool ghost])
  have ex := wrap_nat h3
  have ey := wrap_nat h4
  have p8 : ∀ n : Nat, (putL n (8 : Int).toNat).length = 8 := fun n => putL_length 8 n
  have p4 : ∀ n : Nat, (putL n (4 : Int).toNat).length = 4 := fun n => putL_length 4 n
  have P8 := Lib.hid p8
  have P4 := Lib.hid p4
  clear p8 p4
  cases ghost with
  | false =>
    go_enter Tryd.func45, Tryd.ntmps45
    go_wp2_with fail
    refine (wrefPut_any 8 id 8 _ (by omega) (by omega) (by omega) (by omega)).mono ?_
    rintro e w1 ⟨A1, c1, rfl, ho1, hb1⟩
    rw [P8.out] at ho1 ⊢
    have G1 : Hid (Grow w w.heap.size 38 #[.int .u64 (id : Int), .int .u64 (key : Int), .int .u32 (x : Int), .int .u32 (y : Int), .string (strOf val), .bool false] (putL id (8 : Int).toNat) (.slice A1 8 c1) w1) :=
      Lib.hid (Grow.first rfl (R0.out.under hb1 R0.out.lt) (by rw [P8.out]; have := ho1; rwa [show (w.alloc (.cells #[.int .u64 (id : Int), .int .u64 (key : Int), .int .u32 (x : Int), .int .u32 (y : Int), .string (strOf val), .bool false] 38)).heap.size = w.heap.size + 1 by simp] at this) (hb1.mono (by simp)))
    clear ho1 hb1
    have cx : w1.cell? ⟨w.heap.size, 1, none⟩ = some (.int .u64 (key : Int)) := G1.out.box.cell 1
    go_wp2_with fail
    refine (wrefPut_any 8 key 8 w1 (by omega) (by omega) (by omega) (by omega)).mono ?_
    rintro e w2 ⟨A2, c2, rfl, ho2, hb2⟩
    rw [P8.out] at ho2 ⊢
    have G2 := Lib.hid (G1.out.call hb2)
    have I2 := Lib.hid (Lies.of_own ho2)
    clear ho2 hb2 G1
    go_wp2_with (at_builtin; refine wpList_grow rfl (.tmp 9) (.tmp 12) rfl rfl G2.out w2.heap.size _ _ _ _ rfl I2.out (by simp [putL_length]) (by omega) ?_; intro v3 w3 g3; have G3 := Lib.hid g3; clear g3; have cx : w3.cell? ⟨w.heap.size, 2, none⟩ = some (.int .u32 (x : Int)) := G3.out.box.cell 2)
    refine (wrefPut_any 8 x 4 w3 (by omega) (by omega) (by omega) (by omega)).mono ?_
    rintro e w4 ⟨A4, c4, rfl, ho4, hb4⟩
    rw [P4.out] at ho4 ⊢
    have G4 := Lib.hid (G3.out.call hb4)
    have I4 := Lib.hid (Lies.of_own ho4)
    clear ho4 hb4 G3
    go_wp2_with (at_builtin; refine wpList_grow rfl (.tmp 14) (.tmp 18) rfl rfl G4.out w4.heap.size _ _ _ _ rfl I4.out (by simp [putL_length]) (by omega) ?_; intro v5 w5 g5; have G5 := Lib.hid g5; clear g5; have cy : w5.cell? ⟨w.heap.size, 3, none⟩ = some (.int .u32 (y : Int)) := G5.out.box.cell 3)
    refine (wrefPut_any 8 y 4 w5 (by omega) (by omega) (by omega) (by omega)).mono ?_
    rintro e w6 ⟨A6, c6, rfl, ho6, hb6⟩
    rw [P4.out] at ho6 ⊢
    have G6 := Lib.hid (G5.out.call hb6)
    have I6 := Lib.hid (Lies.of_own ho6)
    clear ho6 hb6 G5
    go_wp2_with (first
                   | (at_builtin; refine wpList_grow rfl (.tmp 20) (.tmp 24) rfl rfl G6.out w6.heap.size _ _ _ _ rfl I6.out (by simp [putL_length]) (by omega) ?_; intro v7 w7 g7; have G7 := Lib.hid g7; clear g7; have cg : w7.cell? ⟨w.heap.size, 5, none⟩ = some (.bool false) := G7.out.box.cell 5)
                   | (at_builtin; refine wpList_grow rfl (.tmp 31) (.tmp 32) rfl rfl (G7.out.alloc _) _ _ _ _ [gB false] rfl (lies_byte _ _ _ _ rfl) (by simp [putL_length]) (by omega) ?_; intro v8 w8 g8; have G8 := Lib.hid g8; clear g8; have cv : w8.cell? ⟨w.heap.size, 4, none⟩ = some (.string (strOf val)) := G8.out.box.cell 4))
    refine (refText_ok (strOf val) 16 w8 (by omega) (by omega) (by rw [strOf_size]; omega)).mono ?_
    rintro e w9 ⟨A9, n9, c9, rfl, ho9, hb9⟩
    obtain rfl : n9 = 16 := by have := ho9.1; rw [BC_length, strOf_toList, show (16 : Int).toNat = 16 from rfl, fieldL_length _ _ (by omega)] at this; omega
    have G9 := Lib.hid (G8.out.call hb9)
    have I9 := Lib.hid (Lies.of_own ho9)
    clear ho9 hb9
    go_wp2_with (at_builtin; refine wpList_grow rfl (.tmp 40) (.tmp 41) rfl rfl G9.out w9.heap.size _ _ _ _ rfl I9.out (by simp [putL_length]) (by omega) ?_; intro v10 w10 g10)
    go_ret
    refine (g10.eq ?_).ret rfl
    rw [strOf_toList]
    simp [recL]
  | true =>
    go_enter Tryd.func45, Tryd.ntmps45
    go_wp2_with fail
    refine (wrefPut_any 8 id 8 _ (by omega) (by omega) (by omega) (by omega)).mono ?_
    rintro e w1 ⟨A1, c1, rfl, ho1, hb1⟩
    rw [P8.out] at ho1 ⊢
    have G1 : Hid (Grow w w.heap.size 38 #[.int .u64 (id : Int), .int .u64 (key : Int), .int .u32 (x : Int), .int .u32 (y : Int), .string (strOf val), .bool true] (putL id (8 : Int).toNat) (.slice A1 8 c1) w1) :=
      Lib.hid (Grow.first rfl (R0.out.under hb1 R0.out.lt) (by rw [P8.out]; have := ho1; rwa [show (w.alloc (.cells #[.int .u64 (id : Int), .int .u64 (key : Int), .int .u32 (x : Int), .int .u32 (y : Int), .string (strOf val), .bool true] 38)).heap.size = w.heap.size + 1 by simp] at this) (hb1.mono (by simp)))
    clear ho1 hb1
    have cx : w1.cell? ⟨w.heap.size, 1, none⟩ = some (.int .u64 (key : Int)) := G1.out.box.cell 1
    go_wp2_with fail
    refine (wrefPut_any 8 key 8 w1 (by omega) (by omega) (by omega) (by omega)).mono ?_
    rintro e w2 ⟨A2, c2, rfl, ho2, hb2⟩
    rw [P8.out] at ho2 ⊢
    have G2 := Lib.hid (G1.out.call hb2)
    have I2 := Lib.hid (Lies.of_own ho2)
    clear ho2 hb2 G1
    go_wp2_with (at_builtin; refine wpList_grow rfl (.tmp 9) (.tmp 12) rfl rfl G2.out w2.heap.size _ _ _ _ rfl I2.out (by simp [putL_length]) (by omega) ?_; intro v3 w3 g3; have G3 := Lib.hid g3; clear g3; have cx : w3.cell? ⟨w.heap.size, 2, none⟩ = some (.int .u32 (x : Int)) := G3.out.box.cell 2)
    refine (wrefPut_any 8 x 4 w3 (by omega) (by omega) (by omega) (by omega)).mono ?_
    rintro e w4 ⟨A4, c4, rfl, ho4, hb4⟩
    rw [P4.out] at ho4 ⊢
    have G4 := Lib.hid (G3.out.call hb4)
    have I4 := Lib.hid (Lies.of_own ho4)
    clear ho4 hb4 G3
    go_wp2_with (at_builtin; refine wpList_grow rfl (.tmp 14) (.tmp 18) rfl rfl G4.out w4.heap.size _ _ _ _ rfl I4.out (by simp [putL_length]) (by omega) ?_; intro v5 w5 g5; have G5 := Lib.hid g5; clear g5; have cy : w5.cell? ⟨w.heap.size, 3, none⟩ = some (.int .u32 (y : Int)) := G5.out.box.cell 3)
    refine (wrefPut_any 8 y 4 w5 (by omega) (by omega) (by omega) (by omega)).mono ?_
    rintro e w6 ⟨A6, c6, rfl, ho6, hb6⟩
    rw [P4.out] at ho6 ⊢
    have G6 := Lib.hid (G5.out.call hb6)
    have I6 := Lib.hid (Lies.of_own ho6)
    clear ho6 hb6 G5
    go_wp2_with (first
                   | (at_builtin; refine wpList_grow rfl (.tmp 20) (.tmp 24) rfl rfl G6.out w6.heap.size _ _ _ _ rfl I6.out (by simp [putL_length]) (by omega) ?_; intro v7 w7 g7; have G7 := Lib.hid g7; clear g7; have cg : w7.cell? ⟨w.heap.size, 5, none⟩ = some (.bool true) := G7.out.box.cell 5)
                   | (at_builtin; refine wpList_grow rfl (.tmp 28) (.tmp 29) rfl rfl (G7.out.alloc _) _ _ _ _ [gB true] rfl (lies_byte _ _ _ _ rfl) (by simp [putL_length]) (by omega) ?_; intro v8 w8 g8; have G8 := Lib.hid g8; clear g8; have cv : w8.cell? ⟨w.heap.size, 4, none⟩ = some (.string (strOf val)) := G8.out.box.cell 4))
    refine (refText_ok (strOf val) 16 w8 (by omega) (by omega) (by rw [strOf_size]; omega)).mono ?_
    rintro e w9 ⟨A9, n9, c9, rfl, ho9, hb9⟩
    obtain rfl : n9 = 16 := by have := ho9.1; rw [BC_length, strOf_toList, show (16 : Int).toNat = 16 from rfl, fieldL_length _ _ (by omega)] at this; omega
    have G9 := Lib.hid (G8.out.call hb9)
    have I9 := Lib.hid (Lies.of_own ho9)
    clear ho9 hb9
    go_wp2_with (at_builtin; refine wpList_grow rfl (.tmp 40) (.tmp 41) rfl rfl G9.out w9.heap.size _ _ _ _ rfl I9.out (by simp [putL_length]) (by omega) ?_; intro v10 w10 g10)
    go_ret
    refine (g10.eq ?_).ret rfl
    rw [strOf_toList]
    simp [recL]
end Go.Proofs.YthicidpdgggbjaaDoor

/-
  Laws of no program: the steps of a region that draws its order, and the slices x[k:], x[:k].
  Conditions: none beyond those that each theorem names.
-/

namespace Go.Proofs.YthicidpdgggbjaaDoor
open Go.RowKit
set_option maxRecDepth 8000

section
variable {P : Program} {ops : Array Oper} {Q : Exit → Act → World → Prop} {md : Region.Mode} {S : World → Prop}
/-- An operation that is carried out, taken first: its slot written out. -/
theorem takeH {i d : Nat} {oi : Oper} {v : Value} {fuel : Nat} {listed : Array Bool} {ts : Array Value} {ds : List Deferred} {w : World} (hi : ops[i]? = some oi)
    (hs : Region.noSelect ops = true) (hf : Region.free md ops listed i = true) (hr : (Region.ready md ops listed).contains i = true)
    (hQ : ∀ c a w, Q (.panic c) (a.put oi.dst v) w → Q (.panic c) a w) (hd : oi.dst = some d) (hw : Region.wanted oi (yielded ops ts) = true)
    (hy : ∀ w, S w → (execOp (Act.eval ⟨ts, ds⟩) oi).run P w = .ok (.value v) w) (hS : S w)
    (h : wpAnyH P md ops Q S fuel (listed.setIfInBounds i true) ⟨ts.setIfInBounds d v, ds⟩ w) : wpAnyH P md ops Q S (fuel + 1) listed ⟨ts, ds⟩ w := by
  refine wpAnyH_take hi hs hf hr hQ (Or.inl ⟨hw, hy⟩) hS ?_
  rw [hd]
  exact h
/-- An operation whose guard says no. -/
theorem skipH {i d : Nat} {oi : Oper} {fuel : Nat} {listed : Array Bool} {ts : Array Value} {ds : List Deferred} {w : World} (hi : ops[i]? = some oi)
    (hs : Region.noSelect ops = true) (hf : Region.free md ops listed i = true) (hr : (Region.ready md ops listed).contains i = true)
    (hQ : ∀ c a w, Q (.panic c) (a.put oi.dst undef) w → Q (.panic c) a w) (hd : oi.dst = some d) (hw : Region.wanted oi (yielded ops ts) = false) (hS : S w)
    (h : wpAnyH P md ops Q S fuel (listed.setIfInBounds i true) ⟨ts.setIfInBounds d undef, ds⟩ w) : wpAnyH P md ops Q S (fuel + 1) listed ⟨ts, ds⟩ w := by
  refine wpAnyH_take hi hs hf hr hQ (Or.inr ⟨hw, rfl⟩) hS ?_
  rw [hd]
  exact h
end

/-- The address that the model keeps of x[k:]. -/
def tailA (A : Option Addr) (c k : Nat) : Option Addr := if c = k then A else A.map (·.add k)
theorem Lies.tailA {w : World} {B n c k : Nat} {A : Option Addr} {xs : List Value} (h : Lies w B 1 A n xs) (hk : k ≤ n) (hc : n ≤ c) : Lies w B 1 (tailA A c k) (n - k) (xs.drop k) :=
  h.tail hk _ fun hlt => by unfold YthicidpdgggbjaaDoor.tailA; rw [if_neg (by omega)]

theorem run_tail {P : Program} (t e : TypeId) (ht : P.underlying t = some (.slice e)) (hi : (P.info? e).map (·.size) = some 1) (A : Option Addr) (n c k : Nat) (hk : k ≤ n) (w : World) :
    (Instr.slice t (.slice A n c) (some (.int .i64 (k : Int))) none none).run P w = .ok (.slice (tailA A c k) (n - k) (c - k)) w := by
  cases hq : P.info? e with
  | none => simp [hq] at hi
  | some i =>
    have hs : i.size = 1 := by simpa [hq] using hi
    have h0 : (0 : Int) ≤ k := by omega
    have h1 : (k : Int) ≤ n := by omega
    simp [Instr.slice, Instr.sliceBounds, Instr.sliceBound, asIntOf, run_underlying ht, sizeOf, typeInfo, hq, hs, hk, tailA]
theorem run_head {P : Program} (t e : TypeId) (ht : P.underlying t = some (.slice e)) (hi : (P.info? e).map (·.size) = some 1) (A : Option Addr) (n c k : Nat) (hk : k ≤ c) (w : World) :
    (Instr.slice t (.slice A n c) none (some (.int .i64 (k : Int))) none).run P w = .ok (.slice A k c) w := by
  cases hq : P.info? e with
  | none => simp [hq] at hi
  | some i =>
    have hz : ∀ a : Addr, a.add 0 = a := fun a => by simp [Addr.add]
    simp [Instr.slice, Instr.sliceBounds, Instr.sliceBound, asIntOf, run_underlying ht, sizeOf, typeInfo, hq, hk, hz]
end Go.Proofs.YthicidpdgggbjaaDoor

/-
  Pages in memory: a slice of pages, and the laws on loading and storing a whole struct.
  Conditions: none beyond those that each theorem names.
-/

namespace Go.Proofs.YthicidpdgggbjaaDoor
open Go.RowKit
set_option maxRecDepth 8000

def imL (i : Im) : List Value := .int .i64 i.page :: BC i.p.toList
def imA (i : Im) : Array Value := (imL i).toArray
theorem imL_length (i : Im) : (imL i).length = 225 := by rw [imL, List.length_cons, BC_length, Vector.length_toList]
theorem imA_size (i : Im) : (imA i).size = 225 := by rw [imA, List.size_toArray, imL_length]
theorem imL_one (i : Im) : ∀ u ∈ imL i, u.oneCell' = true := by
  intro u hu
  rcases List.mem_cons.1 hu with rfl | hu
  · rfl
  · exact BC_one _ u hu
theorem imA_one (i : Im) : (imA i).all (·.oneCell') = true := all_oneCell_toArray (imL_one i)
theorem imA_page (i : Im) : (imA i)[0]? = some (.int .i64 i.page) := rfl
theorem imL_byte (i : Im) (j : Nat) (h : j < 224) : (imL i)[1 + j]? = some (.int .u8 ((i.p.toList.getD j 0).toNat : Int)) := by
  rw [Nat.add_comm, imL, List.getElem?_cons_succ, BC_get _ j (by simpa using h), List.getD_eq_getElem?_getD, List.getElem?_eq_getElem (by simpa using h)]
  rfl
def flatI : List Im → List Value
  | [] => []
  | i :: r => imL i ++ flatI r
theorem flatI_length : ∀ l : List Im, (flatI l).length = l.length * 225
  | [] => rfl
  | b :: r => by rw [flatI, List.length_append, imL_length, flatI_length r, List.length_cons]; omega
theorem flatI_append : ∀ l m : List Im, flatI (l ++ m) = flatI l ++ flatI m
  | [], _ => rfl
  | b :: r, m => by rw [List.cons_append, flatI, flatI, flatI_append r m, List.append_assoc]
theorem flatI_single (i : Im) : flatI [i] = imL i := by rw [flatI, flatI, List.append_nil]
theorem flatI_one : ∀ l : List Im, ∀ u ∈ flatI l, u.oneCell' = true
  | [], u, h => by simp [flatI] at h
  | b :: r, u, h => by
    rw [flatI, List.mem_append] at h
    rcases h with h | h
    · exact imL_one b u h
    · exact flatI_one r u h
theorem flatI_range {w : World} {b o : Nat} {l : List Im} {k : Nat} (h : w.rangeAt b o (flatI l)) (hk : k < l.length) : w.rangeAt b (o + k * 225) (imL l[k]) := fun j v hv => by
  have hj : j < 225 := by
    have := (List.getElem?_eq_some_iff.1 hv).1
    rwa [imL_length] at this
  rw [Nat.add_assoc]
  refine h _ v ?_
  have e : l = l.take k ++ ([l[k]] ++ l.drop (k + 1)) := by simp
  rw [e, flatI_append, flatI_append, List.getElem?_append_right (by rw [flatI_length, List.length_take]; omega), List.getElem?_append_left (by rw [flatI_length, flatI_length, List.length_take]; simp; omega), flatI_single, flatI_length, List.length_take, Nat.min_eq_left (by omega), show k * 225 + j - k * 225 = j from by omega]
  exact hv

/-- A slice of pages. -/
structure LI (w : World) (B : Nat) (A : Option Addr) (n : Nat) (l : List Im) : Prop where
  len : l.length = n
  spot : 0 < n → ∃ b o, A = some ⟨b, o, none⟩ ∧ b < B ∧ w.rangeAt b o (flatI l)
section
variable {w w' : World} {B B' n : Nat} {A : Option Addr} {l : List Im}
theorem rangeAt_block {b o : Nat} {cs : List Value} (h : w.rangeAt b o cs) (hb : w'.heap[b]? = w.heap[b]?) : w'.rangeAt b o cs := fun j v hv => by
  rw [World.cell?_of_block (w := w) (a := ⟨b, o + j, none⟩) hb]
  exact h j v hv
theorem LI.empty : LI w B A 0 [] := ⟨rfl, fun h => absurd h (Nat.lt_irrefl 0)⟩
theorem LI.under (h : LI w B A n l) (hb : Below B w w') : LI w' B A n l := by
  refine ⟨h.len, fun hn => ?_⟩
  obtain ⟨b, o, ha, hlt, hr⟩ := h.spot hn
  exact ⟨b, o, ha, hlt, rangeAt_block hr (hb.block b hlt)⟩
theorem LI.up (h : LI w B A n l) (hB : B ≤ B') : LI w B' A n l := by
  refine ⟨h.len, fun hn => ?_⟩
  obtain ⟨b, o, ha, hlt, hr⟩ := h.spot hn
  exact ⟨b, o, ha, Nat.lt_of_lt_of_le hlt hB, hr⟩
theorem LI.drewN (h : LI w B A n l) (k : Nat) : LI (w.drewN k) B A n l := h.under ⟨rfl, rfl, rfl, Nat.le_refl _, fun _ _ => rfl⟩
theorem LI.alloc (h : LI w B A n l) (hB : B ≤ w.heap.size) (o : Obj) : LI (w.alloc o) B A n l := h.under ((Below.refl B w).alloc hB o)
theorem LI.grown {v : Value} (h : LI w B A n l) (hg : w.grownBy w' v.ownBlock) (hB : B ≤ w.heap.size) (ho : Off n v A) : LI w' B A n l := by
  refine ⟨h.len, fun hn => ?_⟩
  obtain ⟨b, o, ha, hlt, hr⟩ := h.spot hn
  exact ⟨b, o, ha, hlt, rangeAt_block hr (hg.block b (by omega) (fun e => ho hn b _ e.symm ha rfl))⟩
theorem LI.at {k : Nat} (h : LI w B A n l) (hk : k < n) : ∃ b o, ∃ hl : k < l.length, A = some ⟨b, o, none⟩ ∧ b < B ∧ w.rangeAt b (o + k * 225) (imL (l[k]'hl)) := by
  obtain ⟨b, o, ha, hlt, hr⟩ := h.spot (by omega)
  have hl : k < l.length := by rw [h.len]; exact hk
  exact ⟨b, o, hl, ha, hlt, flatI_range hr hl⟩
theorem LI.of_own {base c : Nat} (h : w.ownsRow base 98 225 (.slice A n c) n (flatI l)) : LI w w.heap.size A n l := by
  have hl : l.length = n := by have := h.1; rw [flatI_length] at this; omega
  refine ⟨hl, fun hn => ?_⟩
  have hc := @World.ownsRow.cells w base 98 225 (.slice A n c) n (flatI l) h
  rcases h.2 with ⟨_, h0⟩ | ⟨g, cap, cur, hv, hb, hg, _⟩
  · omega
  · injection hv with hA
    subst hA
    refine ⟨g, 0, rfl, (Array.getElem?_eq_some_iff.1 hg).1, fun j u hu => ?_⟩
    have := hc rfl j u hu
    rwa [Addr.add_mid] at this
end
theorem im_page {w : World} {b o : Nat} {i : Im} (h : w.rangeAt b o (imL i)) : w.cell? ⟨b, o, none⟩ = some (.int .i64 i.page) := h 0 _ rfl
theorem im_byte {w : World} {b o j : Nat} {i : Im} (h : w.rangeAt b o (imL i)) (hj : j < 224) : w.cell? ⟨b, o + 1 + j, none⟩ = some (.int .u8 ((i.p.toList.getD j 0).toNat : Int)) := by
  have := h (1 + j) _ (imL_byte i j hj)
  rwa [← Nat.add_assoc] at this
theorem at_range {w : World} {g : Nat} {t : TypeId} {cs : List Value} (h : At w g t cs.toArray) : w.rangeAt g 0 cs := fun j v hv => by
  rw [Nat.zero_add, h.cell j]
  simpa using hv

/-! ### Whole structs -/
/-- A type of several cells. -/
def Str (ty : TypeId) (n : Nat) : Prop := ∃ d, Tryd.prog.underlying ty = some d ∧ (match d with | .struct _ | .array _ _ => true | _ => false) = true ∧ (Tryd.prog.info? ty).map (·.size) = some n
theorem str25 : Str 38 6 := ⟨_, Tryd.underlying38, rfl, by kernel_rfl⟩
theorem str29 : Str 42 13 := ⟨_, Tryd.underlying42, rfl, by kernel_rfl⟩
theorem str49 : Str 96 224 := ⟨_, Tryd.underlying96, rfl, by kernel_rfl⟩
theorem str51 : Str 98 225 := ⟨_, Tryd.underlying98, rfl, by kernel_rfl⟩
theorem str69 : Str 135 2 := ⟨_, Tryd.underlying135, rfl, by kernel_rfl⟩

section
variable {ops : Array Oper} {rest : List Oper} {op : Oper} {a : Act} {w : World} {Q : Exit → Act → World → Prop}
theorem wpList_load_at (ty d : Nat) (x : Operand) (hop : op.dst = some d) (hgd : op.guard = none) (ho : op.op = .load ty x) (g : Nat) (hx : a.eval x = .pointer (some ⟨g, 0, none⟩)) (cs : Array Value) (n : Nat) (hs : Str ty n) (hn : cs.size = n)
    (hc : At w g ty cs) (h : wpList Tryd.prog ops Q rest (a.put (some d) (.agg cs)) w) : wpList Tryd.prog ops Q (op :: rest) a w := by
  obtain ⟨ds, h1, h2, h3⟩ := hs
  refine wpList_load_row hgd ty x ho g hx ty cs (0, 0) ds hc h1 (by cases ds <;> first | rfl | cases h2) (by rw [hn]; exact h3) ?_
  rw [hop]
  exact h
theorem wpList_load_im (d : Nat) (x : Operand) (hop : op.dst = some d) (hgd : op.guard = none) (ho : op.op = .load 98 x) (g o : Nat) (hx : a.eval x = .pointer (some ⟨g, o, none⟩)) (i : Im)
    (hc : w.rangeAt g o (imL i)) (h : wpList Tryd.prog ops Q rest (a.put (some d) (.agg (imA i))) w) : wpList Tryd.prog ops Q (op :: rest) a w := by
  obtain ⟨ds, h1, h2, h3⟩ := str51
  refine wpList_load_mid hgd 98 x ho g o hx (imL i) ds hc h1 h2 (by rw [imL_length]; exact h3) ?_
  rw [hop]
  exact h
theorem grown_setRow (w : World) (g : Nat) (cs : Array Value) : w.grownBy (w.setRow g cs) (some g) :=
  ⟨rfl, rfl, rfl, by simp, fun k _ hk => setRow_other w g k cs (fun e => hk (by rw [e]))⟩
theorem wpList_store_at (ty : Nat) (x y : Operand) (hop : op.dst = none) (hgd : op.guard = none) (ho : op.op = .store ty x y) (g : Nat) (hx : a.eval x = .pointer (some ⟨g, 0, none⟩)) (cs old : Array Value) (n : Nat) (hy : a.eval y = .agg cs)
    (hs : Str ty n) (hn : cs.size = n) (hn2 : old.size = n) (h1 : cs.all (·.oneCell') = true) (hc : At w g ty old)
    (h : ∀ w', At w' g ty cs → w.grownBy w' (some g) → wpList Tryd.prog ops Q rest (a.put none undef) w') : wpList Tryd.prog ops Q (op :: rest) a w := by
  obtain ⟨ds, _, _, h3⟩ := hs
  refine wpList_store_row hgd ty x y ho g cs hx hy ty old hc (by rw [hn]; exact h3) (by rw [hn, hn2]) h1 ?_
  rw [hop]
  exact h _ (setRow_heap w g old cs ty (0, 0) hc) (grown_setRow w g cs)
/-- A store into the block that was made just before. -/
theorem wpList_store_new (ty : Nat) (x y : Operand) (hop : op.dst = none) (hgd : op.guard = none) (ho : op.op = .store ty x y) (g : Nat) (w0 : World) (hg : g = w0.heap.size) (hx : a.eval x = .pointer (some ⟨g, 0, none⟩)) (cs old : Array Value) (n : Nat) (hy : a.eval y = .agg cs)
    (hs : Str ty n) (hn : cs.size = n) (hn2 : old.size = n) (h1 : cs.all (·.oneCell') = true) (hw : w = w0.alloc (.cells old ty))
    (h : wpList Tryd.prog ops Q rest (a.put none undef) (w0.alloc (.cells cs ty))) : wpList Tryd.prog ops Q (op :: rest) a w := by
  subst hg hw
  obtain ⟨ds, _, _, h3⟩ := hs
  refine wpList_store_row hgd ty x y ho w0.heap.size cs hx hy ty old (heap_alloc_new w0 _) (by rw [hn]; exact h3) (by rw [hn, hn2]) h1 ?_
  rw [hop, World.setRow_alloc_new]
  exact h
end
/-- What a function hands back that returns a struct out of a cell, and a value beside it. -/
theorem results_at2 {fn : Func} {p t : Tmp} {ty : TypeId} {tmps : Array Value} {w : World} {g n : Nat} {cs : Array Value} {v : Value} (hp : tmps.getD p undef = .pointer (some ⟨g, 0, none⟩)) (hc : At w g ty cs) (hs : Str ty n) (hn : cs.size = n)
    (h : fn.results = #[.cell p ty, .tmp t]) (hv : tmps.getD t undef = v) : (results fn tmps).run Tryd.prog w = .ok (.tuple #[.agg cs, v]) w := by
  obtain ⟨ds, h1, h2, h3⟩ := hs
  have hp' : tmps[p]?.getD undef = .pointer (some ⟨g, 0, none⟩) := by simpa using hp
  have hv' : tmps[t]?.getD undef = v := by simpa using hv
  have hl := run_loadVar_row w g ty ty cs (0, 0) ds hc h1 (by cases ds <;> first | rfl | cases h2) (by rw [hn]; exact h3)
  simp [results, h, hp', hv', asAddr, hl]
end Go.Proofs.YthicidpdgggbjaaDoor

/-
  Walks: rising, Check, the reference's Check, Light, Bound.
  Conditions: none beyond those that each theorem names.
-/

namespace Go.Proofs.YthicidpdgggbjaaDoor
open Go.RowKit
set_option maxRecDepth 8000


def RisR (w : World) (B : Nat) (A : Option Addr) (n : Nat) (l : List Im) (p i : Value) (wr : World) : Prop :=
  ∃ (k : Nat) (last : Int), k ≤ n ∧ i = .int .i64 k ∧ p = .int .i64 last ∧ Hid (risB last (l.drop k) = risB (-1) l) ∧ Hid (LI wr B A n l) ∧ Below w.heap.size w wr
theorem ris_no {l : List Im} {k : Nat} {last : Int} (hk : k < l.length) (h : l[k].page ≤ last ∨ 255 < l[k].page) : risB last (l.drop k) = false := by
  rw [List.drop_eq_getElem_cons hk, risB, if_pos h]
theorem ris_yes {l : List Im} {k : Nat} {last : Int} (hk : k < l.length) (h : ¬ (l[k].page ≤ last ∨ 255 < l[k].page)) : risB last (l.drop k) = risB l[k].page (l.drop (k + 1)) := by
  rw [List.drop_eq_getElem_cons hk, risB, if_neg h]

set_option maxHeartbeats 800000 in
theorem rising_any (B n c : Nat) (A : Option Addr) (l : List Im) (w : World) (h : LI w B A n l) (hB : B ≤ w.heap.size) (hn : n ≤ 1000) :
    Calls Tryd.prog 74 #[.slice A n c] w fun e w' => e = .returned (.bool (risB (-1) l)) ∧ Below w.heap.size w w' := by
  have HL := Lib.hid h.len
  have HH := Lib.hid h
  clear h
  go_enter Tryd.func74, Tryd.ntmps74
  go_wp2_with fail
  go_loopw [3, 8] (fun p i wr => RisR w B A n l p i wr) (fun _ i _ => n - (intOf i).toNat)
  case atStart => exact ⟨0, -1, Nat.zero_le _, rfl, rfl, Lib.hid rfl, HH, Below.refl _ _⟩
  case round =>
    obtain ⟨k, last, hk, rfl, rfl, hr, hli, hb⟩ := hrel
    by_cases hlt : k < n
    · obtain ⟨b, o, hl, rfl, hbB, hra⟩ := hli.out.at hlt
      have RA := Lib.hid hra
      have sb := hb.size
      have EQ1 := Lib.hid (fun h => ris_no (last := last) hl h)
      have EQ2 := Lib.hid (fun h => ris_yes (last := last) hl h)
      clear hra
      generalize hi : l[k] = im at *
      by_cases h1 : im.page ≤ last
      · have B1 := Lib.hid (hb.alloc sb (.cells (imA im) 98))
        have cp : (wr.alloc (.cells (imA im) 98)).cell? ⟨wr.heap.size, 0, none⟩ = some (.int .i64 im.page) := (At.new wr 98 (imA im)).cell 0
        go_wp2_with (first
          | refine wpList_load_im 11 (.tmp 10) rfl rfl rfl b (o + k * 225) rfl im RA.out ?_
          | refine wpList_store_new 98 (.tmp 5) (.tmp 11) rfl rfl rfl wr.heap.size wr rfl rfl (imA im) Tryd.zeroCells98 225 rfl str51 (imA_size _) Tryd.zeroCells98_size (imA_one _) rfl ?_)
        replace B1 := B1.out
        go_ret
        exact ⟨by rw [← hr.out, EQ1.out (.inl h1)]; rfl, B1⟩
      · by_cases h2 : 255 < im.page
        · have B1 := Lib.hid (hb.alloc sb (.cells (imA im) 98))
          have cp : (wr.alloc (.cells (imA im) 98)).cell? ⟨wr.heap.size, 0, none⟩ = some (.int .i64 im.page) := (At.new wr 98 (imA im)).cell 0
          go_wp2_with (first
            | refine wpList_load_im 11 (.tmp 10) rfl rfl rfl b (o + k * 225) rfl im RA.out ?_
            | refine wpList_store_new 98 (.tmp 5) (.tmp 11) rfl rfl rfl wr.heap.size wr rfl rfl (imA im) Tryd.zeroCells98 225 rfl str51 (imA_size _) Tryd.zeroCells98_size (imA_one _) rfl ?_)
          replace B1 := B1.out
          go_ret
          exact ⟨by rw [← hr.out, EQ1.out (.inr h2)]; rfl, B1⟩
        · have B1 := Lib.hid (hb.alloc sb (.cells (imA im) 98))
          have cp : (wr.alloc (.cells (imA im) 98)).cell? ⟨wr.heap.size, 0, none⟩ = some (.int .i64 im.page) := (At.new wr 98 (imA im)).cell 0
          go_wp2_with (first
            | refine wpList_load_im 11 (.tmp 10) rfl rfl rfl b (o + k * 225) rfl im RA.out ?_
            | refine wpList_store_new 98 (.tmp 5) (.tmp 11) rfl rfl rfl wr.heap.size wr rfl rfl (imA im) Tryd.zeroCells98 225 rfl str51 (imA_size _) Tryd.zeroCells98_size (imA_one _) rfl ?_)
          replace B1 := B1.out
          refine ⟨⟨k + 1, im.page, by omega, by go_num, rfl, Lib.hid ?_, Lib.hid ?_, B1⟩, by simp [intOf]; omega⟩
          · rw [← hr.out, EQ2.out (by omega)]
          · exact hli.out.under ((Below.refl _ _).alloc (by omega) _)
    · go_wp2_with fail
      go_ret
      obtain rfl : k = n := by omega
      have e : l.drop k = [] := List.drop_of_length_le (by rw [HL.out]; exact Nat.le_refl _)
      refine ⟨?_, hb⟩
      have := hr.out
      rw [e] at this
      rw [← this]
      rfl

/-- The slices of an entry. -/
structure EL (w : World) (B : Nat) (e : Ent) (PA : Option Addr) (np : Nat) (QA : Option Addr) (na : Nat) : Prop where
  pages : LI w B PA np e.pages
  act : Lies w B 1 QA na (UC e.act)
section
variable {w w' : World} {B B' np na : Nat} {e : Ent} {PA QA : Option Addr}
theorem EL.under (h : EL w B e PA np QA na) (hb : Below B w w') : EL w' B e PA np QA na := ⟨h.pages.under hb, h.act.under hb⟩
theorem EL.up (h : EL w B e PA np QA na) (hB : B ≤ B') : EL w B' e PA np QA na := ⟨h.pages.up hB, h.act.up hB⟩
theorem EL.lenP (h : EL w B e PA np QA na) : e.pages.length = np := h.pages.len
theorem EL.lenA (h : EL w B e PA np QA na) : e.act.length = na := by have := h.act.len; rw [UC_length] at this; omega
end

/-- A code comes back; what was there is as it was. -/
def RetC (w : World) (z : Int) (e : Ending) (w' : World) : Prop := e = .returned (.int .i64 z) ∧ Below w.heap.size w w'

set_option maxHeartbeats 800000 in
theorem check_any (e : Ent) (PA QA : Option Addr) (np pc na qc : Nat) (w : World) (h : EL w w.heap.size e PA np QA na) (hnp : np ≤ 1000) (hna : na ≤ 1000) (hv : e.rc.val.length ≤ 1000) :
    Calls Tryd.prog 54 #[.agg #[.int .u64 (e.lsn : Nat), .int .i64 e.kind, .int .u64 (e.txn : Nat), .int .u64 (e.prev : Nat), .int .u64 (e.next : Nat), .int .u64 (e.rc.id : Nat), .int .u64 (e.rc.key : Nat), .int .u32 (e.rc.x : Nat), .int .u32 (e.rc.y : Nat), .string (strOf e.rc.val), .bool e.rc.ghost, .slice PA np pc, .slice QA na qc]] w (RetC w (chk e)) := by
  have h1 := h.lenP
  have h2 := h.lenA
  have hs := strOf_size e.rc.val
  have B1 := Lib.hid ((Below.refl w.heap.size w).alloc (Nat.le_refl _) (.cells #[.int .u64 (e.lsn : Nat), .int .i64 e.kind, .int .u64 (e.txn : Nat), .int .u64 (e.prev : Nat), .int .u64 (e.next : Nat), .int .u64 (e.rc.id : Nat), .int .u64 (e.rc.key : Nat), .int .u32 (e.rc.x : Nat), .int .u32 (e.rc.y : Nat), .string (strOf e.rc.val), .bool e.rc.ghost, .slice PA np pc, .slice QA na qc] 42))
  have HP := Lib.hid h.pages
  have fin : ∀ z : Int, chk e = z → RetC w (chk e) (.returned (.int .i64 z)) (w.alloc (.cells #[.int .u64 (e.lsn : Nat), .int .i64 e.kind, .int .u64 (e.txn : Nat), .int .u64 (e.prev : Nat), .int .u64 (e.next : Nat), .int .u64 (e.rc.id : Nat), .int .u64 (e.rc.key : Nat), .int .u32 (e.rc.x : Nat), .int .u32 (e.rc.y : Nat), .string (strOf e.rc.val), .bool e.rc.ghost, .slice PA np pc, .slice QA na qc] 42)) := fun z hz => ⟨by rw [hz], B1.out⟩
  have FIN := Lib.hid fin
  clear fin h
  by_cases k1 : e.kind < 1
  · have C := Lib.hid (show chk e = 1 by rw [chk, if_pos (.inl k1)])
    go_enter Tryd.func54, Tryd.ntmps54
    go_wp2_with fail
    go_ret
    exact FIN.out _ C.out
  by_cases k2 : 10 < e.kind
  · have C := Lib.hid (show chk e = 1 by rw [chk, if_pos (.inr k2)])
    go_enter Tryd.func54, Tryd.ntmps54
    go_wp2_with fail
    go_ret
    exact FIN.out _ C.out
  have K := Lib.hid (show ¬ (e.kind < 1 ∨ 10 < e.kind) by omega)
  by_cases k3 : 15 < e.rc.val.length
  · have C := Lib.hid (show chk e = 9 by rw [chk, if_neg K.out, if_pos k3])
    go_enter Tryd.func54, Tryd.ntmps54
    go_wp2_with fail
    go_ret
    exact FIN.out _ C.out
  by_cases k4 : 24 < np
  · have C := Lib.hid (show chk e = 13 by rw [chk, if_neg K.out, if_neg k3, if_pos (.inl (by omega))])
    go_enter Tryd.func54, Tryd.ntmps54
    go_wp2_with fail
    go_ret
    exact FIN.out _ C.out
  by_cases k5 : 64 < na
  · have C := Lib.hid (show chk e = 13 by rw [chk, if_neg K.out, if_neg k3, if_pos (.inr (by omega))])
    go_enter Tryd.func54, Tryd.ntmps54
    go_wp2_with fail
    go_ret
    exact FIN.out _ C.out
  have C := Lib.hid (show chk e = if risB (-1) e.pages = true then 0 else 2 by rw [chk, if_neg K.out, if_neg k3, if_neg (by omega)])
  clear FIN
  have RI := Lib.hid (rising_any w.heap.size np pc PA e.pages (w.alloc (.cells #[.int .u64 (e.lsn : Nat), .int .i64 e.kind, .int .u64 (e.txn : Nat), .int .u64 (e.prev : Nat), .int .u64 (e.next : Nat), .int .u64 (e.rc.id : Nat), .int .u64 (e.rc.key : Nat), .int .u32 (e.rc.x : Nat), .int .u32 (e.rc.y : Nat), .string (strOf e.rc.val), .bool e.rc.ghost, .slice PA np pc, .slice QA na qc] 42)) (HP.out.alloc (Nat.le_refl _) _) (by simp) hnp)
  generalize hq : risB (-1) e.pages = q at *
  clear hq
  go_enter Tryd.func54, Tryd.ntmps54
  go_wp2_with fail
  refine RI.out.mono ?_
  rintro e1 w1 ⟨rfl, hb⟩
  have B2 := B1.out.trans (hb.mono (by simp))
  cases q with
  | true =>
    go_wp2_with fail
    go_ret
    exact ⟨by rw [C.out]; rfl, B2⟩
  | false =>
    go_wp2_with fail
    go_ret
    exact ⟨by rw [C.out]; rfl, B2⟩


def lightI (v p a : Nat) : Int := if 100 < v ∨ 40 < p ∨ 100 < a then 1 else 0
set_option maxHeartbeats 400000 in
theorem light_any (e : Ent) (PA QA : Option Addr) (np pc na qc : Nat) (w : World) (hnp : np ≤ maxLen) (hna : na ≤ maxLen) (hv : e.rc.val.length ≤ maxLen) :
    Calls Tryd.prog 21 #[.agg #[.int .u64 (e.lsn : Nat), .int .i64 e.kind, .int .u64 (e.txn : Nat), .int .u64 (e.prev : Nat), .int .u64 (e.next : Nat), .int .u64 (e.rc.id : Nat), .int .u64 (e.rc.key : Nat), .int .u32 (e.rc.x : Nat), .int .u32 (e.rc.y : Nat), .string (strOf e.rc.val), .bool e.rc.ghost, .slice PA np pc, .slice QA na qc]] w (RetC w (lightI e.rc.val.length np na)) := by
  have hs := strOf_size e.rc.val
  unfold maxLen at hnp hna hv
  have fin : ∀ z : Int, lightI e.rc.val.length np na = z → RetC w (lightI e.rc.val.length np na) (.returned (.int .i64 z)) (w.alloc (.cells #[.int .u64 (e.lsn : Nat), .int .i64 e.kind, .int .u64 (e.txn : Nat), .int .u64 (e.prev : Nat), .int .u64 (e.next : Nat), .int .u64 (e.rc.id : Nat), .int .u64 (e.rc.key : Nat), .int .u32 (e.rc.x : Nat), .int .u32 (e.rc.y : Nat), .string (strOf e.rc.val), .bool e.rc.ghost, .slice PA np pc, .slice QA na qc] 42)) := fun z hz => ⟨by rw [hz], (Below.refl w.heap.size w).alloc (Nat.le_refl _) _⟩
  have FIN := Lib.hid fin
  clear fin
  by_cases k1 : 100 < e.rc.val.length
  · have C := Lib.hid (show lightI e.rc.val.length np na = 1 by rw [lightI, if_pos (by omega)])
    go_enter Tryd.func21, Tryd.ntmps21
    go_wp2_with fail
    go_ret
    exact FIN.out _ C.out
  by_cases k2 : 40 < np
  · have C := Lib.hid (show lightI e.rc.val.length np na = 1 by rw [lightI, if_pos (by omega)])
    go_enter Tryd.func21, Tryd.ntmps21
    go_wp2_with fail
    go_ret
    exact FIN.out _ C.out
  by_cases k3 : 100 < na
  · have C := Lib.hid (show lightI e.rc.val.length np na = 1 by rw [lightI, if_pos (by omega)])
    go_enter Tryd.func21, Tryd.ntmps21
    go_wp2_with fail
    go_ret
    exact FIN.out _ C.out
  have C := Lib.hid (show lightI e.rc.val.length np na = 0 by rw [lightI, if_neg (by omega)])
  go_enter Tryd.func21, Tryd.ntmps21
  go_wp2_with fail
  go_ret
  exact FIN.out _ C.out
end Go.Proofs.YthicidpdgggbjaaDoor

/-
  The walks of littleEndian, seal.Put and the reference's Put.
  Conditions: at most 100000 bytes.
-/

namespace Go.Proofs.YthicidpdgggbjaaDoor
open Go.RowKit
set_option maxRecDepth 8000
open Crc (regI)

theorem lies_cells (w : World) (cs : Array Value) (t : TypeId) (fr : Nat × Nat) : Lies (w.alloc (.cells cs t fr)) (w.heap.size + 1) 1 (some ⟨w.heap.size, 0, none⟩) cs.size cs.toList := by
  refine ⟨by simp, fun _ => ⟨_, rfl, Nat.lt_succ_self _, fun j u hu => ?_⟩⟩
  have hadd : (⟨w.heap.size, 0, none⟩ : Addr).add j = ⟨w.heap.size, j, none⟩ := by unfold Addr.add; split <;> simp_all
  rw [hadd, cell_of_row _ w.heap.size j cs t fr (heap_alloc_new w _)]
  simpa using hu

def LeR (w : World) (s : Nat) (out i : Value) (wr : World) : Prop :=
  ∃ k : Nat, k ≤ 4 ∧ i = .int .i64 k ∧ Hid (wr.ownsRow w.heap.size 5 1 out k (BC ((Crc.le4 s).take k))) ∧ Below w.heap.size w wr

theorem le_byte (s k : Nat) (h : k < 4) : (regI s / 2 ^ (8 * k) % 256) = (((Crc.le4 s)[k]'(by simpa [Crc.le4] using h)).toNat : Int) := by
  have e : ∀ m : Nat, ((s : Int) / 2 ^ m % 256) = ((UInt8.ofNat (s >>> m)).toNat : Int) := by
    intro m
    rw [UInt8.toNat_ofNat', Nat.shiftRight_eq_div_pow, Int.natCast_emod, Int.natCast_ediv, Int.natCast_pow]
    rfl
  unfold regI
  match k, h with
  | 0, _ => exact e 0
  | 1, _ => exact e 8
  | 2, _ => exact e 16
  | 3, _ => exact e 24

set_option maxHeartbeats 400000 in
theorem le_any (s : Nat) (w : World) (hs : s < 2 ^ 32) : Calls Tryd.prog 80 #[.int .u32 (regI s)] w (RetB w (Crc.le4 s)) := by
  obtain ⟨i0, hi0, hz0, hz1, hz2⟩ := info_parts u8_info
  have hsb := Crc.regI_lt hs
  go_enter Tryd.func80, Tryd.ntmps80
  go_wp2_with fail
  go_loopw [3, 5] (fun out i wr => LeR w s out i wr) (fun _ i _ => 4 - (intOf i).toNat)
  case atStart => exact ⟨0, by omega, rfl, Lib.hid (World.ownsRow_nil w w.heap.size 5 1), Below.refl _ _⟩
  case round =>
    obtain ⟨k, hk, rfl, ho, hb⟩ := hrel
    by_cases hlt : k < 4
    · go_wp2_with (at_builtin; refine wpList_app _ rfl (.tmp 8) (.tmp 14) _ rfl w.heap.size 5 i0 _ 1 1 Tryd.underlying59 hi0 hz0 hz1 hz2 rfl (by omega) _ _ _ rfl (ho.out.alloc _) _ _ _ _ _ rfl (lies_new _ _ _) (by intro u hu; rw [List.mem_singleton.1 hu]; rfl) (by simp only [maxLen]; omega) (by omega) (by have := hb.size; simp; omega) ?_; intro v2 w2 hown2 hg)
      refine ⟨⟨k + 1, by omega, by go_num, Lib.hid (own_len hown2 ?_), below_own (hb.alloc hb.size _) (ho.out.alloc _) hg (Nat.le_refl _) (by have := hb.size; simp; omega)⟩, by simp [intOf]; omega⟩
      rw [take_snoc (Crc.le4 s) k (by simpa [Crc.le4] using hlt), BC_append, le_byte s k hlt]
      rfl
    · go_wp2_with fail
      go_ret
      obtain rfl : k = 4 := by omega
      exact RetB.mk ho.out hb

theorem le4_length (s : Nat) : (Crc.le4 s).length = 4 := rfl
/-- The sealed bytes. -/
def sealL (l : List UInt8) : List UInt8 := l ++ Crc.le4 (Crc.sumN l)
theorem sealL_length (l : List UInt8) : (sealL l).length = l.length + 4 := by simp [sealL, le4_length]

set_option maxHeartbeats 400000 in
theorem put_any (B n c : Nat) (A : Option Addr) (l : List UInt8) (w : World) (h : Lies w B 1 A n (BC l)) (hB : B ≤ w.heap.size) (hn : n ≤ 90000) :
    Calls Tryd.prog 58 #[.slice A n c] w (RetB w (sealL l)) := by
  obtain ⟨i0, hi0, hz0, hz1, hz2⟩ := info_parts u8_info
  have hl : l.length = n := by have := h.len; rw [BC_length] at this; omega
  have HL := Lib.hid hl
  have HH := Lib.hid h
  clear hl h
  go_enter Tryd.func58, Tryd.ntmps58
  go_wp2_with fail
  refine (clone_any B n c A l w HH.out hB (by omega)).mono ?_
  rintro e w1 ⟨A1, c1, rfl, ho1, hb1⟩
  rw [HL.out] at ho1 ⊢
  have s1 := hb1.size
  have H1 := Lib.hid (HH.out.under (hb1.mono hB))
  have O1 := Lib.hid ho1
  clear ho1 HH
  go_wp2_with fail
  refine (sum_any B n c A l w1 H1.out (by omega) (by omega)).mono ?_
  rintro e w2 ⟨rfl, hb2⟩
  have s2 := hb2.size
  have O2 := Lib.hid (own_under O1.out hb2 (Nat.le_refl _))
  have B2 := hb1.trans (hb2.mono s1)
  clear O1 hb1 H1 hb2
  go_wp2_with fail
  refine (le_any (Crc.sumN l) w2 (Crc.sumN_lt l)).mono ?_
  rintro e w3 ⟨A3, c3, rfl, ho3, hb3⟩
  rw [le4_length] at ho3 ⊢
  have s3 := hb3.size
  have L3 := Lib.hid (Lies.of_own ho3)
  have O3 := Lib.hid (own_under O2.out hb3 (Nat.le_refl _))
  have B3 := B2.trans (hb3.mono B2.size)
  clear O2 hb3 ho3 B2
  go_wp2_with (at_builtin; refine wpList_app _ rfl (.tmp 4) (.tmp 7) _ rfl w.heap.size 5 i0 _ 1 1 Tryd.underlying59 hi0 hz0 hz1 hz2 rfl (by omega) _ _ _ rfl O3.out w3.heap.size _ _ _ _ rfl L3.out (BC_one _) (by simp only [maxLen]; omega) (by omega) (by omega) ?_; intro v4 w4 ho4 hg4)
  go_ret
  refine RetB.mk (n := n + 4) (own_len ho4 ?_) (below_own B3 O3.out hg4 (Nat.le_refl _) B3.size)
  rw [sealL, BC_append]

set_option maxHeartbeats 400000 in
theorem refPut_any (B n c : Nat) (A : Option Addr) (l : List UInt8) (w : World) (h : Lies w B 1 A n (BC l)) (hB : B ≤ w.heap.size) (hn : n ≤ 90000) :
    Calls Tryd.prog 47 #[.slice A n c] w (RetB w (sealL l)) := by
  obtain ⟨i0, hi0, hz0, hz1, hz2⟩ := info_parts u8_info
  have hl : l.length = n := by have := h.len; rw [BC_length] at this; omega
  have HL := Lib.hid hl
  have HH := Lib.hid h
  have hsb := Crc.regI_lt (Crc.sumN_lt l)
  clear hl h
  go_enter Tryd.func47, Tryd.ntmps47
  go_wp2_with fail
  refine (refSum_any B n c A l w HH.out (by omega)).mono ?_
  rintro e w1 ⟨rfl, rfl⟩
  go_wp2_with (first
    | (at_builtin; refine wpList_app _ rfl (.tmp 7) (.tmp 8) _ rfl w.heap.size 5 i0 _ 1 1 Tryd.underlying59 hi0 hz0 hz1 hz2 rfl (by omega) _ 0 [] rfl (World.ownsRow_nil w _ _ _) w.heap.size _ _ _ _ rfl (HH.out.up hB) (BC_one _) (by simp only [maxLen]; omega) (by omega) (Nat.le_refl _) ?_; intro v1 w1 ho1 hg1; have O1 := Lib.hid ho1; clear ho1; have B1 := below_own (Below.refl w.heap.size w) (World.ownsRow_nil w w.heap.size 5 1) hg1 (Nat.le_refl _) (Nat.le_refl _); have s1 := B1.size; clear hg1)
    | (at_builtin; refine wpList_app _ rfl (.tmp 10) (.tmp 22) _ rfl w.heap.size 5 i0 _ 1 1 Tryd.underlying59 hi0 hz0 hz1 hz2 rfl (by omega) _ _ _ rfl (O1.out.alloc _) _ _ 4 _ _ rfl (lies_cells _ _ _ _) (by intro u hu; simp at hu; rcases hu with rfl | rfl | rfl | rfl <;> rfl) (by simp only [maxLen]; omega) (by omega) (by simp; omega) ?_; intro v2 w2 ho2 hg2))
  go_ret
  refine RetB.mk (n := 0 + n + 4) (own_len ho2 ?_) (below_own (B1.alloc s1 _) (O1.out.alloc _) hg2 (Nat.le_refl _) (by simp; omega))
  rw [sealL, BC_append, List.nil_append]
  congr 1
  have e : ∀ m : Nat, (regI (Crc.sumN l) / 2 ^ m % 256) = ((UInt8.ofNat (Crc.sumN l >>> m)).toNat : Int) := by
    intro m
    rw [UInt8.toNat_ofNat', Nat.shiftRight_eq_div_pow, Int.natCast_emod, Int.natCast_ediv, Int.natCast_pow]
    rfl
  have e0 := e 0
  have e8 : regI (Crc.sumN l) / 256 % 256 = _ := e 8
  have e16 : regI (Crc.sumN l) / 65536 % 256 = _ := e 16
  have e24 : regI (Crc.sumN l) / 16777216 % 256 = _ := e 24
  rw [Int.emod_eq_of_lt (by omega) (by omega)] at e24
  simp only [Nat.shiftRight_zero, Int.pow_zero, Int.ediv_one] at e0
  rw [e0, e8, e16, e24]
  rfl
end Go.Proofs.YthicidpdgggbjaaDoor

/-
  The walk of seal.Get.
  Conditions: at most 100000 bytes.
-/

namespace Go.Proofs.YthicidpdgggbjaaDoor
open Go.RowKit
set_option maxRecDepth 8000
open Crc (regI)

theorem u8_size : (Tryd.prog.info? 5).map (·.size) = some 1 := by kernel_rfl

/-- No bytes come back. -/
def NoB (w : World) (e : Ending) (w' : World) : Prop := e = .returned (.tuple #[.slice none 0 0, .bool false]) ∧ Below w.heap.size w w'
/-- Bytes come back, in a row of their own. -/
def YesB (w : World) (l : List UInt8) (e : Ending) (w' : World) : Prop :=
  ∃ A c, e = .returned (.tuple #[.slice A l.length c, .bool true]) ∧ w'.ownsRow w.heap.size 5 1 (.slice A l.length c) l.length (BC l) ∧ Below w.heap.size w w'
def GetB (z : Bool) (w : World) (l : List UInt8) (e : Ending) (w' : World) : Prop := if z = true then YesB w l e w' else NoB w e w'

set_option maxHeartbeats 1000000 in
theorem get_short (n c : Nat) (A : Option Addr) (w : World) (hn : n < 4) : Calls Tryd.prog 69 #[.slice A n c] w (NoB w) := by
  have h0 : decide ((n : Int) - 4 < 0) = true := by simp; omega
  go_enter Tryd.func69, Tryd.ntmps69
  go_wp2_with fail
  refine wp_region_held_drew (S := fun _ => True) (by kernel_rfl) trivial (fun hS => ?_)
  refine takeH (i := 0) (d := 8) (v := ?va0) rfl (by kernel_rfl) (by kernel_rfl) (by kernel_rfl) (fun _ _ _ h => h) rfl (by rfl) ?ya0 hS ?ra0
  case ya0 => (intro wz _; go_simp <;> with_reducible rfl)
  simp only [List.setIfInBounds_toArray, List.set_cons_zero, List.set_cons_succ]
  refine takeH (i := 1) (d := 9) (v := ?va1) rfl (by kernel_rfl) (by kernel_rfl) (by kernel_rfl) (fun _ _ _ h => h) rfl (by rfl) ?ya1 hS ?ra1
  case ya1 => (intro wz _; go_simp <;> with_reducible rfl)
  simp only [List.setIfInBounds_toArray, List.set_cons_zero, List.set_cons_succ]
  refine takeH (i := 2) (d := 10) (v := ?va2) rfl (by kernel_rfl) (by kernel_rfl) (by kernel_rfl) (fun _ _ _ h => h) rfl (by rfl) ?ya2 hS ?ra2
  case ya2 => (intro wz _; go_simp <;> with_reducible rfl)
  simp only [List.setIfInBounds_toArray, List.set_cons_zero, List.set_cons_succ]
  refine skipH (i := 3) (d := 11) rfl (by kernel_rfl) (by kernel_rfl) (by kernel_rfl) (fun _ _ _ h => h) rfl (by rfl) hS ?_
  simp only [List.setIfInBounds_toArray, List.set_cons_zero, List.set_cons_succ]
  refine skipH (i := 4) (d := 12) rfl (by kernel_rfl) (by kernel_rfl) (by kernel_rfl) (fun _ _ _ h => h) rfl (by rfl) hS ?_
  simp only [List.setIfInBounds_toArray, List.set_cons_zero, List.set_cons_succ]
  refine skipH (i := 5) (d := 13) rfl (by kernel_rfl) (by kernel_rfl) (by kernel_rfl) (fun _ _ _ h => h) rfl (by rfl) hS ?_
  simp only [List.setIfInBounds_toArray, List.set_cons_zero, List.set_cons_succ]
  refine skipH (i := 6) (d := 14) rfl (by kernel_rfl) (by kernel_rfl) (by kernel_rfl) (fun _ _ _ h => h) rfl (by rfl) hS ?_
  simp only [List.setIfInBounds_toArray, List.set_cons_zero, List.set_cons_succ]
  refine skipH (i := 7) (d := 15) rfl (by kernel_rfl) (by kernel_rfl) (by kernel_rfl) (fun _ _ _ h => h) rfl (by rfl) hS ?_
  simp only [List.setIfInBounds_toArray, List.set_cons_zero, List.set_cons_succ]
  refine skipH (i := 8) (d := 16) rfl (by kernel_rfl) (by kernel_rfl) (by kernel_rfl) (fun _ _ _ h => h) rfl (by rfl) hS ?_
  simp only [List.setIfInBounds_toArray, List.set_cons_zero, List.set_cons_succ]
  refine skipH (i := 9) (d := 17) rfl (by kernel_rfl) (by kernel_rfl) (by kernel_rfl) (fun _ _ _ h => h) rfl (by rfl) hS ?_
  simp only [List.setIfInBounds_toArray, List.set_cons_zero, List.set_cons_succ]
  refine skipH (i := 10) (d := 18) rfl (by kernel_rfl) (by kernel_rfl) (by kernel_rfl) (fun _ _ _ h => h) rfl (by rfl) hS ?_
  simp only [List.setIfInBounds_toArray, List.set_cons_zero, List.set_cons_succ]
  refine skipH (i := 11) (d := 19) rfl (by kernel_rfl) (by kernel_rfl) (by kernel_rfl) (fun _ _ _ h => h) rfl (by rfl) hS ?_
  simp only [List.setIfInBounds_toArray, List.set_cons_zero, List.set_cons_succ]
  refine skipH (i := 12) (d := 20) rfl (by kernel_rfl) (by kernel_rfl) (by kernel_rfl) (fun _ _ _ h => h) rfl (by rfl) hS ?_
  simp only [List.setIfInBounds_toArray, List.set_cons_zero, List.set_cons_succ]
  refine takeH (i := 13) (d := 21) (v := ?va13) rfl (by kernel_rfl) (by kernel_rfl) (by kernel_rfl) (fun _ _ _ h => h) rfl (by rfl) ?ya13 hS ?ra13
  case ya13 => (intro wz _; go_simp <;> with_reducible rfl)
  simp only [List.setIfInBounds_toArray, List.set_cons_zero, List.set_cons_succ]
  refine wpAnyH_done (by kernel_rfl) ?_ _
  go_wp2_with fail
  go_ret2
  exact ⟨rfl, (Below.refl _ _).drew⟩

set_option maxHeartbeats 1000000 in
theorem get_long (m c : Nat) (A : Option Addr) (l : List UInt8) (w : World) (z : Bool) (h : Lies w w.heap.size 1 A (m + 4) (BC l)) (hn : m ≤ 90000) (hc : m + 4 ≤ c)
    (hz : (l.drop m == Crc.le4 (Crc.sumN (l.take m))) = z) :
    Calls Tryd.prog 69 #[.slice A (m + 4) c] w (GetB z w (l.take m)) := by
  have hl : l.length = m + 4 := by have := h.len; rw [BC_length] at this; omega
  have HL := Lib.hid (show (l.take m).length = m by rw [List.length_take]; omega)
  have HM := Lib.hid (show Lies w w.heap.size 1 A m (BC (l.take m)) by rw [← BC_take]; exact h.head (by omega))
  have HT := Lib.hid (show Lies w w.heap.size 1 (tailA A c m) 4 (BC (l.drop m)) by rw [← BC_drop]; have := h.tailA (k := m) (by omega) hc; rwa [show m + 4 - m = 4 from by omega] at this)
  have HZ := Lib.hid hz
  have rt := fun W => run_tail (P := Tryd.prog) 59 5 Tryd.underlying59 u8_size A (m + 4) c m (by omega) W
  have rh := fun W => run_head (P := Tryd.prog) 59 5 Tryd.underlying59 u8_size A (m + 4) c m (by omega) W
  rw [show m + 4 - m = 4 from by omega] at rt
  clear h hl hz
  have h0 : decide ((m : Int) < 0) = false := by simp
  go_enter Tryd.func69, Tryd.ntmps69
  go_wp2_with fail
  refine wp_region_held_drew (S := fun _ => True) (by kernel_rfl) trivial (fun hS => ?_)
  refine takeH (i := 0) (d := 8) (v := ?vb0) rfl (by kernel_rfl) (by kernel_rfl) (by kernel_rfl) (fun _ _ _ h => h) rfl (by rfl) ?yb0 hS ?rb0
  case yb0 => (intro wz _; go_simp <;> with_reducible rfl)
  simp only [List.setIfInBounds_toArray, List.set_cons_zero, List.set_cons_succ]
  refine takeH (i := 1) (d := 9) (v := ?vb1) rfl (by kernel_rfl) (by kernel_rfl) (by kernel_rfl) (fun _ _ _ h => h) rfl (by rfl) ?yb1 hS ?rb1
  case yb1 => (intro wz _; go_simp <;> with_reducible rfl)
  simp only [List.setIfInBounds_toArray, List.set_cons_zero, List.set_cons_succ]
  refine takeH (i := 2) (d := 10) (v := ?vb2) rfl (by kernel_rfl) (by kernel_rfl) (by kernel_rfl) (fun _ _ _ h => h) rfl (by rfl) ?yb2 hS ?rb2
  case yb2 => (intro wz _; go_simp <;> with_reducible rfl)
  simp only [List.setIfInBounds_toArray, List.set_cons_zero, List.set_cons_succ]
  refine takeH (i := 3) (d := 11) (v := ?vb3) rfl (by kernel_rfl) (by kernel_rfl) (by kernel_rfl) (fun _ _ _ h => h) rfl (by rfl) ?yb3 hS ?rb3
  case yb3 => (intro wz _; go_simp <;> with_reducible rfl)
  simp only [List.setIfInBounds_toArray, List.set_cons_zero, List.set_cons_succ]
  refine takeH (i := 4) (d := 12) (v := ?vb4) rfl (by kernel_rfl) (by kernel_rfl) (by kernel_rfl) (fun _ _ _ h => h) rfl (by rfl) ?yb4 hS ?rb4
  case yb4 => (intro wz _; go_simp <;> with_reducible rfl)
  simp only [List.setIfInBounds_toArray, List.set_cons_zero, List.set_cons_succ]
  refine takeH (i := 5) (d := 13) (v := ?vb5) rfl (by kernel_rfl) (by kernel_rfl) (by kernel_rfl) (fun _ _ _ h => h) rfl (by rfl) ?yb5 hS ?rb5
  case yb5 => (intro wz _; go_simp <;> with_reducible rfl)
  simp only [List.setIfInBounds_toArray, List.set_cons_zero, List.set_cons_succ]
  refine takeH (i := 6) (d := 14) (v := ?vb6) rfl (by kernel_rfl) (by kernel_rfl) (by kernel_rfl) (fun _ _ _ h => h) rfl (by rfl) ?yb6 hS ?rb6
  case yb6 => (intro wz _; go_simp <;> with_reducible rfl)
  simp only [List.setIfInBounds_toArray, List.set_cons_zero, List.set_cons_succ]
  refine takeH (i := 7) (d := 15) (v := ?vb7) rfl (by kernel_rfl) (by kernel_rfl) (by kernel_rfl) (fun _ _ _ h => h) rfl (by rfl) ?yb7 hS ?rb7
  case yb7 => (intro wz _; go_simp <;> with_reducible rfl)
  simp only [List.setIfInBounds_toArray, List.set_cons_zero, List.set_cons_succ]
  refine takeH (i := 8) (d := 16) (v := ?vb8) rfl (by kernel_rfl) (by kernel_rfl) (by kernel_rfl) (fun _ _ _ h => h) rfl (by rfl) ?yb8 hS ?rb8
  case yb8 => (intro wz _; go_simp <;> with_reducible rfl)
  simp only [List.setIfInBounds_toArray, List.set_cons_zero, List.set_cons_succ]
  refine wpAnyH_ready (rs := [9]) (by kernel_rfl) (by simp) ?_
  refine AllReadyH.cons rfl (fun K hK => ?_) AllReadyH.nil
  go_simp
  refine (sum_any w.heap.size m c A (l.take m) _ (HM.out.under (Below.refl _ _).drew) (Nat.le_refl _) (by omega)).mono ?_
  rintro e w1 ⟨rfl, hb1⟩
  have B1 := Lib.hid ((Below.refl w.heap.size w).drew.trans hb1)
  have s1 := hb1.size
  clear hb1
  refine hK.out _ _ trivial (fun hS => ?_)
  clear hK
  refine wpAnyH_ready (rs := [10]) (by kernel_rfl) (by simp) ?_
  refine AllReadyH.cons rfl (fun K hK => ?_) AllReadyH.nil
  go_simp
  refine (le_any (Crc.sumN (l.take m)) w1 (Crc.sumN_lt _)).mono ?_
  rintro e w2 ⟨A2, c2, rfl, ho2, hb2⟩
  rw [le4_length] at ho2 ⊢
  have B2 := Lib.hid (B1.out.trans (hb2.mono s1))
  have s2 := hb2.size
  have L2 := Lib.hid (Lies.of_own ho2)
  clear ho2 hb2
  refine hK.out _ _ trivial (fun hS => ?_)
  clear hK
  refine wpAnyH_ready (rs := [11]) (by kernel_rfl) (by simp) ?_
  refine AllReadyH.cons rfl (fun K hK => ?_) AllReadyH.nil
  go_simp
  refine (equal_any w.heap.size _ _ _ _ _ _ _ _ _ w2 (HT.out.under B2.out) L2.out).mono ?_
  rintro e w3 ⟨rfl, rfl⟩
  rw [HZ.out]
  refine hK.out _ _ trivial (fun hS => ?_)
  clear hK
  refine takeH (i := 12) (d := 20) (v := ?vb12) rfl (by kernel_rfl) (by kernel_rfl) (by kernel_rfl) (fun _ _ _ h => h) rfl (by rfl) ?yb12 hS ?rb12
  case yb12 => (intro wz _; go_simp <;> with_reducible rfl)
  simp only [List.setIfInBounds_toArray, List.set_cons_zero, List.set_cons_succ]
  refine takeH (i := 13) (d := 21) (v := ?vb13) rfl (by kernel_rfl) (by kernel_rfl) (by kernel_rfl) (fun _ _ _ h => h) rfl (by rfl) ?yb13 hS ?rb13
  case yb13 => (intro wz _; go_simp <;> with_reducible rfl)
  simp only [List.setIfInBounds_toArray, List.set_cons_zero, List.set_cons_succ]
  refine wpAnyH_done (by kernel_rfl) ?_ _
  cases z with
  | false =>
    simp only [Bool.not_false]
    go_wp2_with fail
    go_ret2
    exact ⟨rfl, B2.out⟩
  | true =>
    simp only [Bool.not_true]
    go_wp2_with fail
    refine (clone_any w.heap.size m c A (l.take m) w2 (HM.out.under B2.out) B2.out.size (by omega)).mono ?_
    rintro e w4 ⟨A4, c4, rfl, ho4, hb4⟩
    rw [HL.out] at ho4 ⊢
    have O4 := Lib.hid ho4
    clear ho4
    go_wp2_with fail
    go_ret2
    refine ⟨A4, c4, ?_, ?_, B2.out.trans (hb4.mono B2.out.size)⟩
    · rw [HL.out]; rfl
    · rw [HL.out]; exact own_base O4.out B2.out.size
end Go.Proofs.YthicidpdgggbjaaDoor

/-
  Walks: bytes.TrimRight of the byte 0, putPage, the reference's length.
  Conditions: none beyond those that each theorem names.
-/

namespace Go.Proofs.YthicidpdgggbjaaDoor
open Go.RowKit
set_option maxRecDepth 8000

theorem u8_zero {b : UInt8} : ((b.toNat : Int) == 0) = decide (b = 0) := by
  rw [Bool.eq_iff_iff, beq_iff_eq, decide_eq_true_eq]
  constructor
  · intro h
    apply UInt8.toNat_inj.1
    simpa using h
  · rintro rfl; rfl

theorem lies_k (w : World) (cs : List Value) (t : TypeId) (n k : Nat) (hn : cs.length = n) (hk : k = w.heap.size) : Lies (w.alloc (.cells cs.toArray t)) (w.heap.size + 1) 1 (some ⟨k, 0, none⟩) n cs := by
  subst hk
  exact lies_new' w cs t n hn

set_option maxHeartbeats 400000 in
theorem trimByte_any (B n c : Nat) (A : Option Addr) (l : List UInt8) (w : World) (h : Lies w B 1 A n (BC l)) (hn : n ≤ 1000) (hc : n ≤ c) :
    Calls Tryd.prog 87 #[.slice A n c, .int .u8 0] w fun e w' => e = .returned (.slice A (sN l n) c) ∧ w = w' := by
  have hl : l.length = n := by have := h.len; rw [BC_length] at this; omega
  have HL := Lib.hid hl
  have HH := Lib.hid h
  clear hl h
  go_enter Tryd.func87, Tryd.ntmps87
  go_wp2_with fail
  go_loop [0] (fun s => ∃ m : Nat, m ≤ n ∧ s = .slice A m c ∧ Hid (sN l m = sN l n)) (fun s => lenOf s)
  case atStart => exact ⟨n, Nat.le_refl _, rfl, Lib.hid rfl⟩
  case round =>
    obtain ⟨m, hm, rfl, hs⟩ := hrel
    cases m with
    | zero =>
      go_wp2_with fail
      go_ret
      exact ⟨by rw [← hs.out]; rfl, rfl⟩
    | succ m =>
      obtain ⟨a, u, rfl, hb, hx, hcell⟩ := HH.out.get (k := m) (by omega)
      have hml : m < l.length := by rw [HL.out]; omega
      rw [BC_get l m hml] at hx
      injection hx with hx
      subst hx
      have hD := Lib.hid (show l.getD m 0 = l[m] by rw [List.getD_eq_getElem?_getD, List.getElem?_eq_getElem hml]; rfl)
      have rh := fun W => run_head (P := Tryd.prog) 59 5 Tryd.underlying59 u8_size (some a) (m + 1) c m (by omega) W
      have hz := u8_zero (b := l[m])
      generalize l[m] = y at *
      by_cases h0 : y = 0
      · have hd : decide (y = 0) = true := by simpa using h0
        rw [hd] at hz
        have H0 := Lib.hid h0
        clear h0 hd
        go_wp2_with fail
        go_round
        case rel => exact ⟨m, by omega, rfl, Lib.hid (by rw [← hs.out, sN, if_pos (by rw [hD.out]; exact H0.out)])⟩
        case measure => simp only [lenOf]; omega
      · have hd : decide (y = 0) = false := by simpa using h0
        rw [hd] at hz
        have H0 := Lib.hid h0
        clear h0 hd
        go_wp2_with fail
        go_ret
        refine ⟨?_, rfl⟩
        rw [← hs.out, sN, if_neg (by rw [hD.out]; exact H0.out)]
        rfl

set_option maxHeartbeats 400000 in
theorem trimRight_any (B n c : Nat) (A : Option Addr) (l : List UInt8) (w : World) (h : Lies w B 1 A n (BC l)) (h0 : 0 < n) (hn : n ≤ 1000) (hc : n ≤ c) :
    Calls Tryd.prog 78 #[.slice A n c, .string ⟨#[0]⟩] w fun e w' => e = .returned (.slice A (sN l n) c) ∧ w = w' := by
  have TB := Lib.hid (trimByte_any B n c A l w h hn hc)
  clear h
  have hne : ((n : Int) == 0) = false := by rw [beq_eq_false_iff_ne]; omega
  go_enter Tryd.func78, Tryd.ntmps78
  go_wp2_with (go_at_call 87; refine TB.out.mono ?_; rintro e w' ⟨rfl, rfl⟩)
  go_ret
  exact ⟨rfl, rfl⟩

set_option maxHeartbeats 800000 in
theorem putPage_any (base n c : Nat) (A : Option Addr) (l : List UInt8) (im : Im) (w : World) (ho : w.ownsRow base 5 1 (.slice A n c) n (BC l)) (hbase : base ≤ w.heap.size) (hn : n ≤ 10000) (h0 : 0 ≤ im.page) (h1 : im.page ≤ 255) :
    Calls Tryd.prog 57 #[.slice A n c, .agg (imA im)] w (RetO w base (l ++ pageL im)) := by
  obtain ⟨i0, hi0, hz0, hz1, hz2⟩ := info_parts u8_info
  have AT := Lib.hid (At.new w 98 (imA im))
  have OW := Lib.hid (ho.alloc (.cells (imA im) 98))
  have hst := stN_le im.p
  have hwp : IntKind.u8.wrap im.page = im.page := by rw [IntKind.wrap_u8]; omega
  have LI0 : Hid (Lies (w.alloc (.cells (imA im) 98)) (w.heap.size + 1) 1 (some ⟨w.heap.size, 1, none⟩) 224 (BC im.p.toList)) := by
    refine ⟨by rw [BC_length, Vector.length_toList], fun _ => ⟨_, rfl, Nat.lt_succ_self _, fun j u hu => ?_⟩⟩
    rw [Addr.add_mid, AT.out.cell, imA, List.getElem?_toArray, Nat.add_comm, imL, List.getElem?_cons_succ]
    exact hu
  have TR := Lib.hid (trimRight_any _ 224 224 _ _ _ LI0.out (by omega) (by omega) (by omega))
  have hsn : sN im.p.toList 224 = stN im.p := rfl
  rw [hsn] at TR
  clear hsn
  have hws : IntKind.u8.wrap (stN im.p : Int) = (stN im.p : Int) := by rw [IntKind.wrap_u8]; omega
  have HLT := Lib.hid (show ∀ k, (Value.slice A n c).ownBlock = some k → k < w.heap.size from fun k hk => (ho.lt k hk).2)
  have hl : l.length = n := by have := ho.1; rw [BC_length] at this; omega
  have HL := Lib.hid hl
  clear hl ho
  have LST : Hid (Lies (w.alloc (.cells (imA im) 98)) (w.heap.size + 1) 1 (some ⟨w.heap.size, 1, none⟩) (stN im.p) (BC (stored im.p))) := by
    have := LI0.out.head (k := stN im.p) hst
    rw [BC_take] at this
    exact this
  clear LI0
  have hbb : BC [UInt8.ofNat im.page.toNat, UInt8.ofNat (stN im.p)] = [.int .u8 im.page, .int .u8 (stN im.p : Int)] := by
    simp only [BC, List.map_cons, List.map_nil, toNat_ofNat (show im.page.toNat < 256 by omega), toNat_ofNat (show stN im.p < 256 by omega)]
    rw [show ((im.page.toNat : Nat) : Int) = im.page by omega]
  have HBB := Lib.hid hbb
  clear hbb
  have B0 := Lib.hid ((Below.refl base w).alloc hbase (.cells (imA im) 98))
  have cp : (w.alloc (.cells (imA im) 98)).cell? ⟨w.heap.size, 0, none⟩ = some (.int .i64 im.page) := AT.out.cell 0
  go_enter Tryd.func57, Tryd.ntmps57
  go_wp2_with fail
  refine TR.out.mono ?_
  rintro e1 w1 ⟨rfl, rfl⟩
  go_wp2_with (first
    | (at_builtin; refine wpList_app _ rfl (.tmp 9) (.tmp 16) _ rfl base 5 i0 _ 1 1 Tryd.underlying59 hi0 hz0 hz1 hz2 rfl (by omega) _ _ _ rfl (OW.out.alloc _) _ _ _ _ [.int .u8 im.page, .int .u8 (stN im.p : Int)] rfl (lies_k _ [.int .u8 im.page, .int .u8 (stN im.p : Int)] _ 2 _ rfl (by simp)) (by intro u hu; simp at hu; rcases hu with rfl | rfl <;> rfl) (by simp only [maxLen]; omega) (by omega) (by simp; omega) ?_
       intro v2 w2 ho2 hg2
       have O2 := Lib.hid ho2
       have L2 := Lib.hid (((LST.out.alloc (by simp) (.cells #[.int .u8 im.page, .int .u8 (stN im.p : Int)] 5)).grown (v := .slice A n c) hg2 (by intro _ k a hk ha; injection ha with ha; subst ha; have := HLT.out k hk; simp; omega)))
       have B2 := Lib.hid (below_own (B0.out.alloc (by simp; omega) _) (OW.out.alloc _) hg2 (Nat.le_refl _) (by simp; omega))
       have s2 := hg2.size
       clear ho2 hg2)
    | (at_builtin; refine wpList_app _ rfl (.tmp 18) (.tmp 19) _ rfl base 5 i0 _ 1 1 Tryd.underlying59 hi0 hz0 hz1 hz2 rfl (by omega) _ _ _ rfl O2.out _ _ _ _ _ rfl L2.out (BC_one _) (by simp only [maxLen]; omega) (by omega) (by simp at s2; omega) ?_
       intro v3 w3 ho3 hg3))
  go_ret
  refine RetO.mk (own_len ho3 ?_) (below_own B2.out O2.out hg3 (Nat.le_refl _) (by simp at s2; omega))
  rw [← HBB.out]
  simp [pageL, BC_append]
  rfl
end Go.Proofs.YthicidpdgggbjaaDoor

/-
  The plain mathematics of a log: bytes as sectors, entries as sectors one behind the other, and which entries are whole.
  Conditions: none beyond those that each theorem names.
-/

namespace Go.Proofs.YthicidpdgggbjaaDoor
set_option maxRecDepth 8000

/-! ### Bytes and sectors -/
def bI (l : List UInt8) : List Int := l.map fun b => (b.toNat : Int)
theorem bI_length (l : List UInt8) : (bI l).length = l.length := by simp [bI]
theorem bI_append (l m : List UInt8) : bI (l ++ m) = bI l ++ bI m := by simp [bI]
theorem BC_CL (l : List UInt8) : BC l = CL (bI l) := by simp [BC, CL, bI, Function.comp_def]
@[irreducible] def padS (l : List UInt8) : Sect := Vector.ofFn fun j : Fin 64 => ((l.getD j 0).toNat : Int)
theorem padS_toList (l : List UInt8) (h : l.length ≤ 64) : (padS l).toList = bI l ++ List.replicate (64 - l.length) 0 := by
  unfold padS bI
  apply List.ext_getElem (by simp; omega)
  intro i h1 h2
  simp only [Vector.getElem_toList, Vector.getElem_ofFn, List.getD_eq_getElem?_getD]
  by_cases hi : i < l.length
  · rw [List.getElem?_eq_getElem hi, List.getElem_append_left (by simpa using hi)]; simp
  · rw [List.getElem?_eq_none (by omega), List.getElem_append_right (by simp; omega)]; simp
theorem padS_get (l : List UInt8) (j : Nat) (h : j < 64) : (padS l)[j] = ((l.getD j 0).toNat : Int) := by
  unfold padS
  simp
theorem zsec_get (j : Nat) (h : j < 64) : zsec[j] = 0 := by
  unfold zsec
  simp

def numSec (n : Nat) : Nat := (n + 53) / 54
def share (l : List UInt8) (i : Nat) : List UInt8 := (l.drop (54 * i)).take 54
theorem share_len (l : List UInt8) (i : Nat) : (share l i).length = min 54 (l.length - 54 * i) := by
  rw [share, List.length_take, List.length_drop]
theorem share_ok {l : List UInt8} {i : Nat} (h : i < numSec l.length) : 1 ≤ (share l i).length ∧ (share l i).length ≤ 54 := by
  rw [share_len]
  unfold numSec at h
  omega
theorem share_full {l : List UInt8} {i : Nat} (h : i + 1 < numSec l.length) : (share l i).length = 54 := by
  rw [share_len]
  unfold numSec at h
  omega
theorem take_share (l : List UInt8) (i : Nat) : l.take (54 * i) ++ share l i = l.take (54 * (i + 1)) := by
  rw [share, show 54 * (i + 1) = 54 * i + 54 from by omega, List.take_add]
theorem take_all (l : List UInt8) {i : Nat} (h : numSec l.length ≤ i) : l.take (54 * i) = l := by
  apply List.take_of_length_le
  unfold numSec at h
  omega
def flagN (f l : Bool) : Nat := (if f then 1 else 0) + (if l then 2 else 0)
theorem flagN_le (f l : Bool) : flagN f l ≤ 3 := by cases f <;> cases l <;> decide
/-- The bytes of the sector with number m, ahead of the zeros. -/
def secL (sh : List UInt8) (m : Nat) (f l : Bool) : List UInt8 := putL m 8 ++ ([UInt8.ofNat (flagN f l), UInt8.ofNat sh.length] ++ sh)
theorem secL_length (sh : List UInt8) (m : Nat) (f l : Bool) : (secL sh m f l).length = 10 + sh.length := by
  simp [secL, putL_length]
  omega
def secOf (sh : List UInt8) (m : Nat) (f l : Bool) : Sect := padS (secL sh m f l)
theorem secOf_list {sh : List UInt8} (m : Nat) (f l : Bool) (h : sh.length ≤ 54) : (secOf sh m f l).toList = bI (putL m 8) ++ ([(flagN f l : Int), (sh.length : Int)] ++ (bI sh ++ List.replicate (54 - sh.length) 0)) := by
  have h3 := flagN_le f l
  rw [secOf, padS_toList _ (by rw [secL_length]; omega), secL_length, secL, bI_append, bI_append]
  rw [show 64 - (10 + sh.length) = 54 - sh.length from by omega]
  have e1 : bI [UInt8.ofNat (flagN f l), UInt8.ofNat sh.length] = [(flagN f l : Int), (sh.length : Int)] := by
    simp [bI]
    omega
  rw [e1]
  simp
/-- Bytes as sectors, from position p on. -/
def cutS (l : List UInt8) (p : Nat) : List Sect := (List.range (numSec l.length)).map fun i => secOf (share l i) (p + i + 1) (i == 0) (i + 1 == numSec l.length)
theorem cutS_length (l : List UInt8) (p : Nat) : (cutS l p).length = numSec l.length := by simp [cutS]
theorem cutS_get (l : List UInt8) (p i : Nat) (h : i < numSec l.length) : (cutS l p)[i]? = some (secOf (share l i) (p + i + 1) (i == 0) (i + 1 == numSec l.length)) := by
  simp [cutS, h]

/-! ### Entries -/
def enc (e : Ent) : List UInt8 := sealL (entL e)
def wid (e : Ent) : Nat := numSec (enc e).length
structure Gd (e : Ent) : Prop where
  ok : e.ok
  chk : chk e = 0
theorem enc_len {e : Ent} (h : Gd e) : 1 ≤ (enc e).length ∧ (enc e).length ≤ 6016 := by
  have g := chk_zero h.chk
  have h1 := entL_length e g.val
  have h2 := g.pages
  have h3 := g.act
  rw [enc, sealL_length]
  omega
theorem wid_ok {e : Ent} (h : Gd e) : 1 ≤ wid e ∧ wid e ≤ 112 := by
  have := enc_len h
  unfold wid numSec
  omega
def pos (es : List Ent) : Nat := (es.map wid).sum
theorem pos_nil : pos [] = 0 := rfl
theorem pos_cons (e : Ent) (es : List Ent) : pos (e :: es) = wid e + pos es := rfl
theorem pos_append (a b : List Ent) : pos (a ++ b) = pos a + pos b := by simp [pos]
theorem pos_snoc (a : List Ent) (e : Ent) : pos (a ++ [e]) = pos a + wid e := by rw [pos_append, pos_cons, pos_nil]; omega
theorem pos_take_succ {es : List Ent} {m : Nat} (h : m < es.length) : pos (es.take (m + 1)) = pos (es.take m) + wid es[m] := by
  rw [List.take_succ_eq_append_getElem h, pos_snoc]
theorem pos_take_le (es : List Ent) (m : Nat) : pos (es.take m) ≤ pos es := by
  have : es = es.take m ++ es.drop m := by simp
  conv => rhs; rw [this, pos_append]
  omega
theorem pos_take_mono (es : List Ent) {m k : Nat} (h : m ≤ k) : pos (es.take m) ≤ pos (es.take k) := by
  have := pos_take_le (es.take k) m
  rwa [List.take_take, Nat.min_eq_left h] at this
def lay : List Ent → Nat → List Sect
  | [], _ => []
  | e :: r, p => cutS (enc e) p ++ lay r (p + wid e)
/-- Entries that bear their numbers and that entry.Put takes. -/
def Numd : List Ent → Nat → Prop
  | [], _ => True
  | e :: r, p => e.lsn = p + 1 ∧ Gd e ∧ Numd r (p + wid e)
theorem lay_length : ∀ (es : List Ent) (p : Nat), (lay es p).length = pos es
  | [], _ => rfl
  | e :: r, p => by rw [lay, List.length_append, cutS_length, lay_length r, pos_cons]; rfl
theorem lay_append : ∀ (a b : List Ent) (p : Nat), lay (a ++ b) p = lay a p ++ lay b (p + pos a)
  | [], b, p => rfl
  | e :: r, b, p => by rw [List.cons_append, lay, lay, lay_append r b, List.append_assoc, pos_cons, Nat.add_assoc]
theorem lay_snoc (a : List Ent) (e : Ent) (p : Nat) : lay (a ++ [e]) p = lay a p ++ cutS (enc e) (p + pos a) := by
  rw [lay_append, lay, lay, List.append_nil]
theorem numd_append : ∀ (a b : List Ent) (p : Nat), Numd (a ++ b) p ↔ Numd a p ∧ Numd b (p + pos a)
  | [], b, p => by simp [Numd, pos_nil]
  | e :: r, b, p => by rw [List.cons_append, Numd, Numd, numd_append r b, pos_cons, Nat.add_assoc]; constructor <;> (intro h; simp_all)
theorem numd_snoc (a : List Ent) (e : Ent) (p : Nat) : Numd (a ++ [e]) p ↔ Numd a p ∧ e.lsn = p + pos a + 1 ∧ Gd e := by
  rw [numd_append, Numd, Numd]
  simp
theorem numd_take {es : List Ent} {p : Nat} (m : Nat) (h : Numd es p) : Numd (es.take m) p := by
  have : es = es.take m ++ es.drop m := by simp
  rw [this, numd_append] at h
  exact h.1
theorem numd_get {es : List Ent} {p m : Nat} (h : Numd es p) (hm : m < es.length) : es[m].lsn = p + pos (es.take m) + 1 ∧ Gd es[m] := by
  have h1 := numd_take (m + 1) h
  rw [List.take_succ_eq_append_getElem hm, numd_snoc] at h1
  exact h1.2
theorem lay_get (es : List Ent) (p m j : Nat) (hm : m < es.length) (hj : j < wid es[m]) :
    (lay es p)[pos (es.take m) + j]? = some (secOf (share (enc es[m]) j) (p + pos (es.take m) + j + 1) (j == 0) (j + 1 == wid es[m])) := by
  have e : es = es.take m ++ (es[m] :: es.drop (m + 1)) := by simp
  have hl := lay_length (es.take m) p
  have e2 : lay es p = lay (es.take m) p ++ (cutS (enc es[m]) (p + pos (es.take m)) ++ lay (es.drop (m + 1)) (p + pos (es.take m) + wid es[m])) := by
    conv => lhs; rw [e]
    rw [lay_append, lay]
  rw [e2, List.getElem?_append_right (by omega), hl, Nat.add_sub_cancel_left, List.getElem?_append_left (by rw [cutS_length]; exact hj), cutS_get _ _ _ hj]
  rfl
theorem lay_take (es : List Ent) (p m : Nat) : (lay es p).take (pos (es.take m)) = lay (es.take m) p := by
  have e : lay es p = lay (es.take m) p ++ lay (es.drop m) (p + pos (es.take m)) := by
    rw [← lay_append]
    simp
  rw [e, List.take_left' (lay_length _ _)]
/-- Which entry a sector belongs to. -/
theorem lay_at {es : List Ent} : ∀ {k : Nat}, k < pos es → ∃ (m j : Nat) (hm : m < es.length), j < wid es[m] ∧ k = pos (es.take m) + j := by
  induction es with
  | nil => intro k h; exact absurd h (Nat.not_lt_zero _)
  | cons e r ih =>
    intro k h
    rw [pos_cons] at h
    by_cases hk : k < wid e
    · exact ⟨0, k, by simp, hk, by simp [pos_nil]⟩
    · obtain ⟨m, j, hm, hj, hkj⟩ := ih (k := k - wid e) (by omega)
      refine ⟨m + 1, j, by simpa using hm, by simpa using hj, ?_⟩
      rw [List.take_succ_cons, pos_cons]
      omega

/-! ### Which entries are whole -/
structure IsWhole (es : List Ent) (kept : Nat → Bool) (m : Nat) : Prop where
  le : m ≤ es.length
  all : ∀ k, k < pos (es.take m) → kept k = true
  stop : m < es.length → ∃ k, k < pos (es.take (m + 1)) ∧ kept k = false
theorem IsWhole.unique {es : List Ent} {kept : Nat → Bool} {m n : Nat} (h : IsWhole es kept m) (k : IsWhole es kept n) : m = n := by
  have key : ∀ a b, IsWhole es kept a → IsWhole es kept b → ¬ a < b := by
    intro a b ha hb hlt
    obtain ⟨x, hx, hf⟩ := ha.stop (Nat.lt_of_lt_of_le hlt hb.le)
    have := hb.all x (Nat.lt_of_lt_of_le hx (pos_take_mono es hlt))
    rw [hf] at this
    cases this
  have h1 := key m n h k
  have h2 := key n m k h
  omega
theorem IsWhole.congr {es : List Ent} {f g : Nat → Bool} {m : Nat} (h : IsWhole es f m) (hfg : ∀ k, k < pos es → f k = g k) : IsWhole es g m := by
  refine ⟨h.le, fun k hk => ?_, fun hm => ?_⟩
  · rw [← hfg k (Nat.lt_of_lt_of_le hk (pos_take_le es m))]; exact h.all k hk
  · obtain ⟨k, hk, hf⟩ := h.stop hm
    exact ⟨k, hk, by rw [← hfg k (Nat.lt_of_lt_of_le hk (pos_take_le es (m + 1)))]; exact hf⟩
/-- Sectors that hold the entries as far as they are kept, and zeros besides. -/
structure Held (S : List Sect) (es : List Ent) (kept : Nat → Bool) : Prop where
  yes : ∀ k, k < pos es → kept k = true → S[k]? = (lay es 0)[k]?
  no : ∀ k, k < pos es → kept k = false → S[k]? = none ∨ S[k]? = some zsec
  rest : ∀ k, pos es ≤ k → S[k]? = none ∨ S[k]? = some zsec
theorem Held.at {S : List Sect} {es : List Ent} {kept : Nat → Bool} (h : Held S es kept) {m j : Nat} (hm : m < es.length) (hj : j < wid es[m]) (hk : kept (pos (es.take m) + j) = true) :
    S[pos (es.take m) + j]? = some (secOf (share (enc es[m]) j) (pos (es.take m) + j + 1) (j == 0) (j + 1 == wid es[m])) := by
  have h1 : pos (es.take m) + j < pos es := by
    have := pos_take_succ hm
    have := pos_take_le es (m + 1)
    omega
  rw [h.yes _ h1 hk, lay_get es 0 m j hm hj, Nat.zero_add]
theorem isWhole_of {es : List Ent} {kept : Nat → Bool} {m j : Nat} (hm : m ≤ es.length) (hall : ∀ k, k < pos (es.take m) + j → kept k = true) (hstop : ∀ h : m < es.length, j < wid es[m] ∧ kept (pos (es.take m) + j) = false) : IsWhole es kept m := by
  refine ⟨hm, fun k hk => hall k (by omega), fun h => ⟨_, ?_, (hstop h).2⟩⟩
  have := pos_take_succ h
  have := (hstop h).1
  omega
end Go.Proofs.YthicidpdgggbjaaDoor

/-
  The reader's calls, stated over its state: what is left, and whether it has failed.
  Conditions: readers over at most 10000 bytes.
-/

namespace Go.Proofs.YthicidpdgggbjaaDoor
open Go.RowKit
set_option maxRecDepth 8000

/-- A number was read. -/
def RdN (w : World) (g : Nat) (v : Nat) (s : RS) (e : Ending) (w' : World) : Prop :=
  e = .returned (.int .u64 (v : Int)) ∧ Rdr w' g s.1 s.2 ∧ w.grownBy w' (some g)
/-- A text was read. -/
def RdT (w : World) (g : Nat) (v : List UInt8) (s : RS) (e : Ending) (w' : World) : Prop :=
  e = .returned (.string (strOf v)) ∧ Rdr w' g s.1 s.2 ∧ w.grownBy w' (some g)
/-- Bytes were read, into a row of their own. -/
def RdB (w : World) (g : Nat) (v : List UInt8) (s : RS) (e : Ending) (w' : World) : Prop :=
  ∃ A c, e = .returned (.slice A v.length c) ∧ w'.ownsRow w.heap.size 5 1 (.slice A v.length c) v.length (BC v) ∧ Rdr w' g s.1 s.2 ∧ w.grownBy w' (some g)

theorem can_yes {k : Nat} {s : RS} (h : can k s = true) : s.2 = false ∧ k ≤ s.1.length := by
  simpa [can] using h
theorem can_no {k : Nat} {s : RS} (h : ¬ can k s = true) : s.2 = true ∨ (k : Int) < 0 ∨ (s.1.length : Int) < (k : Int) := by
  by_cases h2 : s.2 = true
  · exact .inl h2
  · have h2 : s.2 = false := by simpa using h2
    have : ¬ k ≤ s.1.length := fun hk => h (by simp [can, h2, hk])
    omega

theorem num_st (g k : Nat) (s : RS) (w : World) (h : Rdr w g s.1 s.2) (hl : s.1.length ≤ 10000) :
    Calls Tryd.prog 83 #[.pointer (some ⟨g, 0, none⟩), .int .i64 (k : Int)] w (RdN w g (vl k s) (nx k s)) := by
  by_cases hc : can k s = true
  · obtain ⟨h2, hk⟩ := can_yes hc
    rw [h2] at h
    refine (num_ok g s.1 k w h hl hk).mono ?_
    rintro e w' ⟨rfl, hr, hg⟩
    rw [RdN, vl, tk, nx, if_pos hc, if_pos hc]
    exact ⟨rfl, hr, hg⟩
  · refine (num_fail g s.1 s.2 k w h hl (can_no hc)).mono ?_
    rintro e w' ⟨rfl, hr, hg⟩
    rw [RdN, vl, tk, nx, if_neg hc, if_neg hc]
    exact ⟨rfl, hr, hg⟩

theorem take_st (g k : Nat) (s : RS) (w : World) (h : Rdr w g s.1 s.2) (hl : s.1.length ≤ 10000) :
    Calls Tryd.prog 93 #[.pointer (some ⟨g, 0, none⟩), .int .i64 (k : Int)] w (RdB w g (tk k s) (nx k s)) := by
  by_cases hc : can k s = true
  · obtain ⟨h2, hk⟩ := can_yes hc
    rw [h2] at h
    refine (take_ok g s.1 k w h (by omega) hk).mono ?_
    rintro e w' ⟨A, c, rfl, ho, hr, hg⟩
    have hlt : (s.1.take k).length = k := by rw [List.length_take]; omega
    rw [tk, nx, if_pos hc, if_pos hc]
    exact ⟨A, c, by rw [hlt], by rw [hlt]; exact ho, hr, hg⟩
  · refine (take_fail g s.1 s.2 k w h (by omega) (can_no hc)).mono ?_
    rintro e w' ⟨rfl, hr, hg⟩
    rw [tk, nx, if_neg hc, if_neg hc]
    exact ⟨none, 0, rfl, World.ownsRow_nil _ _ _ _, hr, hg⟩

theorem rtext_st (g : Nat) (s : RS) (w : World) (h : Rdr w g s.1 s.2) (hl : s.1.length ≤ 10000) :
    Calls Tryd.prog 95 #[.pointer (some ⟨g, 0, none⟩), .int .i64 16] w (RdT w g (txt s) (txs s)) := by
  by_cases hc : can 16 s = true
  · obtain ⟨h2, hk⟩ := can_yes hc
    rw [h2] at h
    cases hp : parseF (s.1.take 16) with
    | some v =>
      refine (rtext_yes g s.1 v 16 w h hl hk hp).mono ?_
      rintro e w' ⟨rfl, hr, hg⟩
      rw [RdT, txt, txs, tk, nx, if_pos hc, if_pos hc, fldS, fldB, hp]
      exact ⟨rfl, hr, hg⟩
    | none =>
      refine (rtext_no g s.1 16 w h hl hk hp).mono ?_
      rintro e w' ⟨rfl, hr, hg⟩
      rw [RdT, txt, txs, tk, nx, if_pos hc, if_pos hc, fldS, fldB, hp]
      exact ⟨rfl, hr, hg⟩
  · refine (rtext_fail g s.1 s.2 16 w h hl (can_no hc)).mono ?_
    rintro e w' ⟨rfl, hr, hg⟩
    rw [RdT, txt, txs, tk, nx, if_neg hc, if_neg hc]
    exact ⟨rfl, hr, hg⟩
end Go.Proofs.YthicidpdgggbjaaDoor
