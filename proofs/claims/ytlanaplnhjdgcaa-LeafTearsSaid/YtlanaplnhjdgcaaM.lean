/-
  Lists: a write that is torn; rows of cells in which sectors are laid.
  Conditions: none beyond those that each theorem names.
-/
import Derived.Test.YtlanaplnhjdgcaaBase
namespace Go.Proofs.Ytlanaplnhjdgcaa
open Go.RowKit

/-- The sectors S, those of l from place p on laid over them as far as they are kept. -/
def upd (S : List Sect) (p : Nat) (l : List Sect) (kf : Nat → Bool) : List Sect :=
  (List.range S.length).map fun i => if p ≤ i ∧ i - p < l.length ∧ kf (i - p) = true then l.getD (i - p) zsec else S.getD i zsec
theorem upd_length (S : List Sect) (p : Nat) (l : List Sect) (kf : Nat → Bool) : (upd S p l kf).length = S.length := by simp [upd]
theorem upd_get (S : List Sect) (p : Nat) (l : List Sect) (kf : Nat → Bool) (i : Nat) (h : i < S.length) :
    (upd S p l kf)[i]? = some (if p ≤ i ∧ i - p < l.length ∧ kf (i - p) = true then l.getD (i - p) zsec else S.getD i zsec) := by
  rw [upd, List.getElem?_map, List.getElem?_range h]
  rfl
theorem upd_congr (S : List Sect) (p : Nat) (l : List Sect) (f g : Nat → Bool) (h : ∀ j, j < l.length → f j = g j) : upd S p l f = upd S p l g := by
  unfold upd
  apply List.map_congr_left
  intro i _
  by_cases h1 : p ≤ i ∧ i - p < l.length
  · rw [h _ h1.2]
  · rw [if_neg (fun hh => h1 ⟨hh.1, hh.2.1⟩), if_neg (fun hh => h1 ⟨hh.1, hh.2.1⟩)]
theorem getD_get (S : List Sect) (i : Nat) (h : i < S.length) : S[i]? = some (S.getD i zsec) := by simp [List.getD, h]
theorem upd_none (S : List Sect) (p : Nat) (l : List Sect) (f : Nat → Bool) (h : ∀ j, j < l.length → f j = false) : upd S p l f = S := by
  apply List.ext_getElem?
  intro i
  by_cases hi : i < S.length
  · rw [upd_get _ _ _ _ _ hi, getD_get S i hi, if_neg]
    rintro ⟨_, h2, h3⟩
    rw [h _ h2] at h3
    cases h3
  · rw [List.getElem?_eq_none (by rw [upd_length]; omega), List.getElem?_eq_none (by omega)]
theorem splice_get {α : Type} (L : List α) (o : Nat) (cs : List α) (i : Nat) (h : o + cs.length ≤ L.length) : (splice L o cs)[i]? = if o ≤ i ∧ i < o + cs.length then cs[i - o]? else L[i]? := by
  have hl : (L.take o).length = o := by rw [List.length_take]; omega
  unfold splice
  by_cases h1 : i < o
  · rw [List.getElem?_append_left (by omega), List.getElem?_take, if_pos h1, if_neg (by omega)]
  · rw [List.getElem?_append_right (by omega), hl]
    by_cases h2 : i < o + cs.length
    · rw [List.getElem?_append_left (by omega), if_pos (by omega)]
    · rw [List.getElem?_append_right (by omega), List.getElem?_drop, if_neg (by omega)]
      congr 1
      omega
theorem upd_full (S : List Sect) (p : Nat) (l : List Sect) (f : Nat → Bool) (hf : ∀ j, j < l.length → f j = true) (h : p + l.length ≤ S.length) : splice S p l = upd S p l f := by
  apply List.ext_getElem?
  intro i
  rw [splice_get _ _ _ _ h]
  by_cases hi : i < S.length
  · rw [upd_get _ _ _ _ _ hi]
    by_cases h1 : p ≤ i ∧ i < p + l.length
    · rw [if_pos h1, if_pos ⟨h1.1, by omega, hf _ (by omega)⟩, getD_get l _ (by omega)]
    · rw [if_neg h1, if_neg (fun hh => h1 ⟨hh.1, by omega⟩), getD_get S i hi]
  · rw [if_neg (by omega), List.getElem?_eq_none (by omega), List.getElem?_eq_none (by rw [upd_length]; omega)]
/-- What is kept of the first k sectors. -/
def kfA (kp : List Bool) (k : Nat) : Nat → Bool := fun j => decide (j < k) && kp.getD j false
theorem upd_step (S : List Sect) (p : Nat) (l : List Sect) (kp : List Bool) (k : Nat) (hk : k < l.length) (h : p + l.length ≤ S.length) (hkp : kp.getD k false = true) :
    splice (upd S p l (kfA kp k)) (p + k) [l[k]] = upd S p l (kfA kp (k + 1)) := by
  apply List.ext_getElem?
  intro i
  rw [splice_get _ _ _ _ (by rw [upd_length]; simp; omega)]
  by_cases hi : i < S.length
  · rw [upd_get _ _ _ _ _ hi, upd_get _ _ _ _ _ hi]
    by_cases h1 : i = p + k
    · subst h1
      rw [if_pos (by simp), if_pos ⟨by omega, by omega, by rw [show p + k - p = k from by omega, kfA, hkp]; simp⟩, show p + k - p = k from by omega]
      simp [List.getD, hk]
    · rw [if_neg (by simp; omega)]
      congr 1
      have e : ∀ j, j ≠ k → kfA kp k j = kfA kp (k + 1) j := fun j hj => by
        unfold kfA
        congr 1
        rw [decide_eq_decide]
        omega
      by_cases h2 : p ≤ i
      · rw [e (i - p) (by omega)]
      · rw [if_neg (fun hh => h2 hh.1), if_neg (fun hh => h2 hh.1)]
  · rw [if_neg (by simp; omega), List.getElem?_eq_none (by rw [upd_length]; omega), List.getElem?_eq_none (by rw [upd_length]; omega)]
theorem upd_same (S : List Sect) (p : Nat) (l : List Sect) (kp : List Bool) (k : Nat) (hkp : kp.getD k false = false) : upd S p l (kfA kp k) = upd S p l (kfA kp (k + 1)) := by
  apply upd_congr
  intro j _
  unfold kfA
  by_cases h : j = k
  · subst h
    rw [hkp]
    simp
  · congr 1
    rw [decide_eq_decide]
    omega
theorem upd_end (S : List Sect) (p : Nat) (l : List Sect) (kp : List Bool) (k : Nat) (hk : k = min l.length kp.length) : upd S p l (kfA kp k) = upd S p l (fun j => kp.getD j false) := by
  apply upd_congr
  intro j hj
  unfold kfA
  by_cases h : j < k
  · simp [h]
  · have : kp.getD j false = false := by
      rw [List.getD_eq_getElem?_getD, List.getElem?_eq_none (by omega)]
      rfl
    rw [this, Bool.and_false]

/-! ### Rows of cells -/
theorem splice_flat (S : List Sect) (sp : List Value) (p : Nat) (l : List Sect) (h : p + l.length ≤ S.length) : splice (flat S ++ sp) (p * 64) (flat l) = flat (splice S p l) ++ sp := by
  unfold splice
  rw [flat_append, flat_append, ← flat_take, ← flat_drop, List.take_append_of_le_length (by rw [flat_length]; omega), flat_length, List.drop_append_of_le_length (by rw [flat_length]; omega)]
  simp [Nat.add_mul]
theorem setCells_row (b : Nat) (t : TypeId) : ∀ (vs : List Value) (o : Nat) (cur : List Value) (w : World), w.heap[b]? = some (.cells cur.toArray t (0, 0)) → o + vs.length ≤ cur.length →
    (w.setCells b o vs).heap[b]? = some (.cells (splice cur o vs).toArray t (0, 0))
  | [], o, cur, w, h, _ => by simpa [World.setCells, splice] using h
  | v :: r, o, cur, w, h, hl => by
    simp only [List.length_cons] at hl
    have h1 := heap_setCell_same w b o cur.toArray t v h
    rw [List.setIfInBounds_toArray] at h1
    rw [World.setCells, setCells_row b t r (o + 1) (cur.set o v) _ h1 (by rw [List.length_set]; omega)]
    congr 3
    apply List.ext_getElem?
    intro i
    rw [splice_get _ _ _ _ (by rw [List.length_set]; omega), splice_get _ _ _ _ (by simp; omega)]
    simp only [List.length_cons]
    by_cases h2 : i = o
    · subst h2
      rw [if_neg (by omega), if_pos (by omega), Nat.sub_self, List.getElem?_set_self (by omega)]
      rfl
    · by_cases h3 : o + 1 ≤ i ∧ i < o + 1 + r.length
      · rw [if_pos h3, if_pos (by omega), show i - o = (i - (o + 1)) + 1 from by omega, List.getElem?_cons_succ]
      · rw [if_neg h3, if_neg (by omega), List.getElem?_set_ne (by omega)]
theorem there_row {w : World} {b : Nat} {t : TypeId} {cur : List Value} (h : w.heap[b]? = some (.cells cur.toArray t (0, 0))) {o n : Nat} (hl : o + n ≤ cur.length) : w.there b o n := fun j hj => by
  refine ⟨?_, frozen_of_row w b _ _ _ h⟩
  rw [cell_of_row w b _ _ _ _ h]
  simp
  omega
end Go.Proofs.Ytlanaplnhjdgcaa
