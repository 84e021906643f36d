/-
  Scales and the number in the middle, as lists of numbers; no program in it.
  Conditions: none beyond those that each theorem names.
-/
import Derived.Test.YtjbohnnknfcjeaaBS
namespace Go.Proofs.Ytjbohnnknfcjeaa
set_option maxRecDepth 20000

def U32 (n : Nat) : Prop := n < 4294967296
/-- The number ahead of place k. -/
def lastK (l : List Nat) (k : Nat) : Nat := (0 :: l)[k]!
theorem lastK_zero (l : List Nat) : lastK l 0 = 0 := rfl
theorem lastK_succ {l : List Nat} {k : Nat} (h : k < l.length) : lastK l (k + 1) = l[k] := by simp [lastK, h]
/-- The numbers ascend from 1 on, as far as the first k. -/
def AscK (l : List Nat) (k : Nat) : Prop := ∀ i (h : i < l.length), i < k → lastK l i < l[i]
def Asc (l : List Nat) : Prop := ∀ i (h : i < l.length), lastK l i < l[i]
structure Gd (l : List Nat) : Prop where
  len : l.length ≤ 7
  asc : Asc l
  small : ∀ x ∈ l, U32 x
theorem AscK.next {l : List Nat} {k : Nat} (h : AscK l k) (hk : k < l.length) (h1 : lastK l k < l[k]) : AscK l (k + 1) := fun i hi hik => by
  by_cases e : i = k
  · subst e; exact h1
  · exact h i hi (by omega)
theorem AscK.all {l : List Nat} (h : AscK l l.length) : Asc l := fun i hi => h i hi hi
theorem Asc.le {l : List Nat} (h : Asc l) : ∀ (j i : Nat) (hj : j < l.length), i ≤ j → lastK l i < l[j]
  | 0, i, hj, hi => by obtain rfl : i = 0 := by omega
                       exact h 0 hj
  | j + 1, i, hj, hi => by
    by_cases e : i = j + 1
    · subst e; exact h _ hj
    · have h1 := Asc.le h j i (by omega) (by omega)
      have h2 := h (j + 1) hj
      rw [lastK_succ (by omega)] at h2
      omega
theorem Asc.pos {l : List Nat} (h : Asc l) {j : Nat} (hj : j < l.length) : 0 < l[j] := h.le j 0 hj (Nat.zero_le _)
theorem Asc.lt {l : List Nat} (h : Asc l) {i j : Nat} (hij : i < j) (hj : j < l.length) : l[i] < l[j] := by
  have := h.le j (i + 1) hj hij
  rwa [lastK_succ (by omega)] at this
theorem Asc.pairwise {l : List Nat} (h : Asc l) : l.Pairwise (· < ·) := List.pairwise_iff_getElem.2 fun _ _ _ hj hij => h.lt hij hj
theorem Asc.of {l : List Nat} (h : l.Pairwise (· < ·)) (h0 : ∀ x ∈ l, 0 < x) : Asc l := fun i hi => by
  cases i with
  | zero => exact h0 _ (List.getElem_mem _)
  | succ i => rw [lastK_succ (by omega)]; exact List.pairwise_iff_getElem.1 h _ _ _ _ (Nat.lt_succ_self i)
/-- How many numbers are not above x. -/
def atN (l : List Nat) (x : Nat) : Nat := l.countP (fun y => decide (y ≤ x))
theorem countP_next {p : Nat → Bool} {l : List Nat} {k : Nat} (hk : k < l.length) : (l.take (k + 1)).countP p = (l.take k).countP p + if p l[k] then 1 else 0 := by
  rw [List.take_add_one, List.getElem?_eq_getElem hk, List.countP_append]
  simp [List.countP_cons]
theorem countP_le_len {p : Nat → Bool} {l : List Nat} (k : Nat) : (l.take k).countP p ≤ k := by
  refine Nat.le_trans List.countP_le_length ?_
  rw [List.length_take]
  omega
theorem at_of {l : List Nat} {x i : Nat} (hi : i ≤ l.length) (h1 : ∀ j (h : j < l.length), j < i → l[j] ≤ x) (h2 : ∀ j (h : j < l.length), i ≤ j → x < l[j]) : atN l x = i := by
  unfold atN
  conv => lhs; rw [← List.take_append_drop i l]
  rw [List.countP_append]
  have e1 : (l.take i).countP (fun y => decide (y ≤ x)) = (l.take i).length := List.countP_eq_length.2 fun a ha => by
    obtain ⟨j, hj, rfl⟩ := List.mem_take_iff_getElem.1 ha
    have := h1 j (by omega) (by omega)
    simpa using this
  have e2 : (l.drop i).countP (fun y => decide (y ≤ x)) = 0 := List.countP_eq_zero.2 fun a ha => by
    obtain ⟨j, hj, rfl⟩ := List.getElem_of_mem ha
    rw [List.length_drop] at hj
    rw [List.getElem_drop]
    have := h2 (i + j) (by omega) (by omega)
    simpa using this
  rw [e1, e2, List.length_take]
  omega
/-- Where the scan of a rising list ends. -/
theorem at_scan {l : List Nat} (h : Asc l) {x i : Nat} (hi : i ≤ l.length) (h1 : i = 0 ∨ lastK l i ≤ x) (h2 : ∀ h : i < l.length, x < l[i]) : atN l x = i := by
  refine at_of hi (fun j hj hji => ?_) (fun j hj hij => ?_)
  · rcases h1 with rfl | h1
    · omega
    · cases i with
      | zero => omega
      | succ i =>
        rw [lastK_succ (by omega)] at h1
        by_cases e : j = i
        · subst e; exact h1
        · exact Nat.le_trans (Nat.le_of_lt (h.lt (by omega) (by omega))) h1
  · have h3 := h2 (by omega)
    by_cases e : j = i
    · subst e; exact h3
    · exact Nat.lt_trans h3 (h.lt (by omega) (by omega))
theorem at_le (l : List Nat) (x : Nat) : atN l x ≤ l.length := List.countP_le_length
/-- What the number of the interval says. -/
theorem at_spec {l : List Nat} (h : Asc l) (x : Nat) : (∀ j (hj : j < l.length), j < atN l x → l[j] ≤ x) ∧ (∀ j (hj : j < l.length), atN l x ≤ j → x < l[j]) := by
  obtain ⟨i, hi, h1, h2⟩ : ∃ i, i ≤ l.length ∧ (∀ j (hj : j < l.length), j < i → l[j] ≤ x) ∧ (∀ j (hj : j < l.length), i ≤ j → x < l[j]) := by
    have key : ∀ m, m ≤ l.length → (∃ i, i ≤ l.length ∧ (∀ j (hj : j < l.length), j < i → l[j] ≤ x) ∧ (∀ j (hj : j < l.length), i ≤ j → x < l[j])) ∨ (∀ j (hj : j < l.length), j < m → l[j] ≤ x) := by
      intro m
      induction m with
      | zero => exact fun _ => .inr fun j _ hj => absurd hj (Nat.not_lt_zero _)
      | succ m ih =>
        intro hm
        rcases ih (by omega) with h3 | h3
        · exact .inl h3
        · by_cases hx : l[m] ≤ x
          · exact .inr fun j hj hjm => by
              by_cases e : j = m
              · subst e; exact hx
              · exact h3 j hj (by omega)
          · refine .inl ⟨m, by omega, h3, fun j hj hmj => ?_⟩
            by_cases e : j = m
            · subst e; omega
            · have := h.lt (i := m) (j := j) (by omega) hj
              omega
    rcases key l.length (Nat.le_refl _) with h3 | h3
    · exact h3
    · exact ⟨l.length, Nat.le_refl _, h3, fun j hj hij => absurd hj (by omega)⟩
  rw [at_of hi h1 h2]
  exact ⟨h1, h2⟩
/-- The interval's least number is x just where x is 0 or a cut. -/
theorem least_is {l : List Nat} (h : Asc l) (x : Nat) : (lastK l (atN l x) = x) ↔ (x = 0 ∨ x ∈ l) := by
  obtain ⟨h1, h2⟩ := at_spec h x
  have hle := at_le l x
  generalize atN l x = i at h1 h2 hle
  constructor
  · intro e
    cases i with
    | zero => exact .inl (by rw [← e]; rfl)
    | succ i => rw [lastK_succ (by omega)] at e; exact .inr (by rw [← e]; exact List.getElem_mem _)
  · rintro (rfl | hx)
    · cases i with
      | zero => rfl
      | succ i =>
        have := h1 i (by omega) (by omega)
        have := h.pos (j := i) (by omega)
        omega
    · obtain ⟨j, hj, rfl⟩ := List.getElem_of_mem hx
      have hji : j < i := by
        apply Nat.lt_of_not_le
        intro hij
        have := h2 j hj hij
        omega
      by_cases e : i = j + 1
      · subst e; rw [lastK_succ hj]
      · have h3 := h1 (j + 1) (by omega) (by omega)
        have := h.lt (i := j) (j := j + 1) (by omega) (by omega)
        omega
/-- A cut more. -/
def insN (l : List Nat) (x : Nat) : List Nat := l.take (atN l x) ++ [x] ++ l.drop (atN l x)
theorem ins_len (l : List Nat) (x : Nat) : (insN l x).length = l.length + 1 := by
  have := at_le l x
  simp [insN]
  omega
theorem ins_good {l : List Nat} (h : Asc l) {x : Nat} (h0 : x ≠ 0) (hx : x ∉ l) : Asc (insN l x) := by
  obtain ⟨h1, h2⟩ := at_spec h x
  have hle := at_le l x
  have hp := h.pairwise
  have g1 : ∀ a ∈ l.take (atN l x), a < x := fun a ha => by
    obtain ⟨j, hj, rfl⟩ := List.mem_take_iff_getElem.1 ha
    have h3 := h1 j (by omega) (by omega)
    have h4 : l[j] ≠ x := fun e => hx (e ▸ List.getElem_mem _)
    omega
  have g2 : ∀ a ∈ l.drop (atN l x), x < a := fun a ha => by
    obtain ⟨j, hj, rfl⟩ := List.getElem_of_mem ha
    rw [List.length_drop] at hj
    rw [List.getElem_drop]
    exact h2 _ (by omega) (by omega)
  refine Asc.of ?_ ?_
  · unfold insN
    rw [List.append_assoc]
    refine List.pairwise_append.2 ⟨hp.sublist (List.take_sublist _ _), ?_, ?_⟩
    · rw [List.singleton_append]
      exact List.pairwise_cons.2 ⟨g2, hp.sublist (List.drop_sublist _ _)⟩
    · intro a ha b hb
      rw [List.singleton_append] at hb
      rcases List.mem_cons.1 hb with rfl | hb
      · exact g1 a ha
      · exact Nat.lt_trans (g1 a ha) (g2 b hb)
  · intro a ha
    unfold insN at ha
    rcases List.mem_append.1 ha with ha | ha
    · rcases List.mem_append.1 ha with ha | ha
      · obtain ⟨j, hj, rfl⟩ := List.getElem_of_mem (List.mem_of_mem_take ha)
        exact h.pos hj
      · obtain rfl : a = x := by simpa using ha
        omega
    · exact Nat.lt_of_le_of_lt (Nat.zero_le _) (g2 a ha)
theorem ins_mem {l : List Nat} {x a : Nat} : a ∈ insN l x ↔ a = x ∨ a ∈ l := by
  have e : a ∈ l ↔ a ∈ l.take (atN l x) ∨ a ∈ l.drop (atN l x) := by
    conv => lhs; rw [← List.take_append_drop (atN l x) l]
    exact List.mem_append
  unfold insN
  rw [List.mem_append, List.mem_append, e, List.mem_singleton]
  constructor
  · rintro ((h | h) | h)
    · exact .inr (.inl h)
    · exact .inl h
    · exact .inr (.inr h)
  · rintro (h | h | h)
    · exact .inl (.inr h)
    · exact .inl (.inl h)
    · exact .inr h
/-- What comes of a cut: the cuts, the interval's number, the code. -/
def cutN (l : List Nat) (x : Nat) : List Nat × Nat × Nat := if x = 0 ∨ x ∈ l then (l, 0, 8) else if 7 ≤ l.length then (l, 0, 6) else (insN l x, atN l x, 0)
theorem cut_good {l : List Nat} (h : Gd l) {x : Nat} (hx : U32 x) : Gd (cutN l x).1 := by
  unfold cutN
  split
  · exact h
  · rename_i h1
    split
    · exact h
    · rename_i h2
      refine ⟨?_, ins_good h.asc (fun e => h1 (.inl e)) (fun e => h1 (.inr e)), fun a ha => ?_⟩
      · show (insN l x).length ≤ 7
        rw [ins_len]; omega
      · rcases ins_mem.1 ha with rfl | ha
        · exact hx
        · exact h.small a ha
/-- Where any number lies behind a cut more. -/
theorem at_ins (l : List Nat) (x y : Nat) : atN (insN l x) y = atN l y + if x ≤ y then 1 else 0 := by
  unfold insN
  generalize atN l x = k
  unfold atN
  conv => rhs; rw [← List.take_append_drop k l]
  rw [List.countP_append, List.countP_append, List.countP_append]
  by_cases h : x ≤ y
  · simp [h]; omega
  · simp [h]
theorem at_mono (l : List Nat) {x y : Nat} (h : x ≤ y) : atN l x ≤ atN l y := by
  unfold atN
  exact List.countP_mono_left fun a _ ha => by simp at ha ⊢; omega
/-- The least and the greatest number of an interval. -/
def leastN (l : List Nat) (k : Nat) : Nat := lastK l k
def mostN (l : List Nat) (k : Nat) : Nat := if h : k < l.length then l[k] - 1 else 4294967295
theorem ends_at {l : List Nat} (h : Gd l) {k x : Nat} (hk : k ≤ l.length) (hx : U32 x) : (leastN l k ≤ x ∧ x ≤ mostN l k) ↔ atN l x = k := by
  constructor
  · rintro ⟨h1, h2⟩
    refine at_scan h.asc hk ?_ (fun hl => ?_)
    · exact .inr h1
    · unfold mostN at h2
      rw [dif_pos hl] at h2
      have := h.asc.pos hl
      omega
  · intro e
    obtain ⟨h1, h2⟩ := at_spec h.asc x
    rw [e] at h1 h2
    refine ⟨?_, ?_⟩
    · unfold leastN
      cases k with
      | zero => exact Nat.zero_le _
      | succ k => rw [lastK_succ (by omega)]; exact h1 k (by omega) (by omega)
    · unfold mostN
      split
      · rename_i hl
        have := h2 k hl (Nat.le_refl _)
        omega
      · unfold U32 at hx; omega
theorem least_most {l : List Nat} (h : Gd l) {k : Nat} (hk : k ≤ l.length) : leastN l k ≤ mostN l k ∧ U32 (leastN l k) ∧ U32 (mostN l k) := by
  unfold leastN mostN
  have hs : ∀ i (hi : i < l.length), U32 l[i] := fun i hi => h.small _ (List.getElem_mem _)
  have hl : U32 (lastK l k) := by
    cases k with
    | zero => exact (by decide : (0 : Nat) < 4294967296)
    | succ k => rw [lastK_succ (by omega)]; exact hs k (by omega)
  refine ⟨?_, hl, ?_⟩
  · split
    · rename_i h1
      have := h.asc k h1
      omega
    · unfold U32 at hl; omega
  · split
    · rename_i h1
      have := hs k h1
      unfold U32 at *
      omega
    · exact (by decide : (4294967295 : Nat) < 4294967296)
theorem most_next {l : List Nat} (h : Asc l) {k : Nat} (hk : k < l.length) : mostN l k + 1 = leastN l (k + 1) := by
  unfold mostN leastN
  rw [dif_pos hk, lastK_succ hk]
  have := h.pos hk
  omega
theorem most_last (l : List Nat) : mostN l l.length = 4294967295 := by
  unfold mostN
  rw [dif_neg (Nat.lt_irrefl _)]
end Go.Proofs.Ytjbohnnknfcjeaa
