/-
  The number in the middle; no program in it.
  Conditions: none beyond those that each theorem names.
-/
import Derived.Test.YtjbohnnknfcjeaaNA
namespace Go.Proofs.Ytjbohnnknfcjeaa
set_option maxRecDepth 20000

/-- How many numbers are below x. -/
def belN (l : List Nat) (x : Nat) : Nat := l.countP (fun y => decide (y < x))
/-- By how much two parts of n differ, if one has p. -/
def gapN (p n : Nat) : Nat := max (n - 2 * p) (2 * p - n)
def unN (l : List Nat) (x : Nat) : Nat := gapN (belN l x) l.length
theorem bel_le (l : List Nat) (x : Nat) : belN l x ≤ l.length := List.countP_le_length
theorem bel_lt {l : List Nat} {x : Nat} (h : x ∈ l) : belN l x < l.length := by
  rcases Nat.lt_or_ge (belN l x) l.length with h1 | h1
  · exact h1
  · have h2 : l.countP (fun y => decide (y < x)) = l.length := Nat.le_antisymm (bel_le l x) h1
    have := List.countP_eq_length.1 h2 x h
    simp at this
/-- x is chosen. -/
structure IsMid (l : List Nat) (x : Nat) : Prop where
  mem : x ∈ l
  some : 0 < belN l x
  least : ∀ y ∈ l, 0 < belN l y → unN l x < unN l y ∨ (unN l x = unN l y ∧ x ≤ y)
def NoMid (l : List Nat) : Prop := ∀ y ∈ l, belN l y = 0
def MidR (l : List Nat) (x : Nat) (ok : Bool) : Prop := (ok = true ∧ IsMid l x) ∨ (ok = false ∧ x = 0 ∧ NoMid l)
theorem MidR.one {l : List Nat} {x y : Nat} {a b : Bool} (h : MidR l x a) (k : MidR l y b) : x = y ∧ a = b := by
  rcases h with ⟨rfl, h⟩ | ⟨rfl, rfl, h⟩ <;> rcases k with ⟨rfl, k⟩ | ⟨rfl, rfl, k⟩
  · refine ⟨?_, rfl⟩
    have h1 := h.least y k.mem k.some
    have h2 := k.least x h.mem h.some
    omega
  · have := k x h.mem
    have := h.some
    omega
  · have := h y k.mem
    have := k.some
    omega
  · exact ⟨rfl, rfl⟩
theorem bel_perm {l m : List Nat} (h : l.Perm m) (x : Nat) : belN l x = belN m x := h.countP_eq _
theorem un_perm {l m : List Nat} (h : l.Perm m) (x : Nat) : unN l x = unN m x := by unfold unN; rw [bel_perm h, h.length_eq]
theorem MidR.perm {l m : List Nat} {x : Nat} {a : Bool} (h : MidR l x a) (hp : l.Perm m) : MidR m x a := by
  rcases h with ⟨rfl, h⟩ | ⟨rfl, rfl, h⟩
  · refine .inl ⟨rfl, hp.mem_iff.1 h.mem, bel_perm hp x ▸ h.some, fun y hy h0 => ?_⟩
    rw [← un_perm hp, ← un_perm hp]
    exact h.least y (hp.mem_iff.2 hy) (by rw [bel_perm hp]; exact h0)
  · exact .inr ⟨rfl, rfl, fun y hy => by rw [← bel_perm hp]; exact h y (hp.mem_iff.2 hy)⟩
/-- In a row that rises, the numbers below one of them come first. -/
theorem bel_first : ∀ {r : List Nat}, r.Pairwise (· ≤ ·) → ∀ y ∈ r, ∃ h : belN r y < r.length, r[belN r y] = y ∧ ∀ i (hi : i < r.length), i < belN r y → r[i] < y
  | a :: t, hr, y, hy => by
    obtain ⟨h1, h2⟩ := List.pairwise_cons.1 hr
    by_cases ha : a < y
    · have hy2 : y ∈ t := by
        rcases List.mem_cons.1 hy with rfl | hy
        · omega
        · exact hy
      obtain ⟨k1, k2, k3⟩ := bel_first h2 y hy2
      have e : belN (a :: t) y = belN t y + 1 := by unfold belN; rw [List.countP_cons_of_pos (by simpa using ha)]
      rw [e]
      refine ⟨by simpa using k1, by simpa using k2, fun i hi hik => ?_⟩
      cases i with
      | zero => simpa using ha
      | succ i => simpa using k3 i (by simpa using hi) (by omega)
    · have e : belN (a :: t) y = 0 := by
        unfold belN
        refine List.countP_eq_zero.2 fun b hb => ?_
        rcases List.mem_cons.1 hb with rfl | hb
        · simpa using ha
        · have := h1 b hb
          simp; omega
      rw [e]
      refine ⟨by simp, ?_, fun i _ hi => absurd hi (Nat.not_lt_zero _)⟩
      rcases List.mem_cons.1 hy with rfl | hy
      · rfl
      · have := h1 y hy
        show a = y
        omega
theorem rise_le {r : List Nat} (h : r.Pairwise (· ≤ ·)) {i j : Nat} (hij : i ≤ j) (hj : j < r.length) : r[i] ≤ r[j] := by
  by_cases e : i = j
  · subst e; exact Nat.le_refl _
  · exact List.pairwise_iff_getElem.1 h i j (by omega) hj (by omega)
/-- The first of its kind has as many below it as stand ahead of it. -/
theorem bel_at {r : List Nat} (h : r.Pairwise (· ≤ ·)) {j : Nat} (hj : j + 1 < r.length) (hlt : r[j] < r[j + 1]) : belN r r[j + 1] = j + 1 := by
  obtain ⟨k1, k2, k3⟩ := bel_first h r[j + 1] (List.getElem_mem _)
  generalize belN r r[j + 1] = b at k1 k2 k3
  rcases Nat.lt_trichotomy b (j + 1) with h1 | h1 | h1
  · have := rise_le h (i := b) (j := j) (by omega) (by omega)
    omega
  · exact h1
  · have := k3 (j + 1) hj h1
    omega
/-- What has been chosen among the places below i of a row that rises; place 0 stands for none. -/
structure MdK (r : List Nat) (i b : Nat) : Prop where
  le : b < i
  first : ∀ j (h : j + 1 = b) (hb : b < r.length), r[j] < r[b]
  least : ∀ j (hj : j + 1 < r.length), j + 1 < i → r[j] < r[j + 1] → gapN b r.length < gapN (j + 1) r.length ∨ (gapN b r.length = gapN (j + 1) r.length ∧ b ≤ j + 1)
theorem MdK.start (r : List Nat) : MdK r 1 0 := ⟨by omega, fun j h => by omega, fun j _ h => by omega⟩
theorem gap_zero {n p : Nat} (h0 : 0 < p) (h : p < n) : gapN p n < gapN 0 n := by
  unfold gapN
  omega
theorem MdK.take {r : List Nat} {j b : Nat} (h : MdK r (j + 1) b) (hj : j + 1 < r.length) (h1 : r[j] < r[j + 1]) (h2 : gapN (j + 1) r.length < gapN b r.length) : MdK r (j + 2) (j + 1) := by
  refine ⟨by omega, fun j' e hb => ?_, fun k hk hki hlt => ?_⟩
  · obtain rfl : j' = j := by omega
    exact h1
  · by_cases e : k = j
    · subst e; exact .inr ⟨rfl, Nat.le_refl _⟩
    · have := h.least k hk (by omega) hlt
      omega
theorem MdK.keep {r : List Nat} {j b : Nat} (h : MdK r (j + 1) b) (hj : j + 1 < r.length) (h1 : r[j + 1] ≤ r[j] ∨ gapN b r.length ≤ gapN (j + 1) r.length) : MdK r (j + 2) b := by
  have := h.le
  refine ⟨by omega, h.first, fun k hk hki hlt => ?_⟩
  by_cases e : k = j
  · subst e; omega
  · exact h.least k hk (by omega) hlt
theorem MdK.done {r : List Nat} {b i : Nat} (hr : r.Pairwise (· ≤ ·)) (h : MdK r i b) (hi : r.length ≤ i) (hb : b < r.length ∨ b = 0) : MidR r (if h : b < r.length ∧ 0 < b then r[b]'h.1 else 0) (decide (0 < b)) := by
  have hall : ∀ y ∈ r, 0 < belN r y → ∃ j, ∃ hj : j + 1 < r.length, belN r y = j + 1 ∧ r[j + 1] = y ∧ r[j] < r[j + 1] := fun y hy h0 => by
    obtain ⟨k1, k2, k3⟩ := bel_first hr y hy
    obtain ⟨j, hj⟩ : ∃ j, belN r y = j + 1 := ⟨belN r y - 1, by omega⟩
    have k4 := k3 j (by omega) (by omega)
    simp only [hj] at k1 k2
    exact ⟨j, k1, hj, k2, by rw [k2]; exact k4⟩
  cases b with
  | zero =>
    refine .inr ⟨by simp, by simp, fun y hy => ?_⟩
    rcases Nat.eq_zero_or_pos (belN r y) with h0 | h0
    · exact h0
    · obtain ⟨j, hj, e1, e2, e3⟩ := hall y hy h0
      have h1 := h.least j hj (by omega) e3
      have h2 := gap_zero (p := j + 1) (n := r.length) (by omega) hj
      omega
  | succ b =>
    have hbl : b + 1 < r.length := by omega
    have hf := h.first b rfl hbl
    have hbel := bel_at hr hbl hf
    rw [dif_pos ⟨hbl, Nat.succ_pos _⟩]
    refine .inl ⟨by simp, List.getElem_mem _, by rw [hbel]; omega, fun y hy h0 => ?_⟩
    obtain ⟨j, hj, e1, e2, e3⟩ := hall y hy h0
    have h1 := h.least j hj (by omega) e3
    unfold unN
    rw [hbel, e1]
    rcases h1 with h1 | ⟨h1, h3⟩
    · exact .inl h1
    · refine .inr ⟨h1, ?_⟩
      rw [← e2]
      exact rise_le hr h3 hj
/-- What the document's way of choosing has among the first k. -/
def RmK (l : List Nat) (k : Nat) (bi : Int) : Prop :=
  (bi = -1 ∧ ∀ y ∈ l.take k, belN l y = 0) ∨
  ∃ b, ∃ hb : b < l.length, bi = (b : Int) ∧ b < k ∧ 0 < belN l l[b] ∧ ∀ y ∈ l.take k, 0 < belN l y → unN l l[b] < unN l y ∨ (unN l l[b] = unN l y ∧ l[b] ≤ y)
theorem mem_next {l : List Nat} {k y : Nat} (hk : k < l.length) (h : y ∈ l.take (k + 1)) : y ∈ l.take k ∨ y = l[k] := by
  rw [List.take_add_one, List.getElem?_eq_getElem hk] at h
  rcases List.mem_append.1 h with h | h
  · exact .inl h
  · exact .inr (by simpa using h)
theorem RmK.start (l : List Nat) : RmK l 0 (-1) := .inl ⟨rfl, fun y hy => by simp at hy⟩
theorem RmK.skip {l : List Nat} {k : Nat} {bi : Int} (h : RmK l k bi) (hk : k < l.length) (h0 : belN l l[k] = 0) : RmK l (k + 1) bi := by
  rcases h with ⟨rfl, h⟩ | ⟨b, hb, rfl, h1, h2, h3⟩
  · refine .inl ⟨rfl, fun y hy => ?_⟩
    rcases mem_next hk hy with hy | rfl
    · exact h y hy
    · exact h0
  · refine .inr ⟨b, hb, rfl, by omega, h2, fun y hy hp => ?_⟩
    rcases mem_next hk hy with hy | rfl
    · exact h3 y hy hp
    · omega
theorem RmK.keep {l : List Nat} {k b : Nat} (h : RmK l k (b : Int)) (hk : k < l.length) (hb : b < l.length) (h1 : unN l l[b] < unN l l[k] ∨ (unN l l[b] = unN l l[k] ∧ l[b] ≤ l[k])) : RmK l (k + 1) (b : Int) := by
  rcases h with ⟨e, h⟩ | ⟨b', hb', e, h2, h3, h4⟩
  · omega
  · obtain rfl : b' = b := by omega
    refine .inr ⟨b', hb', rfl, by omega, h3, fun y hy hp => ?_⟩
    rcases mem_next hk hy with hy | rfl
    · exact h4 y hy hp
    · exact h1
theorem RmK.take {l : List Nat} {k : Nat} {bi : Int} (h : RmK l k bi) (hk : k < l.length) (h0 : 0 < belN l l[k]) (h1 : bi = -1 ∨ ∃ b, ∃ hb : b < l.length, bi = (b : Int) ∧ (unN l l[k] < unN l l[b] ∨ (unN l l[k] = unN l l[b] ∧ l[k] < l[b]))) : RmK l (k + 1) (k : Int) := by
  refine .inr ⟨k, hk, rfl, by omega, h0, fun y hy hp => ?_⟩
  rcases mem_next hk hy with hy | rfl
  · rcases h with ⟨rfl, h⟩ | ⟨b, hb, rfl, h2, h3, h4⟩
    · have := h y hy
      omega
    · rcases h1 with h1 | ⟨b', hb', e, h1⟩
      · omega
      · obtain rfl : b' = b := by omega
        have := h4 y hy hp
        omega
  · exact .inr ⟨rfl, Nat.le_refl _⟩
theorem RmK.none {l : List Nat} (h : RmK l l.length (-1)) : MidR l 0 false := by
  rcases h with ⟨_, h⟩ | ⟨b, hb, e, _⟩
  · exact .inr ⟨rfl, rfl, fun y hy => h y (by rw [List.take_length]; exact hy)⟩
  · omega
theorem RmK.some {l : List Nat} {b : Nat} (h : RmK l l.length (b : Int)) : ∃ hb : b < l.length, MidR l l[b] true := by
  rcases h with ⟨e, h⟩ | ⟨b', hb, e, h1, h2, h3⟩
  · omega
  · obtain rfl : b' = b := by omega
    exact ⟨hb, .inl ⟨rfl, List.getElem_mem _, h2, fun y hy hp => h3 y (by rw [List.take_length]; exact hy) hp⟩⟩
theorem RmK.cases {l : List Nat} {k : Nat} {bi : Int} (h : RmK l k bi) : bi = -1 ∨ ∃ b, ∃ _ : b < l.length, bi = (b : Int) := by
  rcases h with ⟨rfl, _⟩ | ⟨b, hb, rfl, _⟩
  · exact .inl rfl
  · exact .inr ⟨b, hb, rfl⟩
end Go.Proofs.Ytjbohnnknfcjeaa
