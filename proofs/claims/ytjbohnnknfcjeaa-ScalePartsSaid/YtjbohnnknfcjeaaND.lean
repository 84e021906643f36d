/-
  What a cut at the middle does to the numbers; no program in it.
  Conditions: none beyond those that each theorem names.
-/
import Derived.Test.YtjbohnnknfcjeaaNC
namespace Go.Proofs.Ytjbohnnknfcjeaa
set_option maxRecDepth 20000

/-- All of the first i lie in interval k. -/
def InK (l ml : List Nat) (k i : Nat) : Prop := ∀ j (h : j < ml.length), j < i → atN l ml[j] = k
theorem InK.zero (l ml : List Nat) (k : Nat) : InK l ml k 0 := fun _ _ h => absurd h (Nat.not_lt_zero _)
theorem InK.next {l ml : List Nat} {k i : Nat} (h : InK l ml k i) (hi : i < ml.length) (h1 : atN l ml[i] = k) : InK l ml k (i + 1) := fun j hj hji => by
  by_cases e : j = i
  · subst e; exact h1
  · exact h j hj (by omega)
theorem InK.mem {l ml : List Nat} {k : Nat} (h : InK l ml k ml.length) {y : Nat} (hy : y ∈ ml) : atN l y = k := by
  obtain ⟨j, hj, rfl⟩ := List.getElem_of_mem hy
  exact h j hj hj
/-- The middle of numbers in one interval is no cut and not 0. -/
theorem mid_new {l ml : List Nat} {k m : Nat} (hg : Gd l) (h : InK l ml k ml.length) (hm : IsMid ml m) : ¬ (m = 0 ∨ m ∈ l) := by
  intro hc
  have h1 := (least_is hg.asc m).2 hc
  rw [h.mem hm.mem] at h1
  obtain ⟨y, hy, hyx⟩ := List.countP_pos_iff.1 (show 0 < ml.countP (fun y => decide (y < m)) from hm.some)
  have hyx : y < m := by simpa using hyx
  have h2 := h.mem hy
  obtain ⟨a, _⟩ := at_spec hg.asc y
  have hle := at_le l y
  rw [h2] at a hle
  cases k with
  | zero => rw [lastK_zero] at h1; omega
  | succ k =>
    rw [lastK_succ (by omega)] at h1
    have := a k (by omega) (by omega)
    omega
theorem cut_mid {l ml : List Nat} {k m : Nat} (hg : Gd l) (h : InK l ml k ml.length) (hm : IsMid ml m) : cutN l m = if 7 ≤ l.length then (l, 0, 6) else (insN l m, k, 0) := by
  unfold cutN
  rw [if_neg (mid_new hg h hm), h.mem hm.mem]
/-- How many are not below m. -/
def aboN (l : List Nat) (m : Nat) : Nat := l.countP (fun y => decide (m ≤ y))
theorem bel_abo (l : List Nat) (m : Nat) : belN l m + aboN l m = l.length := by
  unfold belN aboN
  induction l with
  | nil => rfl
  | cons a t ih =>
    rw [List.countP_cons, List.countP_cons, List.length_cons]
    by_cases h : a < m
    · have h2 : ¬ m ≤ a := by omega
      simp [h, h2]
      omega
    · have h2 : m ≤ a := by omega
      simp [h, h2]
      omega
theorem abo_pos {l : List Nat} {m : Nat} (h : m ∈ l) : 0 < aboN l m := List.countP_pos_iff.2 ⟨m, h, by simp⟩
end Go.Proofs.Ytjbohnnknfcjeaa
