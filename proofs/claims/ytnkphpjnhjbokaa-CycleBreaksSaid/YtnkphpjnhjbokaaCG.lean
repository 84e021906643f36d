/-
  Whom no arc leads to at the start; the one with the largest stamp; no program in it.
  Conditions: none beyond those that each theorem names.
-/
import Derived.Test.YtnkphpjnhjbokaaCD
namespace Go.Proofs.Ytnkphpjnhjbokaa
set_option maxRecDepth 20000

structure OpR (g : List Ar) (into : Nat → Nat) (k : Nat) (op : List Nat) : Prop where
  nd : op.Nodup
  mem : ∀ x, x ∈ op ↔ into x = 0 ∧ ∃ (j : Nat) (h : j < g.length), j < k ∧ g[j].1 = x
theorem OpR.zero (g : List Ar) (into : Nat → Nat) : OpR g into 0 [] := ⟨List.nodup_nil, fun x => ⟨fun h => (by cases h), fun ⟨_, _, _, h, _⟩ => absurd h (Nat.not_lt_zero _)⟩⟩
theorem OpR.add {g : List Ar} {into : Nat → Nat} {k : Nat} {op : List Nat} (h : OpR g into k op) (hs : g.Pairwise arLe) (hk : k < g.length) (h0 : into g[k].1 = 0) (hp : k = 0 ∨ (g[k - 1]'(by omega)).1 ≠ g[k].1) : OpR g into (k + 1) (op ++ [g[k].1]) := by
  have hno : g[k].1 ∉ op := fun hm => by
    obtain ⟨_, j, hj, hjk, e⟩ := (h.mem _).1 hm
    rcases hp with rfl | hp
    · exact absurd hjk (Nat.not_lt_zero _)
    · have le1 : g[k - 1].1 ≤ g[k].1 := by
        have := List.pairwise_iff_getElem.1 hs (k - 1) k (by omega) hk (by omega)
        rcases this with h1 | h1
        · exact Nat.le_of_lt h1
        · exact Nat.le_of_eq h1.1
      by_cases hj1 : j = k - 1
      · subst hj1
        exact hp e
      · have := List.pairwise_iff_getElem.1 hs j (k - 1) hj (by omega) (by omega)
        rcases this with h1 | h1
        · omega
        · have := h1.1
          omega
  refine ⟨List.nodup_append.2 ⟨h.nd, by simp, fun x hx y hy e => ?_⟩, fun x => ?_⟩
  · obtain rfl : y = g[k].1 := by simpa using hy
    exact hno (e ▸ hx)
  · rw [List.mem_append, h.mem, List.mem_singleton]
    constructor
    · rintro (⟨h1, j, hj, hjk, e⟩ | rfl)
      · exact ⟨h1, j, hj, by omega, e⟩
      · exact ⟨h0, k, hk, by omega, rfl⟩
    · rintro ⟨h1, j, hj, hjk, e⟩
      by_cases hjk2 : j = k
      · subst hjk2
        exact .inr e.symm
      · exact .inl ⟨h1, j, hj, by omega, e⟩
theorem OpR.skip {g : List Ar} {into : Nat → Nat} {k : Nat} {op : List Nat} (h : OpR g into k op) (hk : k < g.length) (hp : into g[k].1 ≠ 0 ∨ (0 < k ∧ (g[k - 1]'(by omega)).1 = g[k].1)) : OpR g into (k + 1) op := by
  refine ⟨h.nd, fun x => ?_⟩
  rw [h.mem]
  constructor
  · rintro ⟨h1, j, hj, hjk, e⟩
    exact ⟨h1, j, hj, by omega, e⟩
  · rintro ⟨h1, j, hj, hjk, e⟩
    by_cases hjk2 : j = k
    · subst hjk2
      rcases hp with hp | ⟨hp, hp2⟩
      · rw [e] at hp
        exact absurd h1 hp
      · exact ⟨h1, j - 1, by omega, by omega, hp2.trans e⟩
    · exact ⟨h1, j, hj, by omega, e⟩
theorem KI.start {g : List Ar} {into : Nat → Nat} {op : List Nat} (hi : ∀ x, into x = g.countP fun a => a.2 == x) (h : OpR g into g.length op) : KI g 0 ⟨into, g.length, op⟩ := by
  have hf : (g.filter fun a => decide (a.1 ∉ op.take 0)) = g := by
    rw [List.filter_eq_self]
    intro a _
    simp
  refine ⟨h.nd, fun x => ?_, ?_, fun x hx => ((h.mem x).1 hx).1, fun x y hxy h0 => ?_, fun q hq x hx => ?_⟩
  · show into x = _
    dsimp only
    rw [hf]
    exact hi x
  · dsimp only
    rw [hf]
  · obtain ⟨j, hj, e⟩ := List.getElem_of_mem hxy
    exact (h.mem x).2 ⟨h0, j, hj, hj, by rw [e]⟩
  · have h0 := ((h.mem _).1 (List.getElem_mem hq)).1
    rw [hi] at h0
    have := List.countP_eq_zero.1 h0 _ hx
    simp at this

/-! ### the largest stamp -/
/-- Of the first so many: who is the last of those with the largest. -/
structure YoR (st : Nat → Nat) (l : List Nat) (k b m : Nat) : Prop where
  lt : b < k
  le : k ≤ l.length
  is : ∀ h : b < l.length, st l[b] = m
  max : ∀ (i : Nat) (h : i < l.length), i < k → st l[i] ≤ m ∧ (b < i → st l[i] < m)
theorem YoR.take {st : Nat → Nat} {l : List Nat} {k : Nat} (hk : k < l.length) (h : k = 0 ∨ ∃ b m, YoR st l k b m ∧ m ≤ st l[k]) : YoR st l (k + 1) k (st l[k]) := by
  refine ⟨by omega, hk, fun _ => rfl, fun i hi hik => ?_⟩
  by_cases e : i = k
  · subst e
    exact ⟨Nat.le_refl _, fun h => absurd h (Nat.lt_irrefl _)⟩
  · rcases h with rfl | ⟨b, m, h, hm⟩
    · omega
    · have := (h.max i hi (by omega)).1
      exact ⟨by omega, fun h => by omega⟩
theorem YoR.keep {st : Nat → Nat} {l : List Nat} {k b m : Nat} (h : YoR st l k b m) (hk : k < l.length) (hm : st l[k] < m) : YoR st l (k + 1) b m := by
  refine ⟨by have := h.lt; omega, hk, h.is, fun i hi hik => ?_⟩
  by_cases e : i = k
  · subst e
    exact ⟨Nat.le_of_lt hm, fun _ => hm⟩
  · exact h.max i hi (by omega)
end Go.Proofs.Ytnkphpjnhjbokaa
