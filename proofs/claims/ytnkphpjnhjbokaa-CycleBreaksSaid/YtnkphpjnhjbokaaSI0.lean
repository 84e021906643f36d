/-
  Whom the arcs of somebody lead to, in a graph in order; no program in it.
  Conditions: none beyond those that each theorem names.
-/
import Derived.Test.YtnkphpjnhjbokaaSE
import Derived.Test.YtnkphpjnhjbokaaCB
namespace Go.Proofs.Ytnkphpjnhjbokaa
set_option maxRecDepth 20000

theorem suc_take {g : List Ar} {x k : Nat} (hk : k < g.length) : sucI (g.take (k + 1)) x = if g[k].1 = x then sucI (g.take k) x ++ [g[k].2] else sucI (g.take k) x := by
  unfold sucI
  rw [List.take_add_one, List.getElem?_eq_getElem hk, List.filter_append, List.map_append]
  by_cases e : g[k].1 = x <;> simp [e]
/-- Ahead of the first that is not less than (x, 0) nobody's arcs are x's. -/
theorem suc_none {g : List Ar} {x i : Nat} (h : ∀ (k : Nat) (hk : k < g.length), k < i → ltA g[k] (x, 0) = true) : sucI (g.take i) x = [] := by
  unfold sucI
  rw [List.map_eq_nil_iff, List.filter_eq_nil_iff]
  intro a ha
  obtain ⟨j, hj, rfl⟩ := List.mem_take_iff_getElem.1 ha
  have h1 := ltA_iff.1 (h j (by omega) (by omega))
  have : g[j].1 < x := by
    rcases h1 with h1 | h1
    · exact h1
    · exact absurd h1.2 (Nat.not_lt_zero _)
  simp
  omega
/-- Behind the last of x's arcs come none. -/
theorem suc_all {g : List Ar} {x i k : Nat} (hu : g.Pairwise arLe) (hi : ∀ (k : Nat) (hk : k < g.length), i ≤ k → ltA g[k] (x, 0) = false) (hik : i ≤ k) (hk : ∀ h : k < g.length, g[k].1 ≠ x) : sucI (g.take k) x = sucI g x := by
  have hd : sucI (g.drop k) x = [] := by
    unfold sucI
    rw [List.map_eq_nil_iff, List.filter_eq_nil_iff]
    intro a ha
    obtain ⟨j, hj, rfl⟩ := List.getElem_of_mem ha
    rw [List.length_drop] at hj
    rw [List.getElem_drop]
    have h1 := ltA_not (hi k (by omega) hik)
    have h2 := arLe_at hu (i := k) (j := k + j) (by omega) (by omega) (by omega)
    have h3 := hk (by omega)
    unfold arLe at h1 h2
    simp only [beq_iff_eq]
    rcases h1 with h1 | h1
    · dsimp only at h1
      omega
    · have := h1.1
      dsimp only at this
      omega
  conv => rhs; rw [← List.take_append_drop k g]
  unfold sucI at hd ⊢
  rw [List.filter_append, List.map_append, hd, List.append_nil]
theorem suc_len (g : List Ar) (x k : Nat) : (sucI (g.take k) x).length ≤ k := by
  unfold sucI
  rw [List.length_map]
  refine Nat.le_trans (List.length_filter_le _ _) ?_
  rw [List.length_take]
  omega
theorem suc_pre {g : List Ar} {x k m : Nat} (hkm : k ≤ m) (hm : m ≤ g.length) : sucI (g.take k) x <+: sucI (g.take m) x := by
  induction m with
  | zero => rw [show k = 0 by omega]; exact List.prefix_refl _
  | succ m ih =>
    by_cases e : k = m + 1
    · rw [e]; exact List.prefix_refl _
    · refine (ih (by omega) (by omega)).trans ?_
      rw [suc_take (show m < g.length by omega)]
      split
      · exact List.prefix_append _ _
      · exact List.prefix_refl _
end Go.Proofs.Ytnkphpjnhjbokaa
