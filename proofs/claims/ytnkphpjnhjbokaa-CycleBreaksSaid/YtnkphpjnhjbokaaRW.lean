/-
  Rows of a call's own by their names, their blocks apart: what a change of one leaves of the others.
  Conditions: none beyond those that each theorem names.
-/
import Derived.WalkKit
import Derived.Lib.Hide
namespace Go.Proofs.Ytnkphpjnhjbokaa
open Go.RowKit

def flat2 (l : List (Value × Value)) : List Value := l.flatMap fun p => [p.1, p.2]
theorem flat2_length (l : List (Value × Value)) : (flat2 l).length = l.length * 2 := by
  induction l with
  | nil => rfl
  | cons a l ih => show ([a.1, a.2] ++ flat2 l).length = _; rw [List.length_append, ih]; simp; omega
theorem flat2_append (a b : List (Value × Value)) : flat2 (a ++ b) = flat2 a ++ flat2 b := by simp [flat2]
theorem flat2_get (l : List (Value × Value)) (k : Nat) (h : k < l.length) : (flat2 l)[k * 2]? = some l[k].1 ∧ (flat2 l)[k * 2 + 1]? = some l[k].2 := by
  induction l generalizing k with
  | nil => simp at h
  | cons a l ih =>
    show ([a.1, a.2] ++ flat2 l)[k * 2]? = _ ∧ ([a.1, a.2] ++ flat2 l)[k * 2 + 1]? = _
    cases k with
    | zero => exact ⟨rfl, rfl⟩
    | succ k =>
      have := ih k (by simpa using h)
      rw [show (k + 1) * 2 = k * 2 + 1 + 1 by omega]
      exact this
/-- The rows: V i is the slice of row i, L i what it holds. -/
structure RowsF {I : Type} (B : Nat) (z : World) (ty : I → TypeId) (V : I → Value) (L : I → List (Value × Value)) : Prop where
  own : ∀ i, z.ownsRow B (ty i) 2 (V i) (L i).length (flat2 (L i))
  apart : ∀ i j, i ≠ j → ∀ k, (V i).ownBlock = some k → (V j).ownBlock ≠ some k
def setF {I β : Type} [DecidableEq I] (f : I → β) (i : I) (b : β) : I → β := fun x => if x = i then b else f x
theorem setF_same {I β : Type} [DecidableEq I] (f : I → β) (i : I) (b : β) : setF f i b i = b := by simp [setF]
theorem setF_ne {I β : Type} [DecidableEq I] (f : I → β) {i x : I} (b : β) (h : x ≠ i) : setF f i b x = f x := by simp [setF, h]
section
variable {I : Type} [DecidableEq I] {B : Nat} {z z' : World} {ty : I → TypeId} {V : I → Value} {L : I → List (Value × Value)}
omit [DecidableEq I] in
theorem RowsF.move (h : RowsF B z ty V L) {row : Option Nat} (hg : z.grownBy z' row) (hn : ∀ i k, (V i).ownBlock = some k → row ≠ some k) : RowsF B z' ty V L :=
  ⟨fun i => (h.own i).kept hg (by
    cases hv : (V i).ownBlock with
    | none => exact .inl rfl
    | some k => exact .inr (Ne.symm (hn i k hv))), h.apart⟩
/-- Row i is written anew. -/
theorem RowsF.set (h : RowsF B z ty V L) (i : I) (hg : z.grownBy z' (V i).ownBlock) {v : Value} {l : List (Value × Value)} (ho : z'.ownsRow B (ty i) 2 v l.length (flat2 l))
    (hv : ∀ k, v.ownBlock = some k → (V i).ownBlock = some k ∨ z.heap.size ≤ k) : RowsF B z' ty (setF V i v) (setF L i l) := by
  have hlt : ∀ j k, (V j).ownBlock = some k → k < z.heap.size := fun j k hk => ((h.own j).lt k hk).2
  refine ⟨fun j => ?_, fun j j' hne k hk => ?_⟩
  · by_cases hj : j = i
    · subst hj
      rw [setF_same, setF_same]
      exact ho
    · rw [setF_ne _ _ hj, setF_ne _ _ hj]
      refine (h.own j).kept hg ?_
      cases hv : (V j).ownBlock with
      | none => exact .inl rfl
      | some k => exact .inr (Ne.symm (h.apart j i hj k hv))
  · by_cases hj : j = i
    · subst hj
      rw [setF_same] at hk
      rw [setF_ne _ _ (Ne.symm hne)]
      intro hk'
      rcases hv k hk with h1 | h1
      · exact h.apart j j' hne k h1 hk'
      · have := hlt j' k hk'
        omega
    · rw [setF_ne _ _ hj] at hk
      by_cases hj' : j' = i
      · subst hj'
        rw [setF_same]
        intro hk'
        rcases hv k hk' with h1 | h1
        · exact h.apart j j' hne k hk h1
        · have := hlt j k hk
          omega
      · rw [setF_ne _ _ hj']
        exact h.apart j j' hne k hk
end
end Go.Proofs.Ytnkphpjnhjbokaa
