/-
  Whether some numbers are all one; no program in it.
  Conditions: none beyond those that each theorem names.
-/
import Derived.Test.YtjbohnnknfcjeaaNB
namespace Go.Proofs.Ytjbohnnknfcjeaa
set_option maxRecDepth 20000

/-- Whether the first k are all as the first. -/
def oneK (l : List Nat) (k : Nat) : Bool := (l.take k).all fun y => y == l.headD 0
theorem oneK_next {l : List Nat} {k : Nat} (hk : k < l.length) : oneK l (k + 1) = (oneK l k && (l[k] == l[0]'(by omega))) := by
  unfold oneK
  rw [List.take_add_one, List.getElem?_eq_getElem hk, List.all_append]
  congr 1
  cases l with
  | nil => simp at hk
  | cons a t => simp
theorem oneK_zero (l : List Nat) : oneK l 0 = true := by simp [oneK]
theorem mid_one {l : List Nat} {x : Nat} {ok : Bool} (h : MidR l x ok) : oneK l l.length = !ok := by
  unfold oneK
  rw [List.take_length]
  rcases h with ⟨rfl, h⟩ | ⟨rfl, rfl, h⟩
  · have h1 : ∃ y ∈ l, y < x := by
      have h2 : 0 < l.countP (fun y => decide (y < x)) := h.some
      obtain ⟨y, hy, hyx⟩ := List.countP_pos_iff.1 h2
      exact ⟨y, hy, by simpa using hyx⟩
    obtain ⟨y, hy, hyx⟩ := h1
    cases e : l.all fun y => y == l.headD 0 with
    | false => rfl
    | true =>
      rw [List.all_eq_true] at e
      have e1 := e y hy
      have e2 := e x h.mem
      simp at e1 e2
      omega
  · show _ = true
    rw [List.all_eq_true]
    intro y hy
    cases l with
    | nil => cases hy
    | cons a t =>
      have h1 : ∀ u ∈ a :: t, ∀ v ∈ a :: t, ¬ v < u := fun u hu v hv hlt => by
        have h2 : (a :: t).countP (fun y => decide (y < u)) = 0 := h u hu
        have := List.countP_eq_zero.1 h2 v hv
        simp at this
        omega
      have h2 := h1 y hy a (by simp)
      have h3 := h1 a (by simp) y hy
      simp
      omega
theorem mid_bel {l : List Nat} {x : Nat} (h : MidR l x true) : 0 < belN l x ∧ belN l x < l.length := by
  rcases h with ⟨_, h⟩ | ⟨h, _⟩
  · exact ⟨h.some, bel_lt h.mem⟩
  · cases h
end Go.Proofs.Ytjbohnnknfcjeaa
