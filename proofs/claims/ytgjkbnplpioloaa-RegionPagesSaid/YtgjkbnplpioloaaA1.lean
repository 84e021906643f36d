/-
  The reader's calls, stated over its state: what is left, and whether it has failed.
  Conditions: readers over at most 10000 bytes.
-/
import Derived.Test.YtgjkbnplpioloaaE0
namespace Go.Proofs.Ytgjkbnplpioloaa
open Go.RowKit
set_option maxRecDepth 8000

/-- A number was read. -/
def RdN (w : World) (g : Nat) (v : Nat) (s : RS) (e : Ending) (w' : World) : Prop :=
  e = .returned (.int .u64 (v : Int)) ∧ Rdr w' g s.1 s.2 ∧ w.grownBy w' (some g)
theorem can_yes {k : Nat} {s : RS} (h : can k s = true) : s.2 = false ∧ k ≤ s.1.length := by
  simpa [can] using h
theorem can_no {k : Nat} {s : RS} (h : ¬ can k s = true) : s.2 = true ∨ (k : Int) < 0 ∨ (s.1.length : Int) < (k : Int) := by
  by_cases h2 : s.2 = true
  · exact .inl h2
  · have h2 : s.2 = false := by simpa using h2
    have : ¬ k ≤ s.1.length := fun hk => h (by simp [can, h2, hk])
    omega

theorem num_st (g k : Nat) (s : RS) (w : World) (h : Rdr w g s.1 s.2) (hl : s.1.length ≤ 10000) :
    Calls Try.prog 56 #[.pointer (some ⟨g, 0, none⟩), .int .i64 (k : Int)] w (RdN w g (vl k s) (nx k s)) := by
  by_cases hc : can k s = true
  · obtain ⟨h2, hk⟩ := can_yes hc
    rw [h2] at h
    refine (num_ok g s.1 k w h hl hk).mono ?_
    rintro e w' ⟨rfl, hr, hg⟩
    rw [RdN, vl, tk, nx, if_pos hc, if_pos hc]
    exact ⟨rfl, hr, hg⟩
  · refine (num_fail g s.1 s.2 k w h hl (can_no hc)).mono ?_
    rintro e w' ⟨rfl, hr, hg⟩
    rw [RdN, vl, tk, nx, if_neg hc, if_neg hc]
    exact ⟨rfl, hr, hg⟩

end Go.Proofs.Ytgjkbnplpioloaa
