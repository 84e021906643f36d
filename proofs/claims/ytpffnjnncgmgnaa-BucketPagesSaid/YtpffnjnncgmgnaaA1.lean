/-
  The reader's calls, stated over its state: what is left, and whether it has failed.
  Conditions: readers over at most 10000 bytes.
-/
import Derived.Test.YtpffnjnncgmgnaaE1
namespace Go.Proofs.Ytpffnjnncgmgnaa
open Go.RowKit
set_option maxRecDepth 8000

/-- A number was read. -/
def RdN (w : World) (g : Nat) (v : Nat) (s : RS) (e : Ending) (w' : World) : Prop :=
  e = .returned (.int .u64 (v : Int)) ∧ Rdr w' g s.1 s.2 ∧ w.grownBy w' (some g)
/-- A text was read. -/
def RdT (w : World) (g : Nat) (v : List UInt8) (s : RS) (e : Ending) (w' : World) : Prop :=
  e = .returned (.string (strOf v)) ∧ Rdr w' g s.1 s.2 ∧ w.grownBy w' (some g)
/-- Bytes were read, into a row of their own. -/
def RdB (w : World) (g : Nat) (v : List UInt8) (s : RS) (e : Ending) (w' : World) : Prop :=
  ∃ A c, e = .returned (.slice A v.length c) ∧ w'.ownsRow w.heap.size 5 1 (.slice A v.length c) v.length (BC v) ∧ Rdr w' g s.1 s.2 ∧ w.grownBy w' (some g)

theorem can_yes {k : Nat} {s : RS} (h : can k s = true) : s.2 = false ∧ k ≤ s.1.length := by
  simpa [can] using h
theorem can_no {k : Nat} {s : RS} (h : ¬ can k s = true) : s.2 = true ∨ (k : Int) < 0 ∨ (s.1.length : Int) < (k : Int) := by
  by_cases h2 : s.2 = true
  · exact .inl h2
  · have h2 : s.2 = false := by simpa using h2
    have : ¬ k ≤ s.1.length := fun hk => h (by simp [can, h2, hk])
    omega

theorem num_st (g k : Nat) (s : RS) (w : World) (h : Rdr w g s.1 s.2) (hl : s.1.length ≤ 10000) :
    Calls Try.prog 51 #[.pointer (some ⟨g, 0, none⟩), .int .i64 (k : Int)] w (RdN w g (vl k s) (nx k s)) := by
  by_cases hc : can k s = true
  · obtain ⟨h2, hk⟩ := can_yes hc
    rw [h2] at h
    refine (num_ok g s.1 k w h hl hk).mono ?_
    rintro e w' ⟨rfl, hr, hg⟩
    rw [RdN, vl, tk, nx, if_pos hc, if_pos hc]
    exact ⟨rfl, hr, hg⟩
  · refine (num_fail g s.1 s.2 k w h hl (can_no hc)).mono ?_
    rintro e w' ⟨rfl, hr, hg⟩
    rw [RdN, vl, tk, nx, if_neg hc, if_neg hc]
    exact ⟨rfl, hr, hg⟩

theorem take_st (g k : Nat) (s : RS) (w : World) (h : Rdr w g s.1 s.2) (hl : s.1.length ≤ 10000) :
    Calls Try.prog 63 #[.pointer (some ⟨g, 0, none⟩), .int .i64 (k : Int)] w (RdB w g (tk k s) (nx k s)) := by
  by_cases hc : can k s = true
  · obtain ⟨h2, hk⟩ := can_yes hc
    rw [h2] at h
    refine (take_ok g s.1 k w h (by omega) hk).mono ?_
    rintro e w' ⟨A, c, rfl, ho, hr, hg⟩
    have hlt : (s.1.take k).length = k := by rw [List.length_take]; omega
    rw [tk, nx, if_pos hc, if_pos hc]
    exact ⟨A, c, by rw [hlt], by rw [hlt]; exact ho, hr, hg⟩
  · refine (take_fail g s.1 s.2 k w h (by omega) (can_no hc)).mono ?_
    rintro e w' ⟨rfl, hr, hg⟩
    rw [tk, nx, if_neg hc, if_neg hc]
    exact ⟨none, 0, rfl, World.ownsRow_nil _ _ _ _, hr, hg⟩

theorem rtext_st (g : Nat) (s : RS) (w : World) (h : Rdr w g s.1 s.2) (hl : s.1.length ≤ 10000) :
    Calls Try.prog 65 #[.pointer (some ⟨g, 0, none⟩), .int .i64 16] w (RdT w g (txt s) (txs s)) := by
  by_cases hc : can 16 s = true
  · obtain ⟨h2, hk⟩ := can_yes hc
    rw [h2] at h
    cases hp : parseF (s.1.take 16) with
    | some v =>
      refine (rtext_yes g s.1 v 16 w h hl hk hp).mono ?_
      rintro e w' ⟨rfl, hr, hg⟩
      rw [RdT, txt, txs, tk, nx, if_pos hc, if_pos hc, fldS, fldB, hp]
      exact ⟨rfl, hr, hg⟩
    | none =>
      refine (rtext_no g s.1 16 w h hl hk hp).mono ?_
      rintro e w' ⟨rfl, hr, hg⟩
      rw [RdT, txt, txs, tk, nx, if_pos hc, if_pos hc, fldS, fldB, hp]
      exact ⟨rfl, hr, hg⟩
  · refine (rtext_fail g s.1 s.2 16 w h hl (can_no hc)).mono ?_
    rintro e w' ⟨rfl, hr, hg⟩
    rw [RdT, txt, txs, tk, nx, if_neg hc, if_neg hc]
    exact ⟨rfl, hr, hg⟩
end Go.Proofs.Ytpffnjnncgmgnaa
