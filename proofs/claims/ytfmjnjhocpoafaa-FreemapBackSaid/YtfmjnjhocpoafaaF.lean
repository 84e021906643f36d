/-
  What a law is told of a []int that came in, and what the walks make of it: it reads as a list of numbers.
  Conditions: none.
-/
import Derived.Test.YtfmjnjhocpoafaaG1
namespace Go.Proofs.Ytfmjnjhocpoafaa
open Go.RowKit

/-- A slice of integers that came in: nil, or a row of cap cells, each number fitting its kind. -/
def IsRow (k : IntKind) (w : World) (a : Option Addr) (len cap : Nat) (zs : List Int) : Prop :=
  (a = none ∧ len = 0 ∧ cap = 0 ∧ zs = []) ∨
  ∃ x, a = some x ∧ len ≤ cap ∧ cap ≤ maxLen ∧ zs.length = cap ∧ (∀ i, i < zs.length → w.cell? (x.add i) = some (.int k (zs.getD i 0))) ∧ ∀ n ∈ zs, (Lit.int k n).wf = true

theorem ints_of_row {w : World} {a : Option Addr} {len cap : Nat} {zs : List Int} (h : IsRow .i64 w a len cap zs) :
    ∃ L : List Int, L.length = len ∧ Lies w w.heap.size 1 a L.length (IL L) ∧ L.length ≤ maxLen := by
  rcases h with ⟨rfl, rfl, rfl, rfl⟩ | ⟨x, rfl, hl, hm, hz, hc, _⟩
  · exact ⟨[], rfl, Lies.empty, by simp [maxLen]⟩
  · have hlen : (zs.take len).length = len := by rw [List.length_take]; omega
    refine ⟨zs.take len, hlen, ⟨by rw [IL_length]; omega, fun hn => ⟨x, rfl, ?_, ?_⟩⟩, by omega⟩
    · have h0 := World.block_lt_of_cell? w _ (hc 0 (by omega))
      rwa [add_block] at h0
    · intro j u hu
      have hj : j < len := by
        rcases Nat.lt_or_ge j len with hj | hj
        · exact hj
        · rw [List.getElem?_eq_none (by rw [IL_length]; omega)] at hu
          cases hu
      have hjz : j < zs.length := by omega
      rw [IL_get _ j (by omega)] at hu
      injection hu with hu
      subst hu
      rw [hc j hjz, List.getElem_take]
      simp [hjz]
theorem gives_law (a0 : Int) (a1 : Option Addr) (len1 cap1 : Nat) (z1 : List Int) (a2 : Int) (a3 : Bool) (w : World) (w1 : IsRow .i64 w a1 len1 cap1 z1) :
    Calls Try.prog 5 #[.int .i64 a0, .slice a1 len1 cap1, .int .i64 a2, .bool a3] w fun e w' => e = .returned (.bool true) ∧ Below w.heap.size w w' := by
  obtain ⟨L, rfl, hL, hm⟩ := ints_of_row w1
  exact gives_any a0 L a1 cap1 a2 a3 w hL hm
end Go.Proofs.Ytfmjnjhocpoafaa
