/-
  What a law is told of a []byte that came in, and what the walks make of it: it reads as a list of bytes.
  Conditions: none.
-/
import Derived.Test.YtnnbodbcnbcbnaaWorks
namespace Go.Proofs.Ytnnbodbcnbcbnaa
open Go.RowKit

/-- A slice of integers that came in: nil, or a row of cap cells, each number fitting its kind. -/
def IsRow (k : IntKind) (w : World) (a : Option Addr) (len cap : Nat) (zs : List Int) : Prop :=
  (a = none ∧ len = 0 ∧ cap = 0 ∧ zs = []) ∨
  ∃ x, a = some x ∧ len ≤ cap ∧ cap ≤ maxLen ∧ zs.length = cap ∧ (∀ i, i < zs.length → w.cell? (x.add i) = some (.int k (zs.getD i 0))) ∧ ∀ n ∈ zs, (Lit.int k n).wf = true

theorem wf_u8 {z : Int} (h : (Lit.int .u8 z).wf = true) : 0 ≤ z ∧ z < 256 := by
  simp [Lit.wf, IntKind.min, IntKind.max, IntKind.bits, IntKind.signed] at h
  omega

theorem bytes_of_row {w : World} {a : Option Addr} {len cap : Nat} {zs : List Int} (h : IsRow .u8 w a len cap zs) :
    ∃ l : List UInt8, Lies w w.heap.size 1 a len (BC l) ∧ len ≤ cap ∧ cap ≤ maxLen := by
  rcases h with ⟨rfl, rfl, rfl, rfl⟩ | ⟨x, rfl, hl, hm, hz, hc, hw⟩
  · exact ⟨[], Lies.empty, Nat.le_refl _, by simp [maxLen]⟩
  · refine ⟨(zs.take len).map fun z => UInt8.ofNat z.toNat, ⟨?_, fun hn => ⟨x, rfl, ?_, ?_⟩⟩, hl, hm⟩
    · rw [BC_length, List.length_map, List.length_take]
      omega
    · have h0 := World.block_lt_of_cell? w _ (hc 0 (by omega))
      rwa [add_block] at h0
    · intro j u hu
      have hj : j < len := by
        rcases Nat.lt_or_ge j len with hj | hj
        · exact hj
        · rw [List.getElem?_eq_none (by rw [BC_length, List.length_map, List.length_take]; omega)] at hu
          cases hu
      have hjz : j < zs.length := by omega
      rw [BC_get _ j (by rw [List.length_map, List.length_take]; omega)] at hu
      injection hu with hu
      subst hu
      rw [hc j hjz]
      obtain ⟨z0, z1⟩ := wf_u8 (hw zs[j] (List.getElem_mem hjz))
      simp [List.getElem_take, List.getD, hjz, UInt8.toNat_ofNat']
      omega
end Go.Proofs.Ytnnbodbcnbcbnaa
