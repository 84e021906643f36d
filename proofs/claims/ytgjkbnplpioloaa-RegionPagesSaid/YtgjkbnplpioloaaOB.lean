/-
  A slice of truth values that came in.
  Conditions: none.
-/
import Derived.Test.YtgjkbnplpioloaaOP
import Derived.Deep.Slices
import Derived.Lib.SmallJoins
import Derived.OpenShut
import Derived.WideShapes
import Derived.ProofKit
namespace Go.Proofs.Ytgjkbnplpioloaa
open Go.RowKit Go.Deep Go.Joins Go.ChangeShapes Go.WideShapes
set_option maxRecDepth 20000

theorem ceB : Try.prog.cellsOf 4 = 1 := by kernel_rfl
theorem spot_none {W : World} {a : Addr} {v : Value} (h : W.cell? (a.add 0) = some v) : ∃ b off, a = ⟨b, off, none⟩ := by
  obtain ⟨b, off, spot⟩ := a
  have hs : spot = none := by simpa [Addr.add] using World.cell?_spot h
  subst hs
  exact ⟨b, off, rfl⟩
/-- A slice whose elements may be read, each a truth value. -/
def BoL (w : World) (A : Option Addr) (n : Nat) : Prop := ∀ k, k < n → ∃ b o, ∃ q : Bool, A = some ⟨b, o, none⟩ ∧ b < w.heap.size ∧ w.cell? ⟨b, o + k, none⟩ = some (.bool q)
theorem bools_of {H : Type} {enc : TypeId × Value → H} {W : World} {spare : Nat → Bool} {held : Bool} {A : Option Addr} {len cap : Nat} {d : DataW H} {p : List MemPlace}
    (h : DataW.Trod enc Try.prog W 0 spare held 41 (.slice A len cap) d p) : BoL W A len ∧ len ≤ maxLen := by
  obtain ⟨fuel, hf⟩ := h
  rcases open_slice Try.underlying41 hf with ⟨hcs, _⟩ | ⟨a, len', cap', m, n, D, Pl, hcs, _, hl, hm, hmm, _, hi⟩
  · simp [Value.cells] at hcs
    obtain ⟨rfl, rfl, rfl⟩ := hcs
    exact ⟨fun k hk => absurd hk (Nat.not_lt_zero _), by simp [maxLen]⟩
  · simp [Value.cells] at hcs
    obtain ⟨rfl, rfl, rfl⟩ := hcs
    have hlm : len ≤ m := by rw [hmm]; split <;> omega
    rw [ceB] at hi
    have each : ∀ k, k < len → ∃ q : Bool, W.cell? (a.add k) = some (.bool q) := fun k hk => by
      obtain ⟨cs', h1, h2⟩ := hi k (by omega)
      obtain ⟨_, hlen, hcell⟩ := World.cells?_some h1
      obtain ⟨q, e5, _⟩ := DataW.trod_bool Try.underlying4 h2
      have h3 := hcell 0 (by omega)
      rw [e5, Nat.mul_one] at h3
      have h3 : W.cell? ((a.add k).add 0) = some (.bool q) := h3
      rw [Go.Deep.add_add, Nat.add_zero] at h3
      exact ⟨q, h3⟩
    refine ⟨fun k hk => ?_, by omega⟩
    obtain ⟨q0, h0⟩ := each 0 (by omega)
    obtain ⟨b, off, rfl⟩ := spot_none h0
    obtain ⟨q, h3⟩ := each k hk
    rw [add_plain] at h3
    exact ⟨b, off, q, rfl, World.block_lt_of_cell? _ _ h3, h3⟩
end Go.Proofs.Ytgjkbnplpioloaa
