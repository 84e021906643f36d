/-
  A []Op that came in reads as a list of acts.
  Conditions: none.
-/
import Derived.Test.YtfmjnjhocpoafaaH2
import Derived.Deep.Slices
import Derived.Lib.SmallJoins
namespace Go.Proofs.Ytfmjnjhocpoafaa
open Go.RowKit Go.Deep Go.Joins Go.ChangeShapes Go.WideShapes

theorem Try.cells33 : Try.prog.cellsOf 33 = 2 := by kernel_rfl
theorem Try.cells3 : Try.prog.cellsOf 3 = 1 := by kernel_rfl
set_option maxRecDepth 100000 in
theorem acts_of {H : Type} {enc : TypeId × Value → H} {W : World} {spare : Nat → Bool} {held : Bool} {A : Option Addr} {len cap : Nat} {d : DataW H} {p : List MemPlace}
    (h : DataW.Trod enc Try.prog W 0 spare held 22 (.slice A len cap) d p) : ∃ L : List (Int × Int), L.length = len ∧ Acts W W.heap.size A L := by
  obtain ⟨fuel, hf⟩ := h
  rcases open_slice Try.underlying22 hf with ⟨hcs, _⟩ | ⟨a, len', cap', m, n, D, Pl, hcs, _, hl, hm, hmm, _, hi⟩
  · simp [Value.cells] at hcs
    obtain ⟨rfl, rfl, rfl⟩ := hcs
    exact ⟨[], rfl, ⟨fun i hi => absurd hi (Nat.not_lt_zero _)⟩⟩
  · simp [Value.cells] at hcs
    obtain ⟨rfl, rfl, rfl⟩ := hcs
    have hlm : len ≤ m := by rw [hmm]; split <;> omega
    by_cases hl0 : len = 0
    · subst hl0
      exact ⟨[], rfl, ⟨fun i hi => absurd hi (Nat.not_lt_zero _)⟩⟩
    obtain ⟨b, off, rfl⟩ : ∃ b off, a = ⟨b, off, none⟩ := by
      obtain ⟨cs', h1, _⟩ := hi 0 (by omega)
      rw [Try.cells33] at h1
      obtain ⟨_, hlen, hcell⟩ := World.cells?_some h1
      have c0 := hcell 0 (by omega)
      obtain ⟨b, off, spot⟩ := a
      match cs', hlen with
      | [v0, v1], _ =>
        have := World.cell?_spot c0
        have hs : spot = none := by simpa [Addr.add] using this
        subst hs
        exact ⟨b, off, rfl⟩
    have each : ∀ i, i < len → ∃ f : Int × Int, b < W.heap.size ∧ W.cell? ⟨b, off + i * 2, none⟩ = some (.int .i64 f.1) ∧ W.cell? ⟨b, off + i * 2 + 1, none⟩ = some (.int .i64 f.2) := by
      intro i hlt
      obtain ⟨cs', h1, h2⟩ := hi i (by omega)
      rw [Try.cells33] at h1
      obtain ⟨_, hlen, hcell⟩ := World.cells?_some h1
      obtain ⟨y0, y1, k, _, _, g0, g1⟩ := trod_struct2 Try.underlying33 h2
      match cs', hlen with
      | [v0, v1], _ =>
        simp [Try.cells3] at g0 g1
        obtain ⟨z0, e0, _, _⟩ := DataW.trod_int Try.underlying3 g0
        obtain ⟨z1, e1, _, _⟩ := DataW.trod_int Try.underlying3 g1
        simp at e0 e1
        subst e0 e1
        have c0 := hcell 0 (by omega)
        have c1 := hcell 1 (by omega)
        rw [Go.Deep.add_add] at c0 c1
        have hblk := World.block_lt_of_cell? W _ c0
        rw [Ytfmjnjhocpoafaa.add_block] at hblk
        rw [add_plain] at c0 c1
        refine ⟨(z0, z1), hblk, ?_, ?_⟩
        · simpa using c0
        · rw [show off + i * 2 + 1 = off + (i * 2 + 1) from by omega, c1]
          simp
    obtain ⟨F, hF⟩ := choose_lt each
    refine ⟨(List.range len).map F, by simp, ⟨fun i hi => ?_⟩⟩
    have hi' : i < len := by simpa using hi
    obtain ⟨h1, h2, h3⟩ := hF i hi'
    exact ⟨b, off, rfl, h1, by simpa using h2, by simpa using h3⟩
theorem does_law (n : Int) (A : Option Addr) (len cap : Nat) (L : List (Int × Int)) (w : World) (hl : L.length = len) (hL : Acts w w.heap.size A L) :
    Calls Try.prog 3 #[.int .i64 n, .slice A len cap] w fun e w' => e = .returned (.bool true) ∧ Below w.heap.size w w' := by
  subst hl
  by_cases hb : 80 < L.length ∨ 200 < n
  · exact does_big n A L.length cap w hb
  · by_cases hn : n < 1 ∨ 120 < n
    · exact does_bad n A L.length cap w (by omega) (by omega) hn
    · obtain ⟨k, rfl⟩ : ∃ k : Nat, n = (k : Int) := ⟨n.toNat, by omega⟩
      exact does_ok k A cap L w (by omega) (by omega) (by omega) hL
end Go.Proofs.Ytfmjnjhocpoafaa
