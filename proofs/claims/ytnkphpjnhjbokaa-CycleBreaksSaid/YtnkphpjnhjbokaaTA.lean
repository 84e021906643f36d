/-
  A slice of arcs that came in reads as a list of pairs of numbers below 2^64.
  Conditions: none.
-/
import Derived.Test.YtnkphpjnhjbokaaSL
import Derived.Test.YtnkphpjnhjbokaaCH
import Derived.Deep.Slices
import Derived.Lib.SmallJoins
import Derived.OpenShut
namespace Go.Proofs.Ytnkphpjnhjbokaa
open Go.RowKit Go.Deep Go.Joins Go.ChangeShapes Go.WideShapes

theorem Try.cells34 : Try.prog.cellsOf 34 = 2 := by kernel_rfl
theorem Try.cells23 : Try.prog.cellsOf 23 = 1 := by kernel_rfl
theorem nat_of_wf {z : Int} (h : (Lit.int .u64 z).wf = true) : ∃ n : Nat, z = (n : Int) ∧ U64 n := by
  have e1 : IntKind.u64.min = 0 := by decide
  have e2 : IntKind.u64.max = 18446744073709551615 := by decide
  simp [Lit.wf, e1, e2] at h
  exact ⟨z.toNat, by omega, by unfold U64; omega⟩
theorem arL_back : ∀ (l : List Ar) (j : Nat) (u : Value), (arL l)[j]? = some u → ∃ (i : Nat) (h : i < l.length) (r : Nat), j = i * 2 + r ∧ (arV l[i])[r]? = some u
  | [], j, u, h => by simp [arL] at h
  | a :: l, j, u, h => by
    have h1 : (arV a ++ arL l)[j]? = some u := h
    by_cases hj : j < 2
    · rw [List.getElem?_append_left (by simpa [arV] using hj)] at h1
      exact ⟨0, by simp, j, by omega, h1⟩
    · rw [List.getElem?_append_right (by simp [arV]; omega)] at h1
      obtain ⟨i, hi, r, e, h2⟩ := arL_back l _ u h1
      exact ⟨i + 1, by simpa using hi, r, by simp [arV] at e; omega, h2⟩
set_option maxRecDepth 100000 in
theorem arcs_of {H : Type} {enc : TypeId × Value → H} {W : World} {spare : Nat → Bool} {held : Bool} {A : Option Addr} {len cap : Nat} {d : DataW H} {p : List MemPlace}
    (h : DataW.Trod enc Try.prog W 0 spare held 22 (.slice A len cap) d p) : ∃ L : List Ar, Lz (fun _ => False) W 2 A len (arL L) ∧ ∀ a ∈ L, U64 a.1 ∧ U64 a.2 := by
  obtain ⟨fuel, hf⟩ := h
  rcases open_slice Try.underlying22 hf with ⟨hcs, _⟩ | ⟨a, len', cap', m, n, D, Pl, hcs, _, hl, hm, hmm, _, hi⟩
  · simp [Value.cells] at hcs
    obtain ⟨rfl, rfl, rfl⟩ := hcs
    exact ⟨[], ⟨rfl, fun h => absurd h (Nat.lt_irrefl 0)⟩, fun a ha => by cases ha⟩
  · simp [Value.cells] at hcs
    obtain ⟨rfl, rfl, rfl⟩ := hcs
    have hlm : len ≤ m := by rw [hmm]; split <;> omega
    by_cases hl0 : len = 0
    · subst hl0
      exact ⟨[], ⟨rfl, fun h => absurd h (Nat.lt_irrefl 0)⟩, fun a ha => by cases ha⟩
    obtain ⟨b, off, rfl⟩ : ∃ b off, a = ⟨b, off, none⟩ := by
      obtain ⟨cs', h1, _⟩ := hi 0 (by omega)
      rw [Try.cells34] at h1
      obtain ⟨_, hlen, hcell⟩ := World.cells?_some h1
      have c0 := hcell 0 (by omega)
      obtain ⟨b, off, spot⟩ := a
      match cs', hlen with
      | [v0, v1], _ =>
        have := World.cell?_spot c0
        have hs : spot = none := by simpa [Addr.add] using this
        subst hs
        exact ⟨b, off, rfl⟩
    have each : ∀ i, i < len → ∃ f : Ar, b < W.heap.size ∧ U64 f.1 ∧ U64 f.2 ∧ W.cell? ⟨b, off + i * 2, none⟩ = some (.int .u64 (f.1 : Int)) ∧ W.cell? ⟨b, off + i * 2 + 1, none⟩ = some (.int .u64 (f.2 : Int)) := by
      intro i hlt
      obtain ⟨cs', h1, h2⟩ := hi i (by omega)
      rw [Try.cells34] at h1
      obtain ⟨_, hlen, hcell⟩ := World.cells?_some h1
      obtain ⟨y0, y1, k, _, _, g0, g1⟩ := trod_struct2 Try.underlying34 h2
      match cs', hlen with
      | [v0, v1], _ =>
        simp [Try.cells23] at g0 g1
        obtain ⟨z0, e0, _, w0⟩ := DataW.trod_int Try.underlying23 g0
        obtain ⟨z1, e1, _, w1⟩ := DataW.trod_int Try.underlying23 g1
        obtain ⟨n0, rfl, u0⟩ := nat_of_wf w0
        obtain ⟨n1, rfl, u1⟩ := nat_of_wf w1
        simp at e0 e1
        subst e0 e1
        have c0 := hcell 0 (by omega)
        have c1 := hcell 1 (by omega)
        rw [Go.Deep.add_add] at c0 c1
        have hblk := World.block_lt_of_cell? W _ c0
        rw [Ytnkphpjnhjbokaa.add_block] at hblk
        rw [add_plain] at c0 c1
        refine ⟨(n0, n1), hblk, u0, u1, ?_, ?_⟩
        · simpa using c0
        · rw [show off + i * 2 + 1 = off + (i * 2 + 1) from by omega, c1]
          simp
    obtain ⟨F, hF⟩ := choose_lt each
    have hlen : ((List.range len).map F).length = len := by simp
    refine ⟨(List.range len).map F, ⟨by rw [arL_length, hlen], fun _ => ⟨b, off, rfl, fun h => h.elim, (hF 0 (by omega)).1, fun j v hv => ?_⟩⟩, fun a ha => ?_⟩
    · obtain ⟨i, hi', r, rfl, h2⟩ := arL_back _ j v hv
      have hil : i < len := by rw [hlen] at hi'; exact hi'
      obtain ⟨_, _, _, h3, h4⟩ := hF i hil
      have e : ((List.range len).map F)[i] = F i := by simp
      rw [e] at h2
      rcases r with _ | _ | r
      · simp [arV] at h2
        rw [← h2]
        exact h3
      · simp [arV] at h2
        rw [← h2, ← Nat.add_assoc]
        exact h4
      · simp [arV] at h2
    · obtain ⟨i, hi', rfl⟩ := List.mem_map.1 ha
      have := hF i (by simpa using hi')
      exact ⟨this.2.1, this.2.2.1⟩
end Go.Proofs.Ytnkphpjnhjbokaa
