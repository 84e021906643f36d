/-
  visit, the function inside distances.
  Conditions: at most 1000 arcs; numbers below 2^64.
-/
import Derived.Test.YtnkphpjnhjbokaaSK
import Derived.RangeFuncWrites
namespace Go.Proofs.Ytnkphpjnhjbokaa
open Go.RowKit Go.Shelf
open Go.Maps (Keyed)
attribute [local go_sem] Oper.semAt_some
set_option maxRecDepth 100000

theorem u64V_inj (a b : Nat) (h : u64V a = u64V b) : a = b := by
  simp [u64V] at h
  omega
theorem wf_u64 {t : Nat} (h : U64 t) : (Lit.int .u64 (t : Int)).wf = true := by
  unfold U64 at h
  have e1 : IntKind.u64.min = 0 := by decide
  have e2 : IntKind.u64.max = 18446744073709551615 := by decide
  simp [Lit.wf, e1, e2]
  omega
theorem keyT_u64 : KeyT Try.prog 23 u64V U64 := ⟨Maps.int_keyed Try.underlying23, u64V_inj, fun a h => by
  refine ⟨.int .u64 (a : Int), ?_⟩
  unfold keyOf
  rw [Try.underlying23]
  show mapKey _ _ _ = _
  unfold mapKey
  rw [Try.underlying23]
  show (if _ then _ else _) = _
  rw [if_pos ⟨rfl, wf_u64 h⟩]⟩
/-- All that a search keeps. -/
structure Srch (w0 : World) (B0 B bG bM bQ b : Nat) (Z : Nat → Prop) (A : Option Addr) (n c B1 : Nat) (g : List Ar) (s : (Nat → Nat) × List Nat) (W : World) : Prop where
  di : DiS B bM bQ b Z s.1 s.2 W
  bg : At W bG 42 #[.slice A n c]
  gr : W.ownsRow B1 40 2 (.slice A n c) n (arL g)
  low : Below B0 w0 W
theorem Srch.grown {w0 W W' : World} {B0 B bG bM bQ b : Nat} {Z : Nat → Prop} {A : Option Addr} {n c B1 : Nat} {g : List Ar} {s : (Nat → Nat) × List Nat} {row : Option Nat} (h : Srch w0 B0 B bG bM bQ b Z A n c B1 g s W) (hg : W.grownBy W' row)
    (hr : ∀ r, row = some r → B0 ≤ r ∧ r ≠ b ∧ ∃ o : Obj, W.heap[r]? = some o ∧ o.isCells = false) (hB0 : B0 ≤ W.heap.size) : Srch w0 B0 B bG bM bQ b Z A n c B1 g s W' := by
  have hnc : ∀ {k t cs}, At W k t cs → some k ≠ row := fun {k t cs} ha e => by
    obtain ⟨_, _, o, ho, hc⟩ := hr k e.symm
    rw [show W.heap[k]? = _ from ha] at ho
    cases ho
    cases hc
  have hro : ∀ {B e sz v m xs}, W.ownsRow B e sz v m xs → W'.ownsRow B e sz v m xs := fun {B e sz v m xs} ho => by
    refine ho.kept hg ?_
    cases hv : v.ownBlock with
    | none => exact .inl rfl
    | some k =>
      refine .inr fun e1 => ?_
      obtain ⟨_, cur, hc⟩ := own_cells ho hv
      obtain ⟨_, _, o, h2, h3⟩ := hr k e1.symm
      rw [hc] at h2
      cases h2
      cases h3
  obtain ⟨A', nq, cq, h1, h2, h3, h4⟩ := h.di.ex
  refine ⟨⟨h.di.bm.grown hg (hnc h.di.bm), h.di.mp.kept hg (fun e => (hr b e.symm).2.1 rfl), A', nq, cq, h1.grown hg (hnc h1), h2, hro h3, h4⟩, h.bg.grown hg (hnc h.bg), hro h.gr, ?_⟩
  exact h.low.grown hg hB0 fun r e => (hr r e).1

end Go.Proofs.Ytnkphpjnhjbokaa
