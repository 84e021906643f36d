/-
  Points that came in.
  Conditions: none.
-/
import Derived.Test.YtgjkbnplpioloaaOB
namespace Go.Proofs.Ytgjkbnplpioloaa
open Go.RowKit Go.Deep Go.Joins Go.ChangeShapes Go.WideShapes
set_option maxRecDepth 20000

theorem ceU : Try.prog.cellsOf 48 = 1 := by kernel_rfl
theorem ceU4 : Try.prog.cellsOf 47 = 1 := by kernel_rfl
theorem ceR : Try.prog.cellsOf 50 = 4 := by kernel_rfl
theorem wfIn {k : IntKind} {n : Int} (h : (Lit.int k n).wf = true) : k.min ≤ n ∧ n ≤ k.max := by
  unfold Lit.wf at h
  simpa using h
theorem wfU8 {n : Int} (h : (Lit.int .u8 n).wf = true) : ∃ k : Nat, n = k ∧ k < 256 := by
  have h2 := wfIn h
  rw [show IntKind.u8.min = 0 by decide, show IntKind.u8.max = 255 by decide] at h2
  exact ⟨n.toNat, by omega, by omega⟩
theorem wfU64 {n : Int} (h : (Lit.int .u64 n).wf = true) : ∃ k : Nat, n = k ∧ k < 18446744073709551616 := by
  have h2 := wfIn h
  rw [show IntKind.u64.min = 0 by decide, show IntKind.u64.max = 18446744073709551615 by decide] at h2
  exact ⟨n.toNat, by omega, by omega⟩
theorem wfU32 {n : Int} (h : (Lit.int .u32 n).wf = true) : ∃ k : Nat, n = k ∧ k < 4294967296 := by
  have h2 := wfIn h
  rw [show IntKind.u32.min = 0 by decide, show IntKind.u32.max = 4294967295 by decide] at h2
  exact ⟨n.toNat, by omega, by omega⟩
theorem four_of {α : Type} {l : List α} (h : l.length = 4) : ∃ a b c d, l = [a, b, c, d] := by
  match l, h with
  | [a, b, c, d], _ => exact ⟨a, b, c, d, rfl⟩
theorem rcsL_at : ∀ (l : List Rc) (j : Nat) (v : Value), (rcsL l)[j]? = some v → ∃ (hk : j / 4 < l.length), (rcL l[j / 4])[j % 4]? = some v
  | [], j, v, h => by simp [rcsL] at h
  | s :: r, j, v, h => by
    have h : (rcL s ++ rcsL r)[j]? = some v := by simpa [rcsL] using h
    by_cases hj : j < 4
    · rw [List.getElem?_append_left (by rw [rcL_length]; exact hj)] at h
      refine ⟨by rw [Nat.div_eq_of_lt hj]; simp, ?_⟩
      simp only [Nat.div_eq_of_lt hj, Nat.mod_eq_of_lt hj, List.getElem_cons_zero]
      exact h
    · rw [List.getElem?_append_right (by rw [rcL_length]; omega), rcL_length] at h
      obtain ⟨hk, h2⟩ := rcsL_at r (j - 4) v h
      have e1 : j / 4 = (j - 4) / 4 + 1 := by omega
      have e2 : j % 4 = (j - 4) % 4 := by omega
      refine ⟨by rw [e1]; simpa using hk, ?_⟩
      simp only [e1, e2, List.getElem_cons_succ]
      exact h2
theorem pick_lt {n : Nat} {α : Type} (d : α) {p : Nat → α → Prop} (h : ∀ i, i < n → ∃ a, p i a) : ∃ F : Nat → α, ∀ i, i < n → p i (F i) :=
  ⟨fun i => if hi : i < n then (h i hi).choose else d, fun i hi => by simp only [hi, dif_pos]; exact (h i hi).choose_spec⟩
section
variable {H : Type} {enc : TypeId × Value → H} {W : World} {spare : Nat → Bool} {held : Bool} {fuel : Nat} {cs : List Value} {x : DataW H × List MemPlace}
theorem inU (h : DataW.trod enc Try.prog W 0 spare held fuel 48 cs = some x) : ∃ n : Nat, cs = [.int .u64 (n : Int)] ∧ n < 18446744073709551616 := by
  obtain ⟨z, e, _, wf⟩ := DataW.trod_int Try.underlying48 h
  obtain ⟨k, rfl, hk⟩ := wfU64 wf
  exact ⟨k, e, hk⟩
theorem inU4 (h : DataW.trod enc Try.prog W 0 spare held fuel 47 cs = some x) : ∃ n : Nat, cs = [.int .u32 (n : Int)] ∧ n < 4294967296 := by
  obtain ⟨z, e, _, wf⟩ := DataW.trod_int Try.underlying47 h
  obtain ⟨k, rfl, hk⟩ := wfU32 wf
  exact ⟨k, e, hk⟩
theorem rc_of (h : DataW.trod enc Try.prog W 0 spare held fuel 50 cs = some x) : ∃ r : Rc, r.ok ∧ cs = rcL r := by
  obtain ⟨xs, n, _, _, hl, hxl, hf⟩ := DataW.trod_struct Try.underlying50 h
  rw [ceR] at hl
  obtain ⟨v0, v1, v2, v3, rfl⟩ := four_of hl
  obtain ⟨y0, y1, y2, y3, rfl⟩ := four_of hxl
  have g0 := hf 0 _ rfl
  have g1 := hf 1 _ rfl
  have g2 := hf 2 _ rfl
  have g3 := hf 3 _ rfl
  simp [ceU, ceU4] at g0 g1 g2 g3
  obtain ⟨a, e0, b0⟩ := inU4 g0
  obtain ⟨b, e1, b1⟩ := inU4 g1
  obtain ⟨id, e2, b2⟩ := inU g2
  obtain ⟨key, e3, b3⟩ := inU g3
  injection e0 with e0
  injection e1 with e1
  injection e2 with e2
  injection e3 with e3
  subst e0 e1 e2 e3
  exact ⟨⟨a, b, id, key⟩, ⟨b0, b1, b2, b3⟩, rfl⟩
end
theorem pts_of {H : Type} {enc : TypeId × Value → H} {W : World} {spare : Nat → Bool} {held : Bool} {A : Option Addr} {len cap : Nat} {d : DataW H} {p : List MemPlace}
    (h : DataW.Trod enc Try.prog W 0 spare held 40 (.slice A len cap) d p) : ∃ l : List Rc, Lz NoX W 4 A len (rcsL l) ∧ (∀ o ∈ l, o.ok) ∧ len ≤ maxLen := by
  obtain ⟨fuel, hf⟩ := h
  rcases open_slice Try.underlying40 hf with ⟨hcs, _⟩ | ⟨a, len', cap', m, n, D, Pl, hcs, _, hl, hm, hmm, _, hi⟩
  · simp [Value.cells] at hcs
    obtain ⟨rfl, rfl, rfl⟩ := hcs
    exact ⟨[], Lz.empty, fun o h => by simp at h, by simp [maxLen]⟩
  · simp [Value.cells] at hcs
    obtain ⟨rfl, rfl, rfl⟩ := hcs
    have hlm : len ≤ m := by rw [hmm]; split <;> omega
    by_cases hl0 : len = 0
    · subst hl0
      exact ⟨[], Lz.empty, fun o h => by simp at h, by simp [maxLen]⟩
    rw [ceR] at hi
    have each : ∀ i, i < len → ∃ s : Rc, s.ok ∧ ∀ j, j < 4 → W.cell? ((a.add (i * 4)).add j) = (rcL s)[j]? := fun i hlt => by
      obtain ⟨cs', h1, h2⟩ := hi i (by omega)
      obtain ⟨_, hlen, hcell⟩ := World.cells?_some h1
      obtain ⟨s, hs, rfl⟩ := rc_of h2
      exact ⟨s, hs, fun j hj => by rw [hcell j (by omega)]⟩
    obtain ⟨F, hF⟩ := pick_lt zrc each
    have hlen : ((List.range len).map F).length = len := by simp
    have g0 : ∀ s : Rc, (rcL s)[0]? = some (.int .u32 (s.x : Nat)) := fun s => rfl
    obtain ⟨b, off, rfl⟩ : ∃ b off, a = ⟨b, off, none⟩ := by
      have := (hF 0 (by omega)).2 0 (by omega)
      rw [Nat.zero_mul, Go.Deep.add_add, g0] at this
      exact spot_none this
    refine ⟨(List.range len).map F, ⟨by rw [rcsL_length, hlen], fun _ => ⟨b, off, rfl, fun h => h, ?_, fun j v hv => ?_⟩⟩, fun o ho => ?_, by omega⟩
    · have := (hF 0 (by omega)).2 0 (by omega)
      rw [g0] at this
      have := World.block_lt_of_cell? W _ this
      rwa [add_block, add_block] at this
    · obtain ⟨hk, hv2⟩ := rcsL_at _ j v hv
      have hk' : j / 4 < len := by rwa [hlen] at hk
      have h3 := (hF (j / 4) hk').2 (j % 4) (Nat.mod_lt _ (by omega))
      rw [add_plain, add_plain, Nat.add_assoc, show j / 4 * 4 + j % 4 = j by omega] at h3
      rw [h3, ← hv2]
      simp
    · obtain ⟨i, hi', rfl⟩ := List.mem_map.1 ho
      exact (hF i (by have := List.mem_range.1 hi'; omega)).1
end Go.Proofs.Ytgjkbnplpioloaa
