/-
  A page, a [][64]uint8 and a []bool that came in read as lists.
  Conditions: none.
-/
import Derived.Test.YtlanaplnhjdgcaaF
import Derived.Test.YtlanaplnhjdgcaaP
import Derived.Deep.Slices
import Derived.Lib.SmallJoins
import Derived.OpenShut
import Derived.WideShapes
namespace Go.Proofs.Ytlanaplnhjdgcaa
open Go.RowKit Go.Deep Go.Joins Go.ChangeShapes Go.WideShapes

theorem cells4 : Try.prog.cellsOf 4 = 1 := by kernel_rfl
theorem cells22 : Try.prog.cellsOf 22 = 224 := by kernel_rfl
theorem cells45 : Try.prog.cellsOf 45 = 64 := by kernel_rfl

section
variable {H : Type} {enc : TypeId × Value → H} {W : World} {spare : Nat → Bool} {held : Bool}
theorem arr_of {n fuel : Nat} {t : TypeId} {cs : List Value} {x : DataW H × List MemPlace} (ht : Try.prog.underlying t = some (.array n 5)) (hc : Try.prog.cellsOf t = n) (h : DataW.trod enc Try.prog W 0 spare held fuel t cs = some x) :
    ∃ L : List Int, L.length = n ∧ cs = CL L ∧ Okb L := by
  obtain ⟨xs, m, _, _, hlen, hxl, hi⟩ := DataW.trod_array ht h
  rw [hc] at hlen
  rw [cells5] at hi
  have each : ∀ i, i < n → ∃ z : Int, cs[i]? = some (.int .u8 z) ∧ 0 ≤ z ∧ z < 256 := fun i hlt => by
    have hx : i < xs.length := by omega
    have h1 := hi i hlt
    rw [List.getElem?_eq_getElem hx, Nat.mul_one] at h1
    obtain ⟨z, e, _, wf⟩ := DataW.trod_int Try.underlying5 h1
    have hcs : i < cs.length := by omega
    rw [List.drop_eq_getElem_cons hcs, List.take_succ_cons, List.take_zero] at e
    injection e with e _
    exact ⟨z, by rw [List.getElem?_eq_getElem hcs, e], wf_u8 wf⟩
  obtain ⟨Z, hZ⟩ := choose_lt each
  refine ⟨(List.range n).map Z, by simp, ?_, ?_⟩
  · apply List.ext_getElem?
    intro i
    by_cases hlt : i < n
    · rw [(hZ i hlt).1, CL_get _ i (by simp; exact hlt)]
      simp
    · rw [List.getElem?_eq_none (by omega), List.getElem?_eq_none (by rw [CL_length]; simp; omega)]
  · intro x hx
    obtain ⟨i, hi', rfl⟩ := List.mem_map.1 hx
    exact (hZ i (List.mem_range.1 hi')).2
theorem page_of {v : Value} {d : DataW H} {p : List MemPlace} {base : Nat} (hv : Value.okWide Try.prog W .any base 22 v) (h : DataW.Trod enc Try.prog W 0 spare held 22 v d p) : ∃ q : Pg, v = .agg (pgA q) ∧ Okb q.toList := by
  obtain ⟨cs, rfl, hsz, _⟩ : ∃ cs, v = .agg cs ∧ cs.size = Try.prog.cellsOf 22 ∧ Row.okWide Try.prog W .any base 22 cs := by
    simpa [Value.okWide, Try.underlying22] using hv
  obtain ⟨fuel, hf⟩ := h
  obtain ⟨L, hl, hcs, hok⟩ := arr_of Try.underlying22 cells22 hf
  have e : (Vector.ofFn (n := 224) fun j => L.getD j 0).toList = L := ofFn_list 224 L hl
  refine ⟨Vector.ofFn fun j => L.getD j 0, ?_, by rw [e]; exact hok⟩
  have hcs' : cs.toList = CL L := hcs
  rw [pgA, pg, e, ← hcs']
theorem plain_addr {a : Addr} {v : Value} (h : W.cell? (a.add 0) = some v) : ∃ b off, a = ⟨b, off, none⟩ := by
  obtain ⟨b, off, spot⟩ := a
  have hs : spot = none := by simpa [Addr.add] using World.cell?_spot h
  subst hs
  exact ⟨b, off, rfl⟩
theorem flat_get : ∀ (l : List Sect) (j : Nat) (v : Value), (flat l)[j]? = some v → ∃ (hk : j / 64 < l.length), (sec l[j / 64])[j % 64]? = some v
  | [], j, v, h => by simp [flat] at h
  | s :: r, j, v, h => by
    rw [flat] at h
    by_cases hj : j < 64
    · rw [List.getElem?_append_left (by rw [sec_length]; exact hj)] at h
      refine ⟨by rw [Nat.div_eq_of_lt hj]; simp, ?_⟩
      simp only [Nat.div_eq_of_lt hj, Nat.mod_eq_of_lt hj, List.getElem_cons_zero]
      exact h
    · rw [List.getElem?_append_right (by rw [sec_length]; omega), sec_length] at h
      obtain ⟨hk, h2⟩ := flat_get r (j - 64) v h
      have e1 : j / 64 = (j - 64) / 64 + 1 := by omega
      have e2 : j % 64 = (j - 64) % 64 := by omega
      refine ⟨by rw [e1]; simpa using hk, ?_⟩
      simp only [e1, e2, List.getElem_cons_succ]
      exact h2
theorem secs_of {A : Option Addr} {len cap : Nat} {d : DataW H} {p : List MemPlace} (h : DataW.Trod enc Try.prog W 0 spare held 24 (.slice A len cap) d p) :
    ∃ l : List Sect, l.length = len ∧ Lz (fun _ => False) W 64 A l.length (flat l) ∧ Oks l := by
  obtain ⟨fuel, hf⟩ := h
  rcases open_slice Try.underlying24 hf with ⟨hcs, _⟩ | ⟨a, len', cap', m, n, D, Pl, hcs, _, hl, hm, hmm, _, hi⟩
  · simp [Value.cells] at hcs
    obtain ⟨rfl, rfl, rfl⟩ := hcs
    exact ⟨[], rfl, Lz.empty, fun s hs => by simp at hs⟩
  · simp [Value.cells] at hcs
    obtain ⟨rfl, rfl, rfl⟩ := hcs
    have hlm : len ≤ m := by rw [hmm]; split <;> omega
    by_cases hl0 : len = 0
    · subst hl0
      exact ⟨[], rfl, Lz.empty, fun s hs => by simp at hs⟩
    rw [cells45] at hi
    have each : ∀ i, i < len → ∃ s : Sect, Okb s.toList ∧ ∀ j, j < 64 → W.cell? ((a.add (i * 64)).add j) = (sec s)[j]? := fun i hlt => by
      obtain ⟨cs', h1, h2⟩ := hi i (by omega)
      obtain ⟨_, hlen, hcell⟩ := World.cells?_some h1
      obtain ⟨L, hll, hcs, hok⟩ := arr_of Try.underlying45 cells45 h2
      have e : (Vector.ofFn (n := 64) fun j => L.getD j 0).toList = L := ofFn_list 64 L hll
      refine ⟨Vector.ofFn fun j => L.getD j 0, by rw [e]; exact hok, fun j hj => ?_⟩
      have := hcell j (by omega)
      rw [sec, e, ← hcs]
      rw [this]
    obtain ⟨F, hF⟩ := choose_lt (α := Sect) each
    have hlen : ((List.range len).map F).length = len := by simp
    obtain ⟨b, off, rfl⟩ : ∃ b off, a = ⟨b, off, none⟩ := by
      have := (hF 0 (by omega)).2 0 (by omega)
      rw [Nat.zero_mul, Go.Deep.add_add, sec_get _ 0 (by omega)] at this
      exact plain_addr this
    refine ⟨(List.range len).map F, hlen, ⟨by rw [flat_length], fun _ => ⟨b, off, rfl, fun h => h, ?_, fun j v hv => ?_⟩⟩, fun s hs => ?_⟩
    · have := (hF 0 (by omega)).2 0 (by omega)
      rw [sec_get _ 0 (by omega)] at this
      have := World.block_lt_of_cell? W _ this
      rwa [add_block, add_block] at this
    · obtain ⟨hk, hv2⟩ := flat_get _ j v hv
      have hk' : j / 64 < len := by rwa [hlen] at hk
      have h3 := (hF (j / 64) hk').2 (j % 64) (Nat.mod_lt _ (by omega))
      rw [add_plain, add_plain, Nat.add_assoc, show j / 64 * 64 + j % 64 = j by omega] at h3
      rw [h3, ← hv2]
      simp
    · obtain ⟨i, hi', rfl⟩ := List.mem_map.1 hs
      exact (hF i (List.mem_range.1 hi')).1
theorem bools_of {n : Nat} {v : Value} {y : DataW H × List MemPlace} (h : DataW.trod enc Try.prog W 0 spare held n 31 [v] = some y) :
    ∃ E el e2, v = .slice E el.length e2 ∧ Lz (fun _ => False) W 1 E el.length (BL el) ∧ el.length ≤ e2 ∧ e2 ≤ maxLen := by
  rcases open_slice1 Try.underlying31 cells4 h with ⟨hcs, _⟩ | ⟨a, len, cap, m, k, V, D, Pl, hcs, _, hl, hm, hmm, _, hi⟩
  · injection hcs with hcs
    subst hcs
    exact ⟨none, [], 0, rfl, Lz.empty, Nat.le_refl _, by simp [maxLen]⟩
  · injection hcs with hcs
    subst hcs
    have hlm : len ≤ m := by rw [hmm]; split <;> omega
    have hz : ∀ i, i < m → ∃ z : Bool, V i = .bool z := fun i hlt => by
      obtain ⟨z, e, _⟩ := DataW.trod_bool Try.underlying4 (hi i hlt).2
      injection e with e
      exact ⟨z, e⟩
    obtain ⟨Z, hZ⟩ := choose_lt hz
    have hlen : ((List.range len).map Z).length = len := by simp
    refine ⟨some a, (List.range len).map Z, cap, by rw [hlen], ?_, by rw [hlen]; exact hl, hm⟩
    rw [hlen]
    have hx : ∀ i, i < m → W.cell? (a.add i) = some (V i) := fun i hlt => (hi i hlt).1
    have hxs : BL ((List.range len).map Z) = (List.range len).map V := by
      rw [BL, List.map_map]
      apply List.map_congr_left
      intro i hi'
      rw [hZ i (by have := List.mem_range.1 hi'; omega)]
      rfl
    refine ⟨by rw [hxs]; simp, fun hn => ?_⟩
    obtain ⟨b, off, rfl⟩ := plain_addr (hx 0 (by omega))
    have h0 := hx 0 (by omega)
    refine ⟨b, off, rfl, fun h => h, ?_, fun j v hv => ?_⟩
    · have := World.block_lt_of_cell? W _ h0
      rwa [add_block] at this
    · have hj : j < len := by
        have := (List.getElem?_eq_some_iff.1 hv).1
        rw [hxs] at this
        simpa using this
      rw [hxs, List.getElem?_map, List.getElem?_range hj] at hv
      injection hv with hv
      subst hv
      have := hx j (by omega)
      rwa [add_plain] at this
end
end Go.Proofs.Ytlanaplnhjdgcaa
