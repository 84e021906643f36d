/-
  A slice of acts that came in.
  Conditions: none beyond those that each theorem names.
-/
import Derived.Test.YthicidpdgggbjaaDoorK31Q
namespace Go.Proofs.YthicidpdgggbjaaDoor
open Go.RowKit Go.Deep Go.Joins Go.ChangeShapes Go.WideShapes
set_option maxRecDepth 20000

theorem ceOp : Tryd.prog.cellsOf 46 = 16 := by kernel_rfl
theorem ceKK : Tryd.prog.cellsOf 43 = 1 := by kernel_rfl
theorem ceKKK : Tryd.prog.cellsOf 44 = 1 := by kernel_rfl
theorem list4 {α : Type} {l : List α} (h : l.length = 4) : ∃ a b c d, l = [a, b, c, d] := by
  match l, h with
  | [a, b, c, d], _ => exact ⟨a, b, c, d, rfl⟩
theorem Lies.lz {W : World} {m n : Nat} {A : Option Addr} {xs : List Value} (h : Lies W W.heap.size m A n xs) (hp : ∀ a, A = some a → 0 < n → ∃ b o, a = ⟨b, o, none⟩) : Lz (fun k => W.heap.size ≤ k) W m A n xs := by
  refine ⟨h.len, fun hn => ?_⟩
  obtain ⟨a, ha, hb, hr⟩ := h.spot hn
  obtain ⟨b, o, rfl⟩ := hp a ha hn
  exact ⟨b, o, ha, Nat.not_le.2 hb, hb, fun j v hv => by have := hr j v hv; rwa [add_plain] at this⟩
theorem lies_plain {W : World} {n : Nat} {A : Option Addr} {xs : List Value} (h : Lies W W.heap.size 1 A n xs) : ∀ a, A = some a → 0 < n → ∃ b o, a = ⟨b, o, none⟩ := fun a ha hn => by
  obtain ⟨a', ha', _, hr⟩ := h.spot hn
  rw [ha] at ha'
  injection ha' with ha'
  subst ha'
  have hl : 0 < xs.length := by have := h.len; omega
  exact plainAt (hr 0 _ (List.getElem?_eq_getElem hl))
instance : Inhabited Mo := ⟨⟨none, 0, []⟩⟩
instance : Inhabited Ao := ⟨⟨0, default, none, 0, [], none, 0, []⟩⟩
section
variable {H : Type} {enc : TypeId × Value → H} {W : World} {spare : Nat → Bool} {held : Bool} {fuel : Nat} {cs : List Value} {x : DataW H × List MemPlace}
theorem bools_of {v : Value} (h : DataW.trod enc Tryd.prog W 0 spare held fuel 43 [v] = some x) :
    ∃ m : Mo, v = .slice m.A m.l.length m.c ∧ Lz (fun k => W.heap.size ≤ k) W 1 m.A m.l.length (BL m.l) ∧ m.l.length ≤ m.c ∧ m.c ≤ maxLen := by
  obtain ⟨A, cap, l, h1, h2, _, h3, h4⟩ := row_of (f := fun b : Bool => Value.bool b) (q := fun _ => True) Tryd.underlying43 ce4 (fun _ v _ hy => by
    obtain ⟨b, e, _⟩ := DataW.trod_bool Tryd.underlying4 hy
    injection e with e
    exact ⟨b, e, trivial⟩) h
  have h5 : Lies W W.heap.size 1 A l.length (BL l) := h2
  exact ⟨⟨A, cap, l⟩, h1, h5.lz (lies_plain h5), h3, h4⟩
theorem mores_of {v : Value} (h : DataW.trod enc Tryd.prog W 0 spare held fuel 44 [v] = some x) :
    ∃ A cap, ∃ l : List Mo, v = .slice A l.length cap ∧ Lz (fun k => W.heap.size ≤ k) W 1 A l.length (moL l) ∧ (∀ m ∈ l, Lz (fun k => W.heap.size ≤ k) W 1 m.A m.l.length (BL m.l) ∧ m.l.length ≤ m.c ∧ m.c ≤ maxLen) ∧ l.length ≤ cap ∧ cap ≤ maxLen := by
  obtain ⟨A, cap, l, h1, h2, h2b, h3, h4⟩ := row_of (f := fun m : Mo => Value.slice m.A m.l.length m.c) (q := fun m => Lz (fun k => W.heap.size ≤ k) W 1 m.A m.l.length (BL m.l) ∧ m.l.length ≤ m.c ∧ m.c ≤ maxLen) Tryd.underlying44 ceKK (fun _ v _ hy => by
    obtain ⟨m, e1, e2, e3, e4⟩ := bools_of hy
    exact ⟨m, e1, e2, e3, e4⟩) h
  have h5 : Lies W W.heap.size 1 A l.length (moL l) := h2
  exact ⟨A, cap, l, h1, h5.lz (lies_plain h5), h2b, h3, h4⟩
theorem op_of (h : DataW.trod enc Tryd.prog W 0 spare held fuel 46 cs = some x) : ∃ o : Ao, AoIn o ∧ AoZ (fun k => W.heap.size ≤ k) W o ∧ cs = aoL o := by
  obtain ⟨xs, n, _, _, hl, hxl, hf⟩ := DataW.trod_struct Tryd.underlying46 h
  rw [ceOp] at hl
  obtain ⟨y0, y1, y2, y3, rfl⟩ := list4 hxl
  have g0 := hf 0 _ rfl
  have g1 := hf 1 _ rfl
  have g2 := hf 2 _ rfl
  have g3 := hf 3 _ rfl
  simp [ce3, ce29, ceKK, ceKKK] at g0 g1 g2 g3
  obtain ⟨v0, t, rfl⟩ : ∃ v0 t, cs = v0 :: t := by
    match cs, hl with
    | v :: t, _ => exact ⟨v, t, rfl⟩
  obtain ⟨k, e0⟩ := inI g0
  obtain ⟨r, hr1, hr2, e1⟩ := er_of g1
  have hlt : t.length = 15 := by simpa using hl
  simp only [List.drop_succ_cons] at g1 g2 g3 e1
  obtain ⟨v14, v15, hd⟩ : ∃ v14 v15, t.drop 13 = [v14, v15] := by
    have : (t.drop 13).length = 2 := by rw [List.length_drop]; omega
    match t.drop 13, this with
    | [a, b], _ => exact ⟨a, b, rfl⟩
  have h14 : t.drop 14 = [v15] := by
    have : t.drop 14 = (t.drop 13).drop 1 := by rw [List.drop_drop]
    rw [this, hd]; rfl
  rw [hd] at g2
  rw [h14] at g3
  obtain ⟨m, m1, m2, m3, m4⟩ := bools_of g2
  obtain ⟨A, cap, l, l1, l2, l3, l4, l5⟩ := mores_of g3
  refine ⟨⟨k, r, m.A, m.c, m.l, A, cap, l⟩, ⟨hr1.ok, hr1.val, hr1.np, hr1.na, ⟨m3, m4⟩, ⟨l4, l5⟩, fun q hq => ⟨(l3 q hq).2.1, (l3 q hq).2.2⟩⟩, ⟨hr2, m2, l2, fun q hq => (l3 q hq).1⟩, ?_⟩
  have ht : t = t.take 13 ++ t.drop 13 := by rw [List.take_append_drop]
  injection e0 with e0
  rw [ht, hd, m1, l1, e0]
  show _ = (.int .i64 k :: (erL r ++ [.slice m.A m.l.length m.c, .slice A l.length cap]) : List Value)
  rw [← e1]
  rfl
theorem flatO_get : ∀ (l : List Ao) (j : Nat) (v : Value), (flatO l)[j]? = some v → ∃ (hk : j / 16 < l.length), (aoL l[j / 16])[j % 16]? = some v
  | [], j, v, h => by simp [flatO] at h
  | s :: r, j, v, h => by
    rw [flatO] at h
    by_cases hj : j < 16
    · rw [List.getElem?_append_left (by rw [aoL_length]; exact hj)] at h
      refine ⟨by rw [Nat.div_eq_of_lt hj]; simp, ?_⟩
      simp only [Nat.div_eq_of_lt hj, Nat.mod_eq_of_lt hj, List.getElem_cons_zero]
      exact h
    · rw [List.getElem?_append_right (by rw [aoL_length]; omega), aoL_length] at h
      obtain ⟨hk, h2⟩ := flatO_get r (j - 16) v h
      have e1 : j / 16 = (j - 16) / 16 + 1 := by omega
      have e2 : j % 16 = (j - 16) % 16 := by omega
      refine ⟨by rw [e1]; simpa using hk, ?_⟩
      simp only [e1, e2, List.getElem_cons_succ]
      exact h2
theorem ops_of {v : Value} (h : DataW.trod enc Tryd.prog W 0 spare held fuel 22 [v] = some x) :
    ∃ A cap, ∃ l : List Ao, v = .slice A l.length cap ∧ AOz (fun k => W.heap.size ≤ k) W A l.length l ∧ (∀ o ∈ l, AoIn o) ∧ l.length ≤ cap ∧ cap ≤ maxLen := by
  rcases open_slice Tryd.underlying22 h with ⟨hcs, _⟩ | ⟨a, len, cap, m, n, D, Pl, hcs, _, hl, hm, hmm, _, hi⟩
  · injection hcs with hcs
    subst hcs
    exact ⟨none, 0, [], rfl, ⟨Lz.empty, fun o h => by simp at h⟩, fun o h => by simp at h, Nat.le_refl _, by simp [maxLen]⟩
  · injection hcs with hcs
    subst hcs
    have hlm : len ≤ m := by rw [hmm]; split <;> omega
    by_cases hl0 : len = 0
    · subst hl0
      exact ⟨some a, cap, [], rfl, ⟨Lz.empty, fun o h => by simp at h⟩, fun o h => by simp at h, by simp, hm⟩
    rw [ceOp] at hi
    have each : ∀ i, i < len → ∃ s : Ao, (∀ j, j < 16 → W.cell? ((a.add (i * 16)).add j) = (aoL s)[j]?) ∧ AoIn s ∧ AoZ (fun k => W.heap.size ≤ k) W s := fun i hlt => by
      obtain ⟨cs', h1, h2⟩ := hi i (by omega)
      obtain ⟨_, hlen, hcell⟩ := World.cells?_some h1
      obtain ⟨s, hs1, hs2, rfl⟩ := op_of h2
      refine ⟨s, fun j hj => ?_, hs1, hs2⟩
      rw [hcell j (by omega)]
    obtain ⟨F, hF⟩ := choose_lt (α := Ao) each
    have hlen : ((List.range len).map F).length = len := by simp
    have g0 : ∀ s : Ao, (aoL s)[0]? = some (.int .i64 s.k) := fun s => rfl
    obtain ⟨b, off, rfl⟩ : ∃ b off, a = ⟨b, off, none⟩ := by
      have := (hF 0 (by omega)).1 0 (by omega)
      rw [Nat.zero_mul, Go.Deep.add_add, g0] at this
      exact plainAt this
    have hb : b < W.heap.size := by
      have := (hF 0 (by omega)).1 0 (by omega)
      rw [g0] at this
      have := World.block_lt_of_cell? W _ this
      rwa [add_block, add_block] at this
    refine ⟨some ⟨b, off, none⟩, cap, (List.range len).map F, by rw [hlen], ⟨⟨by rw [flatO_length], fun _ => ⟨b, off, rfl, Nat.not_le.2 hb, hb, fun j v hv => ?_⟩⟩, fun r hr => ?_⟩, fun r hr => ?_, by rw [hlen]; exact hl, hm⟩
    · obtain ⟨hk, hv2⟩ := flatO_get _ j v hv
      have hk' : j / 16 < len := by rwa [hlen] at hk
      have h3 := (hF (j / 16) hk').1 (j % 16) (Nat.mod_lt _ (by omega))
      rw [add_plain, add_plain, Nat.add_assoc, show j / 16 * 16 + j % 16 = j by omega] at h3
      rw [h3, ← hv2]
      simp
    · obtain ⟨i, hi', rfl⟩ := List.mem_map.1 hr
      exact (hF i (List.mem_range.1 hi')).2.2
    · obtain ⟨i, hi', rfl⟩ := List.mem_map.1 hr
      exact (hF i (List.mem_range.1 hi')).2.1
end
section
variable {H : Type} {enc : TypeId × Value → H} {W : World} {spare : Nat → Bool} {held : Bool} {v : Value} {d : DataW H} {p : List MemPlace} {base : Nat}
theorem ops_in (hv : Value.okWide Tryd.prog W .any base 22 v) (h : DataW.Trod enc Tryd.prog W 0 spare held 22 v d p) :
    ∃ A cap, ∃ l : List Ao, v = .slice A l.length cap ∧ AOz (fun k => W.heap.size ≤ k) W A l.length l ∧ (∀ o ∈ l, AoIn o) ∧ l.length ≤ cap ∧ cap ≤ maxLen := by
  obtain ⟨A, n, c, rfl⟩ := okWide_slice Tryd.underlying22 hv
  obtain ⟨fuel, hf⟩ := h
  have hf' : DataW.trod enc Tryd.prog W 0 spare held fuel 22 [.slice A n c] = some (d, p) := hf
  exact ops_of hf'
end
end Go.Proofs.YthicidpdgggbjaaDoor
