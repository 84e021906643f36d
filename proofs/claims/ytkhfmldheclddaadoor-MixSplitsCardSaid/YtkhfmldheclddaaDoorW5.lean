/-
  The walks of mix.divide and mix.Split: two new slices, the keys on each side in their order.
  Conditions: at most 1000 keys.
-/
import Derived.Test.YtkhfmldheclddaaDoorW4
import Derived.Test.YtkhfmldheclddaaDoorBase
import Derived.OwnWalk
namespace Go.Proofs.YtkhfmldheclddaaDoor
open Go.RowKit

/-- Keys as the cells of a []uint64. -/
def UC (l : List Nat) : List Value := l.map fun n : Nat => Value.int .u64 (n : Int)
theorem UC_length (l : List Nat) : (UC l).length = l.length := by simp [UC]
theorem UC_append (l m : List Nat) : UC (l ++ m) = UC l ++ UC m := by simp [UC]
theorem UC_get (l : List Nat) (k : Nat) (h : k < l.length) : (UC l)[k]? = some (.int .u64 (l[k] : Nat)) := by simp [UC, h]
theorem take_snoc (l : List Nat) (k : Nat) (h : k < l.length) : l.take (k + 1) = l.take k ++ [l[k]] := by
  rw [List.take_succ_eq_append_getElem h]

/-- The keys on a side, in their order. -/
def side (s : Bool) (at' : Int) (l : List Nat) : List Nat := l.filter fun k => bitB k at' == s
theorem side_same {s : Bool} {at' : Int} {l : List Nat} {x : Nat} (h : bitB x at' = s) : side s at' (l ++ [x]) = side s at' l ++ [x] := by simp [side, List.filter_append, h]
theorem side_other {s : Bool} {at' : Int} {l : List Nat} {x : Nat} (h : bitB x at' ≠ s) : side s at' (l ++ [x]) = side s at' l := by
  have : (bitB x at' == s) = false := by simpa using h
  simp [side, List.filter_append, this]
theorem side_le (s : Bool) (at' : Int) (l : List Nat) : (side s at' l).length ≤ l.length := List.length_filter_le _ _

theorem u64_info : (Tryd.prog.info? 22).map (fun i => (i.zero, i.size, i.bytes)) = some (some (.int .u64 0), 1, 8) := by kernel_rfl

/-- Two rows of the call's own, in blocks apart. -/
def Apart (u v : Value) : Prop := v.ownBlock = none ∨ v.ownBlock ≠ u.ownBlock
structure Two (w0 : World) (B : Nat) (u v : Value) (xs ys : List Nat) (w : World) : Prop where
  a : ∃ n, w.ownsRow B 22 1 u n (UC xs)
  b : ∃ n, w.ownsRow B 22 1 v n (UC ys)
  uv : Apart u v
  vu : Apart v u
  old : Below B w0 w
  low : B ≤ w.heap.size
theorem Two.swap {w0 w : World} {B : Nat} {u v : Value} {xs ys : List Nat} (h : Two w0 B u v xs ys w) : Two w0 B v u ys xs w := ⟨h.b, h.a, h.vu, h.uv, h.old, h.low⟩

section
variable {P : Program}
/-- append(u, x) of one element more, beside another row. -/
theorem Two.app {w0 w : World} {B : Nat} {u v : Value} {xs ys : List Nat} (h : Two w0 B u v xs ys w) (x : Nat) (t ty : TypeId) (i : TypeInfo) (ht : P.underlying t = some (.slice 22)) (hi : P.info? 22 = some i) (hz : i.zero = some (.int .u64 0))
    (hsize : i.size = 1) (hby : i.bytes = 8) (hl : xs.length ≤ 1000) (c : Nat) :
    ∃ u' w', (Builtin.append_ #[t, t] ty #[u, .slice (some ⟨w.heap.size, 0, none⟩) 1 c]).run P (w.alloc (.cells #[.int .u64 x] 22)) = .ok u' w' ∧ Two w0 B u' v (xs ++ [x]) ys w' := by
  obtain ⟨n, ha⟩ := h.a
  obtain ⟨m, hb⟩ := h.b
  have hn : n = xs.length := by have := ha.1; rw [UC_length] at this; omega
  obtain ⟨u', w', h1, h2, h3, _, h5⟩ := run_append_own_at (P := P) (w.alloc (.cells #[.int .u64 x] 22)) B t ty 22 i _ 1 8 ht hi hz hsize hby rfl (by omega) u n (UC xs) (ha.alloc _) ⟨w.heap.size, 0, none⟩ 1 c [.int .u64 x] rfl (cell_one_new w _ _) (by intro y hy; rw [List.mem_singleton.1 hy]; rfl) (by simp only [maxLen]; omega) (by omega) (by have := h.low; simp; omega)
  have hu := (ha.alloc (.cells #[.int .u64 x] 22)).lt
  have hv := hb.lt
  refine ⟨u', w', h1, ⟨n + 1, by rw [UC_append]; exact h2⟩, ⟨m, (hb.alloc _).kept h3 h.uv⟩, ?_, ?_, ?_, ?_⟩
  · rcases h5 with h5 | h5
    · unfold Apart; rw [h5]; exact h.uv
    · by_cases e : v.ownBlock = none
      · exact .inl e
      · refine .inr fun e2 => ?_
        rw [h5] at e2
        have := (hv _ e2).2
        simp at this
        omega
  · rcases h5 with h5 | h5
    · unfold Apart; rw [h5]; exact h.vu
    · refine .inr fun e2 => ?_
      rw [h5] at e2
      have := (hv _ e2.symm).2
      simp at this
      omega
  · exact Below.grown (h.old.alloc h.low _) h3 (by have := h.low; simp; omega) fun k hk => (ha.lt k hk).1
  · have := h3.size
    have := h.low
    simp at *
    omega
end
end Go.Proofs.YtkhfmldheclddaaDoor
