/-
  A law of no program: the literal of a slice with one element of several cells.
  Conditions: none beyond those that each theorem names.
-/
import Derived.Test.YtgjkbnplpioloaaBase
import Derived.Deep.WholeRow
namespace Go.Proofs.Ytgjkbnplpioloaa
open Go.RowKit

theorem put_all (z : Nat) : ∀ (l : List Value) (k : Nat) (Z : Array Value) (i : Nat), k + l.length ≤ Z.size →
    ((l.zipIdx k).foldl (fun cs (p : Value × Nat) => cs.setIfInBounds (0 * z + p.2) p.1) Z)[i]? = if k ≤ i ∧ i < k + l.length then l[i - k]? else Z[i]?
  | [], k, Z, i, _ => by simp; omega
  | v :: r, k, Z, i, h => by
    rw [List.zipIdx_cons, List.foldl_cons, put_all z r (k + 1) _ i (by simp at h ⊢; omega)]
    simp only [List.length_cons] at h ⊢
    by_cases h1 : k + 1 ≤ i ∧ i < k + 1 + r.length
    · rw [if_pos h1, if_pos (by omega), show i - k = (i - (k + 1)) + 1 from by omega, List.getElem?_cons_succ]
    · rw [if_neg h1, Array.getElem?_setIfInBounds]
      by_cases h2 : k = i
      · subst h2
        rw [if_pos (by omega), if_pos (by omega), if_pos (by omega)]
        simp
      · rw [if_neg (by omega), if_neg (by omega)]

theorem fill_one (size : Nat) (c Z : Array Value) (hc : c.size = size) (hZ : Z.size = size) : Instr.fill (fun i => some (i * size, size)) Z [(0, .agg c)] = some c := by
  have hcs : (Value.agg c).cells = c := rfl
  simp only [Instr.fill, hcs]
  rw [if_neg (by simp [hc, hZ])]
  congr 1
  apply Array.ext_getElem?
  intro i
  have := put_all size c.toList 0 Z i (by simp [hc, hZ])
  rw [← Array.foldl_toList, Array.toList_zipIdx]
  rw [this]
  simp only [Array.length_toList, hc, Nat.zero_add, Nat.sub_zero, Nat.zero_le, true_and]
  by_cases h : i < size
  · rw [if_pos h]; simp
  · rw [if_neg h, Array.getElem?_eq_none (by omega), Array.getElem?_eq_none (by omega)]

variable {P : Program}
theorem run_buildSlice_one (w : World) (t e : TypeId) (size : Nat) (z : Value) (c : Array Value) (ht : P.underlying t = some (.slice e)) (hi : (P.info? e).map (fun i => (i.zero, i.size)) = some (some z, size)) (h0 : 0 < size) (hs : size ≤ 100000) (hc : c.size = size) :
    (Instr.buildSlice t 1 #[(0, .agg c)]).run P w = .ok (.slice (some ⟨w.heap.size, 0, none⟩) 1 1) (w.alloc (.cells c e)) := by
  have hz := (zero_of_info (P := P) hi).1
  have hq : ∃ i, P.info? e = some i ∧ i.size = size := by
    cases hq : P.info? e with
    | none => simp [hq] at hi
    | some i => exact ⟨i, rfl, by simp [hq] at hi; exact hi.2⟩
  obtain ⟨i, hq, hsz⟩ := hq
  have hn : ¬ (1 * size > 2 ^ 24) := by omega
  have hn0 : ¬ (1 * size = 0) := by omega
  have hf := fill_one size c ((Array.range (1 * size)).map (z.cells[· % z.cells.size]!)) hc (by simp)
  simp only [Instr.buildSlice, Sem.run_bind, run_underlying ht, Result.andThen_ok, sizeOf, typeInfo, run_program, hq, hsz, Sem.run_pure, hn, if_false, hn0, hz, hf]
  rfl

theorem wpList_lit1 {ops : Array Oper} {rest : List Oper} {o : Oper} {a : Act} {w : World} {Q : Exit → Act → World → Prop} (hgd : o.guard = none) (x : Operand) (t e : TypeId) (size : Nat) (z : Value) (c : Array Value)
    (ho : o.op = .buildSlice t 1 #[(0, x)]) (hx : a.eval x = .agg c) (ht : P.underlying t = some (.slice e)) (hi : (P.info? e).map (fun i => (i.zero, i.size)) = some (some z, size)) (h0 : 0 < size) (hs : size ≤ 100000) (hc : c.size = size)
    (h : wpList P ops Q rest (a.put o.dst (.slice (some ⟨w.heap.size, 0, none⟩) 1 1)) (w.alloc (.cells c e))) : wpList P ops Q (o :: rest) a w := by
  refine wpList_plain hgd fun K hK => ?_
  have hrun := run_buildSlice_one (P := P) w t e size z c ht hi h0 hs hc
  unfold Oper.wp
  simp [execOp, ho, hx, hrun, Result.andThen]
  exact hK _ _ h
end Go.Proofs.Ytgjkbnplpioloaa
