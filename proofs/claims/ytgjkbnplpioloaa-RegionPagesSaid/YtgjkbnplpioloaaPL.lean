/-
  A region that keeps its order, walked one operation at a time.
  Conditions: none.
-/
import Derived.Test.YtgjkbnplpioloaaX1
namespace Go.Proofs.Ytgjkbnplpioloaa
open Go.RowKit
set_option maxRecDepth 20000

section
variable {P : Program} {ops : Array Oper} {Q : Exit → Act → World → Prop}
theorem tkL {d : Nat} {o : Oper} {rest : List Oper} {v : Value} {ts ts' : Array Value} {ds : List Deferred} {w : World}
    (h : wpList P ops Q rest ⟨ts', ds⟩ w) (hd : o.dst = some d := by exact rfl) (hw : Region.wanted o (yielded ops ts) = true := by rfl)
    (hy : (execOp (Act.eval ⟨ts, ds⟩) o).run P w = .ok (.value v) w := by go_simp <;> with_reducible rfl)
    (ht : ts.setIfInBounds d v = ts' := by simp only [List.setIfInBounds_toArray, List.set_cons_zero, List.set_cons_succ] <;> rfl) : wpList P ops Q (o :: rest) ⟨ts, ds⟩ w := by
  subst ht
  rw [wpList, if_pos hw]
  left
  unfold Oper.wp
  rw [hy]
  simp only [Oper.upon]
  rw [hd]
  exact h
theorem skL {d : Nat} {o : Oper} {rest : List Oper} {ts ts' : Array Value} {ds : List Deferred} {w : World}
    (h : wpList P ops Q rest ⟨ts', ds⟩ w) (hd : o.dst = some d := by exact rfl) (hw : Region.wanted o (yielded ops ts) = false := by kernel_rfl)
    (ht : ts.setIfInBounds d undef = ts' := by simp only [List.setIfInBounds_toArray, List.set_cons_zero, List.set_cons_succ] <;> rfl) : wpList P ops Q (o :: rest) ⟨ts, ds⟩ w := by
  subst ht
  rw [wpList, if_neg (by rw [hw]; simp)]
  rw [hd]
  exact h
theorem endL {a : Act} {w : World} (h : Q .normal a w) : wpList P ops Q [] a w := h
end
end Go.Proofs.Ytgjkbnplpioloaa
