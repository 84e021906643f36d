/-
  The reference's Lock: what its loop carries along; what stands in a queue behind a wish.
  Conditions: none beyond those that each theorem names.
-/
import Derived.Test.YthbifccankfngaaGreatDoorR11ZQ
namespace Go.Proofs.YthbifccankfngaaGreatDoor
open Go.RowKit Go.Shelf
attribute [local go_sem] Oper.semAt_some
set_option maxRecDepth 20000

/-- What Lock hands back: a table, and a code. -/
def LkR (w : World) (X0 : Nat → Prop) (p : TR × Int) (e : Ending) (w' : World) : Prop :=
  ∃ A1 n1 c1 A2 n2 c2, e = .returned (.tuple #[.agg (rtA A1 A2 n1 c1 n2 c2), .int .i64 p.2]) ∧ RtV X0 w' A1 n1 A2 n2 p.1 ∧ Below w.heap.size w w'
/-- A wish put into a queue. -/
def insA (a : Int) (held : List Cl) (c : Cl) (q : List Cl) : List Cl := if 0 < a then insR held c q else q ++ [c]
def insG (a : Int) (held : List Cl) (c : Cl) (d : Bool) (q : List Cl) : List Cl := if d then q else insA a held c q
def insC (a : Int) (held : List Cl) (c : Cl) (d : Bool) (x : Cl) : Bool := !d && decide (0 < a) && (x.1 == c.1) && (modeR held x.2.1 c.1 == 0)
theorem insG_yes {a : Int} {held : List Cl} {c : Cl} {d : Bool} {x : Cl} (q : List Cl) (h : insC a held c d x = true) : insG a held c d (x :: q) = c :: x :: insG a held c true q := by
  simp [insC] at h
  obtain ⟨⟨⟨h1, h2⟩, h3⟩, h4⟩ := h
  simp [insG, insA, insR, h1, h2, h3, h4]
theorem insG_no {a : Int} {held : List Cl} {c : Cl} {d : Bool} {x : Cl} (q : List Cl) (h : insC a held c d x = false) : insG a held c d (x :: q) = x :: insG a held c d q := by
  cases d with
  | true => rfl
  | false =>
    simp only [insG, insA]
    by_cases ha : 0 < a
    · simp [insC, ha] at h
      simp [ha, insR]
      intro h1
      have := h h1
      simp [this]
    · simp [ha]
theorem insG_end (a : Int) (held : List Cl) (c : Cl) (d : Bool) : insG a held c d [] = if d then [] else [c] := by
  cases d <;> simp [insG, insA, insR]
structure LoS (a : Int) (held : List Cl) (c : Cl) (q : List Cl) (k : Nat) (d : Bool) (F : List Cl) : Prop where
  eq : insA a held c q = F ++ insG a held c d (q.drop k)
  len : F.length = k + d.toNat
theorem LoS.start (a : Int) (held : List Cl) (c : Cl) (q : List Cl) : LoS a held c q 0 false [] := ⟨by simp [insG], rfl⟩
theorem LoS.yes {a : Int} {held : List Cl} {c : Cl} {q : List Cl} {k : Nat} {d : Bool} {F : List Cl} (h : LoS a held c q k d F) (hk : k < q.length) (hc : insC a held c d q[k] = true) : LoS a held c q (k + 1) true ((F ++ [c]) ++ [q[k]]) := by
  have hd : d = false := by simp [insC] at hc; exact hc.1.1.1
  subst hd
  have hl := h.len
  refine ⟨?_, by simp at hl ⊢; omega⟩
  rw [h.eq, List.drop_eq_getElem_cons hk, insG_yes _ hc]
  simp
theorem LoS.no {a : Int} {held : List Cl} {c : Cl} {q : List Cl} {k : Nat} {d : Bool} {F : List Cl} (h : LoS a held c q k d F) (hk : k < q.length) (hc : insC a held c d q[k] = false) : LoS a held c q (k + 1) d (F ++ [q[k]]) := by
  have hl := h.len
  refine ⟨?_, by simp; omega⟩
  rw [h.eq, List.drop_eq_getElem_cons hk, insG_no _ hc]
  simp
theorem LoS.fin {a : Int} {held : List Cl} {c : Cl} {q : List Cl} {k : Nat} {d : Bool} {F : List Cl} (h : LoS a held c q k d F) (hk : k = q.length) : insA a held c q = F ++ if d then [] else [c] := by
  rw [h.eq, hk, List.drop_length, insG_end]
theorem wpList_execG {ops : Array Oper} {rest : List Oper} {op : Oper} {a : Act} {w : World} {Q : Exit → Act → World → Prop} {v : Value} (d : Nat) (hop : op.dst = some d) (hw : Region.wanted op (yielded ops a.tmps) = true)
    (hr : (execOp a.eval op).run Tryz.prog w = .ok (.value v) w) (h : wpList Tryz.prog ops Q rest (a.put (some d) v) w) : wpList Tryz.prog ops Q (op :: rest) a w := by
  rw [wpList, if_pos hw]
  left
  unfold Oper.wp
  rw [hr]
  simp only [Oper.upon]
  rw [hop]
  exact h
theorem rcA_one (c : Cl) : (rcA c).all (·.oneCell') = true := by simp [rcA, Value.oneCell']
/-- Claim{R: r, Txn: t, M: j}. -/
theorem exec_build_rc {o : Oper} {a : Act} {w : World} (r : Rs) (t : Nat) (j : Int) (c : Cl) (hc : c = (r, t, j)) (x y z : Operand) (ho : o.op = .build 72 #[(0, x), (1, y), (2, z)]) (h1 : a.eval x = .agg (rsA r)) (h2 : a.eval y = .int .u64 (t : Int)) (h3 : a.eval z = .int .i64 j) :
    (execOp a.eval o).run Tryz.prog w = .ok (.value (.agg (rcA c))) w := by
  subst hc
  unfold rsA at h1
  unfold execOp
  rw [ho]
  simp only [h1, h2, h3, List.map_toArray, List.map_cons, List.map_nil]
  go_simp
  rfl
end Go.Proofs.YthbifccankfngaaGreatDoor
