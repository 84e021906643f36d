/-
  What Add, Drop and Mark need: the steps of a drawn region that cut a slice, make one, append to a full one; a result put into its cell.
  Conditions: none beyond those that each theorem names.
-/
import Derived.Test.YtgjkbnplpioloaaB6
import Derived.ArgAppend
namespace Go.Proofs.Ytgjkbnplpioloaa
open Go.RowKit
attribute [local go_sem] Oper.semAt_some
set_option maxRecDepth 20000

section
variable {op : Oper} {a : Act}
theorem exec_cut {w : World} (x y z : Operand) (ho : op.op = .slice 40 x none (some y) (some z)) (A : Option Addr) (n c : Nat) (hx : a.eval x = .slice A n c) (hy : a.eval y = .int .i64 (n : Int)) (hz : a.eval z = .int .i64 (n : Int)) (hc : n ≤ c) (hn : n ≤ 100000) :
    (execOp a.eval op).run Try.prog w = .ok (.value (.slice A n n)) w := by
  have h0 : (Instr.slice 40 (.slice A n c) none (some (.int .i64 (n : Int))) (some (.int .i64 (n : Int)))).run Try.prog w = .ok (.slice A n n) w := by
    rw [run_slice_hm w 40 A n c (by rw [show Try.prog.elem 40 = 50 from rfl]; exact Try.underlying40) .i64 .i64 (n : Int) (n : Int) (by omega) (by omega) (by omega)]
    have : (sizeOf (Try.prog.elem 40)).run Try.prog w = .ok 4 w := by go_simp
    rw [this]
    cases A with
    | none => simp [Result.andThen, sliced]
    | some b =>
      have e0 : b.add 0 = b := by unfold Addr.add; simp
      simp [Result.andThen, sliced, e0]
  have h1 : (Instr.sliceAt 40 (.slice A n c) none (some (.int .i64 (n : Int))) (some (.int .i64 (n : Int)))).run Try.prog w = .ok (.slice A n n) w := by
    rw [run_sliceAt_slice w 40 _ _ _ _ (by rw [show Try.prog.elem 40 = 50 from rfl]; exact Try.underlying40)]
    exact h0
  unfold execOp
  simp [ho, hx, hy, hz, h1, Result.andThen]
end
theorem wp_lit1r {o : Oper} {a : Act} {w : World} {K : Act → World → Prop} {Q : Exit → Act → World → Prop} (d : Nat) (x : Operand) (t e : TypeId) (size : Nat) (z : Value) (c : Array Value) (hop : o.dst = some d)
    (ho : o.op = .buildSlice t 1 #[(0, x)]) (hx : a.eval x = .agg c) (ht : Try.prog.underlying t = some (.slice e)) (hi : (Try.prog.info? e).map (fun i => (i.zero, i.size)) = some (some z, size)) (h0 : 0 < size) (hs : size ≤ 100000) (hc : c.size = size)
    (h : K (a.put (some d) (.slice (some ⟨w.heap.size, 0, none⟩) 1 1)) (w.alloc (.cells c e))) : o.wp Try.prog a w K Q := by
  have hrun := run_buildSlice_one (P := Try.prog) w t e size z c ht hi h0 hs hc
  unfold Oper.wp
  simp [execOp, ho, hx, hrun, Result.andThen]
  simp only [Oper.upon]
  rw [hop]
  exact h
theorem wp_grows {o : Oper} {a : Act} {w : World} {K : Act → World → Prop} {Q : Exit → Act → World → Prop} (d : Nat) (s x : Operand) (hop : o.dst = some d) (ho : o.op = Op.call { callee := Callee.builtin Builtin.append, args := #[s, x], argTypes := #[40, 40] })
    (ao : Option Addr) (n : Nat) (l : List Rc) (hs : a.eval s = .slice ao n n) (hL : Lz NoX w 4 ao n (rcsL l)) (g : Nat) (r : Rc) (hx : a.eval x = .slice (some ⟨g, 0, none⟩) 1 1) (hc : ∀ j u, (rcL r)[j]? = some u → w.cell? ⟨g, j, none⟩ = some u) (hn : n ≤ 100000)
    (hK : ∀ v' w', w'.ownsRow w.heap.size 50 4 v' (n + 1) (rcsL (l ++ [r])) → w.grownBy w' none → K (a.put (some d) v') w') : o.wp Try.prog a w K Q := by
  obtain ⟨i, h2, h3, h4, h5⟩ := rc_info
  have hc' : ∀ j u, (rcL r)[j]? = some u → w.cell? ((⟨g, 0, none⟩ : Addr).add j) = some u := fun j u hu => by rw [add_plain, Nat.zero_add]; exact hc j u hu
  have h1c : ∀ u ∈ rcL r, u.oneCell' = true := rcsL_one r ▸ rcsL_cell [r]
  have b1 : n + 1 ≤ maxLen := by simp only [maxLen]; omega
  have key : ∃ v' w', (Builtin.append_ #[40, 40] o.type #[.slice ao n n, .slice (some ⟨g, 0, none⟩) 1 1]).run Try.prog w = .ok v' w' ∧ w'.ownsRow w.heap.size 50 4 v' (n + 1) (rcsL l ++ rcL r) ∧ w.grownBy w' none := by
    cases ao with
    | some b => exact run_append_arg_grows (P := Try.prog) w 40 o.type 50 i _ 4 24 Try.underlying40 h2 h3 h4 h5 rfl (by omega) b n n (rcsL l) hL.len hL.cells ⟨g, 0, none⟩ 1 1 (rcL r) rfl hc' (by omega) b1 (by omega)
    | none =>
      obtain ⟨rfl, hl⟩ := hL.nil_of_none
      rw [hl]
      obtain ⟨v', w', hrun, r1, r2, _⟩ := run_append_own (P := Try.prog) w w.heap.size 40 o.type 50 i _ 4 24 Try.underlying40 h2 h3 h4 h5 rfl (by omega) (.slice none 0 0) 0 [] (World.ownsRow_nil w _ 50 4) ⟨g, 0, none⟩ 1 1 (rcL r) rfl hc' h1c b1 (by omega) (Nat.le_refl _)
      exact ⟨v', w', hrun, r1, r2⟩
  obtain ⟨v', w', hrun, r1, r2⟩ := key
  unfold Oper.wp
  simp [execOp, ho, resolve, invoke, builtin, hs, hx, hrun, Result.andThen]
  simp only [Oper.upon]
  rw [hop]
  exact hK v' w' (by rw [rcsL_append, rcsL_one]; exact r1) r2
/-- A new bucket put into the cell of the result. -/
theorem RetBk.put {w y z w9 : World} {d : Bx} {ps : List Int} {pn rn : Nat} {rs : List Rc} {v : Value} {g : Nat} {cs : Array Value} (h : RetBk y d ps pn rs rn v z) (hy : Below w.heap.size w y) (ha : At z g 44 cs) (hg : z.grownBy w9 (some g)) (hgw : w.heap.size ≤ g) : RetBk w d ps pn rs rn v w9 := by
  obtain ⟨PA, pc, RA, rc, rfl, hp, hr, hb⟩ := h
  have k : ∀ {B e sz v m xs}, z.ownsRow B e sz v m xs → 44 ≠ e → w9.ownsRow B e sz v m xs := fun {B e sz v m xs} ho hne => by
    refine ho.kept hg ?_
    cases hv : v.ownBlock with
    | none => exact .inl rfl
    | some k => exact .inr fun e1 => own_ne ho ha hne (by rw [hv, e1])
  have h3 := hy.trans (hb.mono hy.size)
  exact ⟨PA, pc, RA, rc, rfl, own_base (k hp (by decide)) hy.size, own_base (k hr (by decide)) hy.size, h3.grown hg h3.size (fun j e => by injection e with e; omega)⟩
end Go.Proofs.Ytgjkbnplpioloaa
