/-
  What Get needs: the rows that it gathers, the steps of its region.
  Conditions: none beyond those that each theorem names.
-/
import Derived.Test.YtgjkbnplpioloaaB21
namespace Go.Proofs.Ytgjkbnplpioloaa
open Go.RowKit
attribute [local go_sem] Oper.semAt_some
set_option maxRecDepth 20000

/-- A literal of one number. -/
theorem wpList_lit1i {ops : Array Oper} {rest : List Oper} {o : Oper} {a : Act} {w : World} {Q : Exit → Act → World → Prop} (d : Nat) (hgd : o.guard = none) (x : Operand) (hop : o.dst = some d) (ho : o.op = .buildSlice 42 1 #[(0, x)]) (X : Int) (hx : a.eval x = .int .i64 X)
    (h : wpList Try.prog ops Q rest (a.put (some d) (.slice (some ⟨w.heap.size, 0, none⟩) 1 1)) (w.alloc (.cells #[.int .i64 X] 3))) : wpList Try.prog ops Q (o :: rest) a w := by
  refine wpList_plain hgd fun K hK => ?_
  have hrun : (Instr.buildSlice 42 1 #[(0, .int .i64 X)]).run Try.prog w = .ok (.slice (some ⟨w.heap.size, 0, none⟩) 1 1) (w.alloc (.cells #[.int .i64 X] 3)) := by go_simp
  unfold Oper.wp
  simp [execOp, ho, hx, hrun, Result.andThen]
  simp only [Oper.upon]
  rw [hop]
  exact hK _ _ h
theorem row_kept {y z : World} {B B' s s' m m' : Nat} {e e' : TypeId} {v v' : Value} {xs xs' : List Value} (ho : y.ownsRow B e s v m xs) (hr : y.ownsRow B' e' s' v' m' xs') (hg : y.grownBy z v'.ownBlock) (hne : e' ≠ e) : z.ownsRow B e s v m xs := ho.kept hg (by
  cases hv : v.ownBlock with
  | none => exact .inl rfl
  | some k => exact .inr fun e1 => row_ne hr ho hne e1.symm hv)
/-- While the pages of a chain are gathered. -/
structure G16 (w : World) (im : List Im) (v7 : Value) (np : List Int) (P : Value) (nr : List Rc) (R : Value) (xr : List Rc) (X : Value) (live : Bool) (B : Array Value) (y : World) : Prop where
  read : y.ownsRow w.heap.size 64 225 v7 im.length (flatI im)
  nums : y.ownsRow w.heap.size 3 1 P np.length (ICs np)
  recs : y.ownsRow w.heap.size 50 4 R nr.length (rcsL nr)
  x : live = true → ∃ b, y.ownsRow b 50 4 X xr.length (rcsL xr)
  below : Below w.heap.size w y
  box4 : At y (w.heap.size + 1) 44 zbk
  box6 : At y (w.heap.size + 2) 44 B
section
variable {w y z : World} {im : List Im} {v7 : Value} {np : List Int} {P : Value} {nr : List Rc} {R : Value} {xr : List Rc} {X : Value} {live : Bool} {B : Array Value}
theorem G16.call (h : G16 w im v7 np P nr R xr X live B y) (hb : Below y.heap.size y z) : G16 w im v7 np P nr R xr X live B z :=
  ⟨own_under h.read hb (Nat.le_refl _), own_under h.nums hb (Nat.le_refl _), own_under h.recs hb (Nat.le_refl _), fun e => by obtain ⟨b, hx⟩ := h.x e; exact ⟨b, own_under hx hb (Nat.le_refl _)⟩, h.below.trans (hb.mono h.below.size), h.box4.under hb h.box4.lt, h.box6.under hb h.box6.lt⟩
theorem G16.putP {v : Value} {n : Int} (h : G16 w im v7 np P nr R xr X live B y) (ho : z.ownsRow w.heap.size 3 1 v (np.length + 1) (ICs np ++ ICs [n])) (hg : y.grownBy z P.ownBlock) : G16 w im v7 (np ++ [n]) v nr R xr X live B z :=
  ⟨row_kept h.read h.nums hg (by decide), by rw [ICs_append, List.length_append]; exact ho, row_kept h.recs h.nums hg (by decide), fun e => by obtain ⟨b, hx⟩ := h.x e; exact ⟨b, row_kept hx h.nums hg (by decide)⟩, h.below.grown hg h.below.size (fun j hj => (h.nums.lt j hj).1), h.box4.grown hg (own_ne h.nums h.box4 (by decide)), h.box6.grown hg (own_ne h.nums h.box6 (by decide))⟩
theorem G16.putR {v : Value} (h : G16 w im v7 np P nr R xr X live B y) (ho : z.ownsRow w.heap.size 50 4 v (nr.length + xr.length) (rcsL nr ++ rcsL xr)) (hg : y.grownBy z R.ownBlock) : G16 w im v7 np P (nr ++ xr) v xr X false B z :=
  ⟨row_kept h.read h.recs hg (by decide), row_kept h.nums h.recs hg (by decide), by rw [rcsL_append, List.length_append]; exact ho, (fun e => by cases e), h.below.grown hg h.below.size (fun j hj => (h.recs.lt j hj).1), h.box4.grown hg (own_ne h.recs h.box4 (by decide)), h.box6.grown hg (own_ne h.recs h.box6 (by decide))⟩
theorem G16.putI {v : Value} {i : Im} (h : G16 w im v7 np P nr R xr X live B y) (ho : z.ownsRow w.heap.size 64 225 v (im.length + 1) (flatI im ++ imL i)) (hg : y.grownBy z v7.ownBlock) : G16 w (im ++ [i]) v np P nr R xr X live B z :=
  ⟨by rw [flatI_append, flatI_single, List.length_append]; exact ho, row_kept h.nums h.read hg (by decide), row_kept h.recs h.read hg (by decide), fun e => by obtain ⟨b, hx⟩ := h.x e; exact ⟨b, row_kept hx h.read hg (by decide)⟩, h.below.grown hg h.below.size (fun j hj => (h.read.lt j hj).1), h.box4.grown hg (own_ne h.read h.box4 (by decide)), h.box6.grown hg (own_ne h.read h.box6 (by decide))⟩
theorem G16.store {B2 : Array Value} (h : G16 w im v7 np P nr R xr X live B y) (ha : At z (w.heap.size + 2) 44 B2) (hg : y.grownBy z (some (w.heap.size + 2))) : G16 w im v7 np P nr R xr X false B2 z := by
  have k : ∀ {b e s v m xs}, y.ownsRow b e s v m xs → 44 ≠ e → z.ownsRow b e s v m xs := fun {b e s v m xs} ho hne => by
    refine ho.kept hg ?_
    cases hv : v.ownBlock with
    | none => exact .inl rfl
    | some k => exact .inr fun e1 => own_ne ho h.box6 hne (by rw [hv, e1])
  exact ⟨k h.read (by decide), k h.nums (by decide), k h.recs (by decide), (fun e => by cases e), h.below.grown hg h.below.size (fun j e => by injection e with e; omega), h.box4.grown hg (by intro e; injection e with e; omega), ha⟩
theorem G16.setB (h : G16 w im v7 np P nr R xr X live B y) (j : Nat) (u : Value) : G16 w im v7 np P nr R xr X false (B.setIfInBounds j u) (y.setCell ⟨w.heap.size + 2, j, none⟩ u) := h.store (h.box6.set j u) (grown_set y _ j u)
theorem G16.setX {x2 : List Rc} {X2 : Value} {b : Nat} (h : G16 w im v7 np P nr R xr X live B y) (hx : y.ownsRow b 50 4 X2 x2.length (rcsL x2)) : G16 w im v7 np P nr R x2 X2 true B y := ⟨h.read, h.nums, h.recs, fun _ => ⟨b, hx⟩, h.below, h.box4, h.box6⟩
end
/-- append of a slice, nil or not, as one step of a drawn region. -/
theorem wp_appL {w : World} {o : Oper} {a : Act} {K : Act → World → Prop} {Q : Exit → Act → World → Prop} (d : Nat) (s x : Operand) (t : TypeId) (hop : o.dst = some d)
    (ho : o.op = .call { callee := .builtin .append, args := #[s, x], argTypes := #[t, t] })
    (base : Nat) (e : TypeId) (i : TypeInfo) (z : Value) (size bytes : Nat) (ht : Try.prog.underlying t = some (.slice e)) (hi : Try.prog.info? e = some i) (hz : i.zero = some z)
    (hsize : i.size = size) (hby : i.bytes = bytes) (hzs : z.cells.size = size) (hsz : 0 < size)
    (v : Value) (n : Nat) (xs : List Value) (hs : a.eval s = v) (hown : w.ownsRow base e size v n xs)
    (B : Nat) (A : Option Addr) (m c : Nat) (news : List Value) (hx : a.eval x = .slice A m c) (hr : Lies w B size A m news) (h1 : ∀ u ∈ news, u.oneCell' = true)
    (h63 : n + m ≤ maxLen) (hbytes : (n + m) * bytes ≤ 140737488355328) (hbase : base ≤ w.heap.size)
    (h : ∀ v' w', w'.ownsRow base e size v' (n + m) (xs ++ news) → w.grownBy w' v.ownBlock → K (a.put (some d) v') w') : o.wp Try.prog a w K Q := by
  obtain ⟨v', w', hrun, h2, h3⟩ := run_append_lies' (P := Try.prog) w base t o.type e i z size bytes ht hi hz hsize hby hzs hsz v n xs hown B A m c news hr h1 h63 hbytes hbase
  exact Lib.wp_append_run w s x t t ho v _ hs hx v' w' hrun (by rw [hop]; exact h v' w' h2 h3)
theorem wp_lit1i {o : Oper} {a : Act} {w : World} {K : Act → World → Prop} {Q : Exit → Act → World → Prop} (d : Nat) (x : Operand) (hop : o.dst = some d) (ho : o.op = .buildSlice 42 1 #[(0, x)]) (X : Int) (hx : a.eval x = .int .i64 X)
    (h : K (a.put (some d) (.slice (some ⟨w.heap.size, 0, none⟩) 1 1)) (w.alloc (.cells #[.int .i64 X] 3))) : o.wp Try.prog a w K Q := by
  have hrun : (Instr.buildSlice 42 1 #[(0, .int .i64 X)]).run Try.prog w = .ok (.slice (some ⟨w.heap.size, 0, none⟩) 1 1) (w.alloc (.cells #[.int .i64 X] 3)) := by go_simp
  unfold Oper.wp
  simp [execOp, ho, hx, hrun, Result.andThen]
  simp only [Oper.upon]
  rw [hop]
  exact h
/-- A function that tells f's pages. -/
def AtF (fn : Nat) (lb : Array Value) (f : Int → Pg × Bool) (w : World) : Prop := ∀ (W : World) (n : Int), Below w.heap.size w W → Calls Try.prog fn (#[.int .i64 n] ++ lb) W (fun e z => e = .returned (.tuple #[.agg (pgA (f n).1), .bool (f n).2]) ∧ Below W.heap.size W z)
theorem readPg_yes {p : Pg} (h : rdOk p = true) (w : World) : Calls Try.prog 45 #[.agg (pgA p)] w (fun e z => ∃ A c, e = .returned (.tuple #[.int .i64 (rdNext p : Int), .slice A (rdRecs p).length c, .bool true]) ∧ z.ownsRow w.heap.size 50 4 (.slice A (rdRecs p).length c) (rdRecs p).length (rcsL (rdRecs p)) ∧ Below w.heap.size w z) := by
  refine (readPg_any p w).mono ?_
  rintro e z ⟨hb, ⟨_, A, m, c, he, ho⟩ | ⟨h2, _⟩⟩
  · have hl := ho.1
    rw [rcsL_length] at hl
    obtain rfl : m = (rdRecs p).length := by omega
    exact ⟨A, c, he, ho, hb⟩
  · rw [h] at h2; cases h2
theorem readPg_no {p : Pg} (h : rdOk p = false) (w : World) : Calls Try.prog 45 #[.agg (pgA p)] w (fun e z => e = .returned (.tuple #[.int .i64 0, .slice none 0 0, .bool false]) ∧ Below w.heap.size w z) := by
  refine (readPg_any p w).mono ?_
  rintro e z ⟨hb, ⟨h2, _⟩ | ⟨_, he⟩⟩
  · rw [h] at h2; cases h2
  · exact ⟨he, hb⟩
theorem wpList_of_exec {ops : Array Oper} {rest : List Oper} {op : Oper} {a : Act} {w : World} {Q : Exit → Act → World → Prop} (d : Nat) (v : Value) (hop : op.dst = some d) (hgd : op.guard = none) (h0 : (execOp a.eval op).run Try.prog w = .ok (.value v) w)
    (h : wpList Try.prog ops Q rest (a.put (some d) v) w) : wpList Try.prog ops Q (op :: rest) a w := by
  refine wpList_plain hgd fun K hK => ?_
  unfold Oper.wp
  rw [h0]
  simp only [Oper.upon]
  rw [hop]
  exact hK _ _ h
theorem exec_build_b0 {w : World} {op : Oper} {a : Act} (x : Operand) (ho : op.op = .build 44 #[(0, x)]) (d : Bx) (hx : a.eval x = .agg (bxA d)) : (execOp a.eval op).run Try.prog w = .ok (.value (.agg (bkA d (.slice none 0 0) (.slice none 0 0)))) w := by
  have h0 : (Instr.build 44 #[(0, .agg (bxA d))]).run Try.prog w = .ok (.agg (bkA d (.slice none 0 0) (.slice none 0 0))) w := by
    unfold bxA bxL
    go_simp
    rfl
  unfold execOp
  simp [ho, hx, h0, Result.andThen]
end Go.Proofs.Ytgjkbnplpioloaa
