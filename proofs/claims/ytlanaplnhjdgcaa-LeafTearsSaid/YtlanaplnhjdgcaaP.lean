/-
  Pages in memory and in sectors; the walks of number, Blank, filled, Where, exists, Of.
  Conditions: none beyond those that each theorem names.
-/
import Derived.Test.YtlanaplnhjdgcaaW
import Derived.Test.YtlanaplnhjdgcaaB5
namespace Go.Proofs.Ytlanaplnhjdgcaa
open Go.RowKit

abbrev Pg := Vector Int 224
def zpg : Pg := Vector.replicate 224 0
def pg (p : Pg) : List Value := CL p.toList
def pgA (p : Pg) : Array Value := (pg p).toArray
theorem pg_length (p : Pg) : (pg p).length = 224 := by rw [pg, CL_length, Vector.length_toList]
theorem pgA_size (p : Pg) : (pgA p).size = 224 := by rw [pgA, List.size_toArray, pg_length]
theorem pgA_one (p : Pg) : (pgA p).all (·.oneCell') = true := all_oneCell_toArray (CL_one _)
theorem pg_info : (Try.prog.info? 22).map (fun i => (i.zero, i.size)) = some (some (.agg (pgA zpg)), 224) := by kernel_rfl
theorem pg_size : (Try.prog.info? 22).map (·.size) = some 224 := (zero_of_info pg_info).2

/-! ### Bytes in a block of their own -/
def RowAt (w : World) (g : Nat) (t : TypeId) (L : List Int) : Prop := w.heap[g]? = some (.cells (CL L).toArray t (0, 0))
section
variable {w w' : World} {g : Nat} {t : TypeId} {L : List Int}
theorem RowAt.lt (h : RowAt w g t L) : g < w.heap.size := (Array.getElem?_eq_some_iff.1 h).1
theorem RowAt.cell (h : RowAt w g t L) (k : Nat) (hk : k < L.length) : w.cell? ⟨g, k, none⟩ = some (.int .u8 L[k]) := by
  rw [cell_of_row w g k _ _ _ h, List.getElem?_toArray, CL_get L k hk]
theorem RowAt.frozen (h : RowAt w g t L) (k : Nat) : w.frozen? ⟨g, k, none⟩ = false := frozen_of_row w g k _ _ h
theorem CL_set (L : List Int) (k : Nat) (x : Int) : (CL L).set k (.int .u8 x) = CL (L.set k x) := by simp [CL, List.map_set]
theorem RowAt.set (h : RowAt w g t L) (k : Nat) (x : Int) : RowAt (w.setCell ⟨g, k, none⟩ (.int .u8 x)) g t (L.set k x) := by
  have := heap_setCell_same w g k _ _ (.int .u8 x) h
  rwa [List.setIfInBounds_toArray, CL_set] at this
theorem RowAt.kept {Y : Nat → Prop} (h : RowAt w g t L) (hm : Mod Y w w') (hg : ¬ Y g) : RowAt w' g t L := by
  rw [RowAt, hm.block g h.lt hg]; exact h
theorem RowAt.below (h : RowAt w g t L) (hb : Below w.heap.size w w') : RowAt w' g t L := by
  rw [RowAt, hb.block g h.lt]; exact h
theorem RowAt.alloc (h : RowAt w g t L) (o : Obj) : RowAt (w.alloc o) g t L := by
  rw [RowAt, Below.heap_alloc w o g h.lt]; exact h
theorem RowAt.range (h : RowAt w g t L) (o n : Nat) : w.rangeAt g o (CL ((L.drop o).take n)) := fun j v hv => by
  rw [cell_of_row w g _ _ _ _ h, List.getElem?_toArray]
  rw [CL_take, CL_drop, List.getElem?_take] at hv
  split at hv
  · rwa [List.getElem?_drop] at hv
  · cases hv
theorem RowAt.all (h : RowAt w g t L) : w.rangeAt g 0 (CL L) := row_range w g _ t h
theorem RowAt.there (h : RowAt w g t L) (o n : Nat) (hn : o + n ≤ L.length) : w.there g o n := there_row h (by rw [CL_length]; exact hn)
theorem RowAt.lz (h : RowAt w g t L) {X : Nat → Prop} (hX : ¬ X g) (o n : Nat) (hn : o + n ≤ L.length) : Lz X w 1 (some ⟨g, o, none⟩) n (CL ((L.drop o).take n)) :=
  ⟨by rw [CL_length, List.length_take, List.length_drop]; omega, fun _ => ⟨g, o, rfl, hX, h.lt, h.range o n⟩⟩
theorem RowAt.put (h : RowAt w g t L) (o : Nat) (M : List Int) (hn : o + M.length ≤ L.length) : RowAt (w.setCells g o (CL M)) g t (splice L o M) := by
  have := setCells_row g t (CL M) o (CL L) w h (by rw [CL_length, CL_length]; exact hn)
  rw [RowAt, this]
  simp [splice, CL]
end
theorem RowAt.new (w : World) (t : TypeId) (L : List Int) : RowAt (w.alloc (.cells (CL L).toArray t)) w.heap.size t L := heap_alloc_new w _
theorem row_pg (w : World) (p : Pg) : RowAt (w.alloc (.cells (pgA p) 22)) w.heap.size 22 p.toList := heap_alloc_new w _

/-! ### Steps on pages -/
theorem wpList_load_pg {ops : Array Oper} {rest : List Oper} {op : Oper} {a : Act} {w : World} {Q : Exit → Act → World → Prop} (d : Nat) (x : Operand) (hop : op.dst = some d) (hgd : op.guard = none) (ho : op.op = .load 22 x)
    (g : Nat) (hx : a.eval x = .pointer (some ⟨g, 0, none⟩)) (p : Pg) (hc : RowAt w g 22 p.toList)
    (h : wpList Try.prog ops Q rest (a.put (some d) (.agg (pgA p))) w) : wpList Try.prog ops Q (op :: rest) a w := by
  refine wpList_load_mid hgd 22 x ho g 0 hx (pg p) _ hc.all Try.underlying22 rfl (by rw [pg_length]; exact pg_size) ?_
  rw [hop]
  exact h
theorem wpList_store_pg {ops : Array Oper} {rest : List Oper} {op : Oper} {a : Act} {w : World} {Q : Exit → Act → World → Prop} (x y : Operand) (hop : op.dst = none) (hgd : op.guard = none) (ho : op.op = .store 22 x y)
    (g : Nat) (hx : a.eval x = .pointer (some ⟨g, 0, none⟩)) (p q : Pg) (hy : a.eval y = .agg (pgA p)) (hc : RowAt w g 22 q.toList)
    (h : ∀ w', RowAt w' g 22 p.toList → Mod (fun k => k = g) w w' → wpList Try.prog ops Q rest (a.put none undef) w') : wpList Try.prog ops Q (op :: rest) a w := by
  refine wpList_store_mid hgd 22 x y ho g 0 (pgA p) hx hy (by rw [pgA_size]; exact hc.there 0 224 (by simp)) (by rw [pgA_size]; exact pg_size) (pgA_one p) ?_
  rw [hop]
  refine h _ ?_ (Mod.setCells (X := fun k => k = g) (Mod.refl _ w) (.inl rfl) _ _)
  have := hc.put 0 p.toList (by simp)
  rw [show splice q.toList 0 p.toList = p.toList by simp [splice]] at this
  exact this
theorem exec_load_pg {op : Oper} {a : Act} {w : World} (x : Operand) (ho : op.op = .load 22 x) (g : Nat) (hx : a.eval x = .pointer (some ⟨g, 0, none⟩)) (p : Pg) (hc : RowAt w g 22 p.toList) :
    (execOp a.eval op).run Try.prog w = .ok (.value (.agg (pgA p))) w :=
  exec_load 22 x ho g 0 hx (pg p) _ hc.all Try.underlying22 rfl (by rw [pg_length]; exact pg_size)
theorem loadVar_pg (w : World) (g : Nat) (p : Pg) (hc : RowAt w g 22 p.toList) : (loadVar 22 ⟨g, 0, none⟩).run Try.prog w = .ok (.agg (pgA p)) w :=
  run_loadVar_mid w g 0 22 (pg p) _ hc.all Try.underlying22 rfl (by rw [pg_length]; exact pg_size)
section
variable {fn : Func} {p t t2 t3 : Tmp} (tmps : Array Value) (w : World) (g : Nat) (q : Pg) (v v2 v3 : Value) (hp : tmps.getD p undef = .pointer (some ⟨g, 0, none⟩)) (hc : RowAt w g 22 q.toList)
include hp hc
theorem results_pg1 (h : fn.results = #[.cell p 22]) : (results fn tmps).run Try.prog w = .ok (.agg (pgA q)) w := by
  have hp' : tmps[p]?.getD undef = .pointer (some ⟨g, 0, none⟩) := by simpa using hp
  simp [results, h, hp', asAddr, loadVar_pg w g q hc]
theorem results_pg2 (h : fn.results = #[.cell p 22, .tmp t]) (hv : tmps.getD t undef = v) : (results fn tmps).run Try.prog w = .ok (.tuple #[.agg (pgA q), v]) w := by
  have hp' : tmps[p]?.getD undef = .pointer (some ⟨g, 0, none⟩) := by simpa using hp
  have hv' : tmps[t]?.getD undef = v := by simpa using hv
  simp [results, h, hp', hv', asAddr, loadVar_pg w g q hc]
theorem results_pg3 (h : fn.results = #[.cell p 22, .tmp t, .tmp t2]) (hv : tmps.getD t undef = v) (hv2 : tmps.getD t2 undef = v2) : (results fn tmps).run Try.prog w = .ok (.tuple #[.agg (pgA q), v, v2]) w := by
  have hp' : tmps[p]?.getD undef = .pointer (some ⟨g, 0, none⟩) := by simpa using hp
  have hv' : tmps[t]?.getD undef = v := by simpa using hv
  have hv2' : tmps[t2]?.getD undef = v2 := by simpa using hv2
  simp [results, h, hp', hv', hv2', asAddr, loadVar_pg w g q hc]
theorem results_pg4 (h : fn.results = #[.cell p 22, .tmp t, .tmp t2, .tmp t3]) (hv : tmps.getD t undef = v) (hv2 : tmps.getD t2 undef = v2) (hv3 : tmps.getD t3 undef = v3) : (results fn tmps).run Try.prog w = .ok (.tuple #[.agg (pgA q), v, v2, v3]) w := by
  have hp' : tmps[p]?.getD undef = .pointer (some ⟨g, 0, none⟩) := by simpa using hp
  have hv' : tmps[t]?.getD undef = v := by simpa using hv
  have hv2' : tmps[t2]?.getD undef = v2 := by simpa using hv2
  have hv3' : tmps[t3]?.getD undef = v3 := by simpa using hv3
  simp [results, h, hp', hv', hv2', hv3', asAddr, loadVar_pg w g q hc]
end
theorem beq_pg (a b : Pg) : (a.toList == b.toList) = (a == b) := by
  rw [Bool.eq_iff_iff, beq_iff_eq, beq_iff_eq, Vector.toList_inj]
theorem eql_pg (a b : Pg) (w : World) : (binOp .eql 22 (.agg (pgA a)) (.agg (pgA b))).run Try.prog w = .ok (.bool (a == b)) w := by
  obtain ⟨i, hi⟩ := info5
  have := run_eql_row 224 Try.underlying22 hi cells5 Try.underlying5 a.toList b.toList (by simp) (by simp) w
  rw [beq_pg] at this
  exact this
theorem neq_pg (a b : Pg) (w : World) : (binOp .neq 22 (.agg (pgA a)) (.agg (pgA b))).run Try.prog w = .ok (.bool (!(a == b))) w := by
  obtain ⟨i, hi⟩ := info5
  have := run_neq_row 224 Try.underlying22 hi cells5 Try.underlying5 a.toList b.toList (by simp) (by simp) w
  rw [beq_pg] at this
  exact this
theorem guardP : Try.prog.eqGuardType Try.prog.depth 22 = false := by kernel_rfl
theorem exec_eql_pg {op : Oper} {a : Act} (u v : Operand) (ho : op.op = .binOp .eql 22 u v 22) (x y : Pg) (w : World) (hu : a.eval u = .agg (pgA x)) (hv : a.eval v = .agg (pgA y)) :
    (execOp a.eval op).run Try.prog w = .ok (.value (.bool (x == y))) w := by
  unfold execOp
  simp only [ho, hu, hv, Sem.run_bind, run_eqGuard_agg w .eql 22 u v _ _ guardP, Result.andThen_ok, eql_pg, Sem.run_pure]
theorem exec_neq_pg {op : Oper} {a : Act} (u v : Operand) (ho : op.op = .binOp .neq 22 u v 22) (x y : Pg) (w : World) (hu : a.eval u = .agg (pgA x)) (hv : a.eval v = .agg (pgA y)) :
    (execOp a.eval op).run Try.prog w = .ok (.value (.bool (!(x == y)))) w := by
  unfold execOp
  simp only [ho, hu, hv, Sem.run_bind, run_eqGuard_agg w .neq 22 u v _ _ guardP, Result.andThen_ok, neq_pg, Sem.run_pure]

/-! ### Pages and their sectors -/
def layL (p : Pg) (n i : Nat) : List Int := (p.toList.drop (i * 56)).take 56 ++ putL n 8
theorem layL_length (p : Pg) (n i : Nat) (hi : i < 4) : (layL p n i).length = 64 := by
  rw [layL, List.length_append, putL_length, List.length_take, List.length_drop, Vector.length_toList]; omega
@[irreducible] def lay (p : Pg) (n i : Nat) : Sect := Vector.ofFn fun j : Fin 64 => (layL p n i).getD j 0
theorem ofFn_list (m : Nat) (L : List Int) (h : L.length = m) : (Vector.ofFn (n := m) fun j => L.getD j 0).toList = L := by
  apply List.ext_getElem (by simp [h])
  intro i h1 h2
  simp [List.getD, h2]
theorem lay_toList (p : Pg) (n i : Nat) (hi : i < 4) : (lay p n i).toList = layL p n i := by
  unfold lay
  exact ofFn_list 64 _ (layL_length p n i hi)
def puts (p : Pg) (n : Nat) : List Sect := [lay p n 0, lay p n 1, lay p n 2, lay p n 3]
def bodyL (s : Sect) : List Int := s.toList.take 56
def markL (s : Sect) : List Int := s.toList.drop 56
def markI (s : Sect) : Int := getI (markL s)
theorem body_length (s : Sect) : (bodyL s).length = 56 := by simp [bodyL]
theorem body_lay (p : Pg) (n i : Nat) (hi : i < 4) : bodyL (lay p n i) = (p.toList.drop (i * 56)).take 56 := by
  rw [bodyL, lay_toList p n i hi, layL, List.take_append_of_le_length (by simp; omega), List.take_of_length_le (by simp; omega)]
theorem mark_lay (p : Pg) (n i : Nat) (hi : i < 4) (hn : n < 18446744073709551616) : markI (lay p n i) = n := by
  rw [markI, markL, lay_toList p n i hi, layL, List.drop_append_of_le_length (by simp; omega), List.drop_of_length_le (by simp; omega), List.nil_append, getI_put n hn]
def pagesL : List Sect → List Int
  | [] => []
  | s :: r => bodyL s ++ pagesL r
theorem pagesL_length : ∀ l : List Sect, (pagesL l).length = l.length * 56
  | [] => rfl
  | s :: r => by simp [pagesL, body_length, pagesL_length r]; omega
theorem pagesL_append : ∀ l m : List Sect, pagesL (l ++ m) = pagesL l ++ pagesL m
  | [], _ => rfl
  | s :: r, m => by simp [pagesL, pagesL_append r m]
@[irreducible] def pageOf (l : List Sect) : Pg := Vector.ofFn fun j : Fin 224 => (pagesL l).getD j 0
theorem pageOf_toList (l : List Sect) (h : l.length = 4) : (pageOf l).toList = pagesL l := by
  unfold pageOf
  exact ofFn_list 224 _ (by rw [pagesL_length, h])
theorem pageOf_puts (p : Pg) (n : Nat) : pageOf (puts p n) = p := by
  apply Vector.toList_inj.1
  rw [pageOf_toList _ (by rfl), puts, pagesL, pagesL, pagesL, pagesL, pagesL, body_lay p n 0 (by omega), body_lay p n 1 (by omega), body_lay p n 2 (by omega), body_lay p n 3 (by omega)]
  have hl : p.toList.length = 224 := Vector.length_toList
  generalize p.toList = L at hl
  have e : ∀ k, (L.drop k).take 56 ++ L.drop (k + 56) = L.drop k := fun k => by rw [← List.drop_drop, List.take_append_drop]
  have e3 := e 168
  rw [List.drop_of_length_le (i := 168 + 56) (by omega)] at e3
  rw [e3, e 112, e 56, e 0, List.drop_zero]
def whole (l : List Sect) : Bool := l.length == 4 && l.all fun s => markI s == markI (l.headD zsec)
def getP (l : List Sect) : Pg := if whole l then pageOf l else zpg
def getM (l : List Sect) : Int := if whole l then markI (l.headD zsec) else 0
def Oks (l : List Sect) : Prop := ∀ s ∈ l, Okb s.toList
theorem whole_puts (p : Pg) (n : Nat) (hn : n < 18446744073709551616) : whole (puts p n) = true := by
  simp [whole, puts, mark_lay _ _ _ _ hn]
theorem getP_puts (p : Pg) (n : Nat) (hn : n < 18446744073709551616) : getP (puts p n) = p := by rw [getP, if_pos (whole_puts p n hn), pageOf_puts]
theorem getM_puts (p : Pg) (n : Nat) (hn : n < 18446744073709551616) : getM (puts p n) = n := by
  rw [getM, if_pos (whole_puts p n hn)]
  exact mark_lay p n 0 (by omega) hn
theorem oks_puts (p : Pg) (n : Nat) (hp : Okb p.toList) : Oks (puts p n) := by
  intro s hs
  simp only [puts, List.mem_cons, List.not_mem_nil, or_false] at hs
  rcases hs with rfl | rfl | rfl | rfl
  all_goals (rw [lay_toList _ _ _ (by omega)]; exact ((hp.drop _).take _).append (putL_ok 8 n))
end Go.Proofs.Ytlanaplnhjdgcaa
