/-
  Blocks of cells, whole structs in them, rows, slices with nothing in them: the laws that the walks of this layer take.
  Conditions: none beyond those that each theorem names.
-/
import Derived.Test.YtjbohnnknfcjeaaPB
import Derived.Test.YtjbohnnknfcjeaaHD
import Derived.Deep.MidRow
import Derived.Deep.WholeRow
import Derived.OwnWalk
import Derived.Lib.SliceRun
import Derived.Test.YtjbohnnknfcjeaaRows
namespace Go.Proofs.Ytjbohnnknfcjeaa
open Go.RowKit
set_option maxRecDepth 8000

theorem heap_set (w : World) (g i : Nat) (cs : Array Value) (t : TypeId) (u : Value) (h : w.heap[g]? = some (.cells cs t (0, 0))) :
    (w.setCell ⟨g, i, none⟩ u).heap[g]? = some (.cells (cs.setIfInBounds i u) t (0, 0)) := by
  simp [World.setCell, Array.getElem?_modify, h]
def At (w : World) (g : Nat) (t : TypeId) (cs : Array Value) : Prop := w.heap[g]? = some (.cells cs t (0, 0))
section
variable {w w' : World} {g : Nat} {t : TypeId} {cs : Array Value}
theorem At.lt (h : At w g t cs) : g < w.heap.size := (Array.getElem?_eq_some_iff.1 h).1
theorem At.cell (h : At w g t cs) (k : Nat) : w.cell? ⟨g, k, none⟩ = cs[k]? := cell_of_row w g k _ _ _ h
theorem At.frozen (h : At w g t cs) (k : Nat) : w.frozen? ⟨g, k, none⟩ = false := frozen_of_row w g k _ _ h
theorem At.under {B : Nat} (h : At w g t cs) (hb : Below B w w') (hg : g < B) : At w' g t cs := (hb.block g hg).trans h
theorem At.grown {row : Option Nat} (h : At w g t cs) (hb : w.grownBy w' row) (hg : some g ≠ row) : At w' g t cs := (hb.block g h.lt hg).trans h
theorem At.alloc (h : At w g t cs) (o : Obj) : At (w.alloc o) g t cs := (Below.heap_alloc w o g h.lt).trans h
theorem At.set (h : At w g t cs) (k : Nat) (u : Value) : At (w.setCell ⟨g, k, none⟩ u) g t (cs.setIfInBounds k u) := heap_set w g k _ _ u h
theorem At.other (h : At w g t cs) {p : Addr} (hp : g ≠ p.block) (u : Value) : At (w.setCell p u) g t cs := (Below.heap_setCell w p u g hp).trans h
end
theorem At.new (w : World) (t : TypeId) (cs : Array Value) : At (w.alloc (.cells cs t)) w.heap.size t cs := heap_alloc_new w _

def UC (l : List Nat) : List Value := l.map fun n : Nat => Value.int .u32 (n : Int)
theorem UC_length (l : List Nat) : (UC l).length = l.length := by simp [UC]
theorem UC_append (l m : List Nat) : UC (l ++ m) = UC l ++ UC m := by simp [UC]
theorem UC_get (l : List Nat) (k : Nat) (h : k < l.length) : (UC l)[k]? = some (.int .u32 (l[k] : Nat)) := by simp [UC, h]
theorem UC_one (l : List Nat) : ∀ u ∈ UC l, u.oneCell' = true := by
  intro u hu
  obtain ⟨b, _, rfl⟩ := List.mem_map.1 hu
  rfl
section
variable {P : Program} (w : World)
/-- append(v, x...), and where the row lies behind it. -/
theorem run_append_lies2 (base : Nat) (t ty e : TypeId) (i : TypeInfo) (z : Value) (size bytes : Nat) (ht : P.underlying t = some (.slice e)) (hi : P.info? e = some i) (hz : i.zero = some z)
    (hsize : i.size = size) (hby : i.bytes = bytes) (hzs : z.cells.size = size) (hsz : 0 < size)
    (v : Value) (n : Nat) (xs : List Value) (hown : w.ownsRow base e size v n xs)
    (B : Nat) (A : Option Addr) (m c : Nat) (news : List Value) (hr : Lies w B size A m news) (h1 : ∀ u ∈ news, u.oneCell' = true) (hm : 0 < m)
    (h63 : n + m ≤ maxLen) (hbytes : (n + m) * bytes ≤ 140737488355328) (hbase : base ≤ w.heap.size) :
    ∃ v' w', (Builtin.append_ #[t, t] ty #[v, .slice A m c]).run P w = .ok v' w' ∧ w'.ownsRow base e size v' (n + m) (xs ++ news) ∧ w.grownBy w' v.ownBlock ∧ (v'.ownBlock = v.ownBlock ∨ v'.ownBlock = some w.heap.size) := by
  obtain ⟨a, rfl, _, hx⟩ := hr.spot hm
  obtain ⟨v', w', h2, h3, h4, _, h5⟩ := run_append_own_at (P := P) w base t ty e i z size bytes ht hi hz hsize hby hzs hsz v n xs hown a m c news hr.len hx h1 h63 hbytes hbase
  exact ⟨v', w', h2, h3, h4, h5⟩
theorem wpList_app2 {ops : Array Oper} {rest : List Oper} {o : Oper} {a : Act} {Q : Exit → Act → World → Prop} (hgd : o.guard = none) (s x : Operand) (t : TypeId)
    (ho : o.op = .call { callee := .builtin .append, args := #[s, x], argTypes := #[t, t] })
    (base : Nat) (e : TypeId) (i : TypeInfo) (z : Value) (size bytes : Nat) (ht : P.underlying t = some (.slice e)) (hi : P.info? e = some i) (hz : i.zero = some z)
    (hsize : i.size = size) (hby : i.bytes = bytes) (hzs : z.cells.size = size) (hsz : 0 < size)
    (v : Value) (n : Nat) (xs : List Value) (hs : a.eval s = v) (hown : w.ownsRow base e size v n xs)
    (B : Nat) (A : Option Addr) (m c : Nat) (news : List Value) (hx : a.eval x = .slice A m c) (hr : Lies w B size A m news) (h1 : ∀ u ∈ news, u.oneCell' = true) (hm : 0 < m)
    (h63 : n + m ≤ maxLen) (hbytes : (n + m) * bytes ≤ 140737488355328) (hbase : base ≤ w.heap.size)
    (h : ∀ v' w', w'.ownsRow base e size v' (n + m) (xs ++ news) → w.grownBy w' v.ownBlock → (v'.ownBlock = v.ownBlock ∨ v'.ownBlock = some w.heap.size) → wpList P ops Q rest (a.put o.dst v') w') : wpList P ops Q (o :: rest) a w := by
  obtain ⟨v', w', hrun, h2, h3, h4⟩ := run_append_lies2 (P := P) w base t o.type e i z size bytes ht hi hz hsize hby hzs hsz v n xs hown B A m c news hr h1 hm h63 hbytes hbase
  exact Lib.wpList_append_run w hgd s x t t ho v _ hs hx v' w' hrun (h v' w' h2 h3 h4)
end
theorem at_range {w : World} {g : Nat} {t : TypeId} {cs : List Value} (h : At w g t cs.toArray) : w.rangeAt g 0 cs := fun j v hv => by
  rw [Nat.zero_add, h.cell j]
  simpa using hv

/-- A type of several cells. -/
def Str (ty : TypeId) (n : Nat) : Prop := ∃ d, Try.prog.underlying ty = some d ∧ (match d with | .struct _ | .array _ _ => true | _ => false) = true ∧ (Try.prog.info? ty).map (·.size) = some n
theorem strS : Str 27 8 := ⟨_, Try.underlying27, rfl, by kernel_rfl⟩
section
variable {ops : Array Oper} {rest : List Oper} {op : Oper} {a : Act} {w : World} {Q : Exit → Act → World → Prop}
theorem wpList_load_at (ty d : Nat) (x : Operand) (hop : op.dst = some d) (hgd : op.guard = none) (ho : op.op = .load ty x) (g : Nat) (hx : a.eval x = .pointer (some ⟨g, 0, none⟩)) (cs : Array Value) (n : Nat) (hs : Str ty n) (hn : cs.size = n)
    (hc : At w g ty cs) (h : wpList Try.prog ops Q rest (a.put (some d) (.agg cs)) w) : wpList Try.prog ops Q (op :: rest) a w := by
  obtain ⟨ds, h1, h2, h3⟩ := hs
  refine wpList_load_row hgd ty x ho g hx ty cs (0, 0) ds hc h1 (by cases ds <;> first | rfl | cases h2) (by rw [hn]; exact h3) ?_
  rw [hop]
  exact h
theorem grown_setRow (w : World) (g : Nat) (cs : Array Value) : w.grownBy (w.setRow g cs) (some g) :=
  ⟨rfl, rfl, rfl, by simp, fun k _ hk => setRow_other w g k cs (fun e => hk (by rw [e]))⟩
theorem wpList_store_at (ty : Nat) (x y : Operand) (hop : op.dst = none) (hgd : op.guard = none) (ho : op.op = .store ty x y) (g : Nat) (hx : a.eval x = .pointer (some ⟨g, 0, none⟩)) (cs old : Array Value) (n : Nat) (hy : a.eval y = .agg cs)
    (hs : Str ty n) (hn : cs.size = n) (hn2 : old.size = n) (h1 : cs.all (·.oneCell') = true) (hc : At w g ty old)
    (h : ∀ w', At w' g ty cs → w.grownBy w' (some g) → wpList Try.prog ops Q rest (a.put none undef) w') : wpList Try.prog ops Q (op :: rest) a w := by
  obtain ⟨ds, _, _, h3⟩ := hs
  refine wpList_store_row hgd ty x y ho g cs hx hy ty old hc (by rw [hn]; exact h3) (by rw [hn, hn2]) h1 ?_
  rw [hop]
  exact h _ (setRow_heap w g old cs ty (0, 0) hc) (grown_setRow w g cs)
/-- A store into the block that was made just before. -/
theorem wpList_store_new (ty : Nat) (x y : Operand) (hop : op.dst = none) (hgd : op.guard = none) (ho : op.op = .store ty x y) (g : Nat) (w0 : World) (hg : g = w0.heap.size) (hx : a.eval x = .pointer (some ⟨g, 0, none⟩)) (cs old : Array Value) (n : Nat) (hy : a.eval y = .agg cs)
    (hs : Str ty n) (hn : cs.size = n) (hn2 : old.size = n) (h1 : cs.all (·.oneCell') = true) (hw : w = w0.alloc (.cells old ty))
    (h : wpList Try.prog ops Q rest (a.put none undef) (w0.alloc (.cells cs ty))) : wpList Try.prog ops Q (op :: rest) a w := by
  subst hg hw
  obtain ⟨ds, _, _, h3⟩ := hs
  refine wpList_store_row hgd ty x y ho w0.heap.size cs hx hy ty old (heap_alloc_new w0 _) (by rw [hn]; exact h3) (by rw [hn, hn2]) h1 ?_
  rw [hop, World.setRow_alloc_new]
  exact h
/-- A struct among others is loaded. -/
theorem wpList_load_in (ty d : Nat) (x : Operand) (hop : op.dst = some d) (hgd : op.guard = none) (ho : op.op = .load ty x) (g o : Nat) (hx : a.eval x = .pointer (some ⟨g, o, none⟩)) (cs : List Value) (n : Nat) (hs : Str ty n) (hn : cs.length = n)
    (hc : w.rangeAt g o cs) (h : wpList Try.prog ops Q rest (a.put (some d) (.agg cs.toArray)) w) : wpList Try.prog ops Q (op :: rest) a w := by
  obtain ⟨ds, h1, h2, h3⟩ := hs
  refine wpList_load_mid hgd ty x ho g o hx cs ds hc h1 h2 (by rw [hn]; exact h3) ?_
  rw [hop]
  exact h
end
/-- What a function hands back that returns a struct out of a cell, and a value beside it. -/
theorem results_at2 {fn : Func} {p t : Tmp} {ty : TypeId} {tmps : Array Value} {w : World} {g n : Nat} {cs : Array Value} {v : Value} (hp : tmps.getD p undef = .pointer (some ⟨g, 0, none⟩)) (hc : At w g ty cs) (hs : Str ty n) (hn : cs.size = n)
    (h : fn.results = #[.cell p ty, .tmp t]) (hv : tmps.getD t undef = v) : (results fn tmps).run Try.prog w = .ok (.tuple #[.agg cs, v]) w := by
  obtain ⟨ds, h1, h2, h3⟩ := hs
  have hp' : tmps[p]?.getD undef = .pointer (some ⟨g, 0, none⟩) := by simpa using hp
  have hv' : tmps[t]?.getD undef = v := by simpa using hv
  have hl := run_loadVar_row w g ty ty cs (0, 0) ds hc h1 (by cases ds <;> first | rfl | cases h2) (by rw [hn]; exact h3)
  simp [results, h, hp', hv', asAddr, hl]
section
variable {op : Oper} {a : Act} {w : World} {K : Act → World → Prop} {Q : Exit → Act → World → Prop}
theorem wp_store_at (ty : Nat) (x y : Operand) (hop : op.dst = none) (ho : op.op = .store ty x y) (g : Nat) (hx : a.eval x = .pointer (some ⟨g, 0, none⟩)) (cs old : Array Value) (n : Nat) (hy : a.eval y = .agg cs)
    (hs : Str ty n) (hn : cs.size = n) (hn2 : old.size = n) (h1 : cs.all (·.oneCell') = true) (hc : At w g ty old)
    (h : ∀ w', At w' g ty cs → w.grownBy w' (some g) → K (a.put none undef) w') : op.wp Try.prog a w K Q := by
  obtain ⟨ds, _, _, h3⟩ := hs
  refine wp_store_row ty x y ho g cs hx hy ty old hc (by rw [hn]; exact h3) (by rw [hn, hn2]) h1 ?_
  rw [hop]
  exact h _ (setRow_heap w g old cs ty (0, 0) hc) (grown_setRow w g cs)
theorem exec_load_at (ty : Nat) (x : Operand) (ho : op.op = .load ty x) (g : Nat) (hx : a.eval x = .pointer (some ⟨g, 0, none⟩)) (cs : Array Value) (n : Nat) (hs : Str ty n) (hn : cs.size = n) (hc : At w g ty cs) :
    (execOp a.eval op).run Try.prog w = .ok (.value (.agg cs)) w := by
  obtain ⟨ds, h1, h2, h3⟩ := hs
  unfold execOp
  simp only [ho, hx, Instr.loadAt, Instr.sureAddr, Sem.run_bind, Sem.run_pure, Result.andThen_ok, run_loadVar_row w g ty ty cs (0, 0) ds hc h1 (by cases ds <;> first | rfl | cases h2) (by rw [hn]; exact h3)]
theorem exec_load_in (ty : Nat) (x : Operand) (ho : op.op = .load ty x) (g o : Nat) (hx : a.eval x = .pointer (some ⟨g, o, none⟩)) (cs : List Value) (n : Nat) (hs : Str ty n) (hn : cs.length = n) (hc : w.rangeAt g o cs) :
    (execOp a.eval op).run Try.prog w = .ok (.value (.agg cs.toArray)) w := by
  obtain ⟨ds, h1, h2, h3⟩ := hs
  unfold execOp
  simp only [ho, hx, Instr.loadAt, Instr.sureAddr, Sem.run_bind, Sem.run_pure, Result.andThen_ok, run_loadVar_mid w g o ty cs ds hc h1 (by cases ds <;> first | rfl | cases h2) (by rw [hn]; exact h3)]
end
theorem own_cells {w : World} {base : Nat} {e : TypeId} {size : Nat} {v : Value} {n : Nat} {xs : List Value} (h : w.ownsRow base e size v n xs) {g : Nat} (hg : v.ownBlock = some g) : base ≤ g ∧ ∃ cur, w.heap[g]? = some (.cells cur e (0, 0)) := by
  rcases h.2 with ⟨rfl, _⟩ | ⟨g', cap, cur, hv, hbg, hg', _⟩
  · cases hg
  · rw [hv] at hg
    injection hg with hg
    subst hg
    exact ⟨hbg, cur, hg'⟩
/-- A block of cells of one type is not the row of another. -/
theorem own_ne {w : World} {base : Nat} {e : TypeId} {size : Nat} {v : Value} {n : Nat} {xs : List Value} (h : w.ownsRow base e size v n xs) {g : Nat} {t : TypeId} {cs : Array Value} (ha : At w g t cs) (ht : t ≠ e) : some g ≠ v.ownBlock := by
  intro hg
  obtain ⟨_, cur, hc⟩ := own_cells h hg.symm
  rw [show w.heap[g]? = some (.cells cs t (0, 0)) from ha] at hc
  injection hc with hc
  injection hc with _ hc
  exact ht hc
theorem own_map {w : World} {base : Nat} {e : TypeId} {size : Nat} {v : Value} {n : Nat} {xs : List Value} (h : w.ownsRow base e size v n xs) {b : Nat} {es : Array MapEntry} {c : Nat} (hb : w.heap[b]? = some (.map es c)) : some b ≠ v.ownBlock := by
  intro hg
  obtain ⟨_, cur, hc⟩ := own_cells h hg.symm
  rw [hb] at hc
  cases hc
section
variable {X Y : Nat → Prop} {w w' : World} {size n : Nat} {A : Option Addr} {xs : List Value}
/-- A slice that reads as a list of cells, in a block outside X, wherever in it. -/
structure La (X : Nat → Prop) (w : World) (size : Nat) (A : Option Addr) (n : Nat) (xs : List Value) : Prop where
  len : xs.length = n * size
  spot : 0 < n → ∃ a, A = some a ∧ ¬ X a.block ∧ a.block < w.heap.size ∧ ∀ j u, xs[j]? = some u → w.cell? (a.add j) = some u
theorem La.kept (h : La X w size A n xs) (hm : Mod X w w') : La X w' size A n xs := by
  refine ⟨h.len, fun hn => ?_⟩
  obtain ⟨a, ha, hx, hb, hr⟩ := h.spot hn
  refine ⟨a, ha, hx, Nat.lt_of_lt_of_le hb hm.size, fun j u hu => ?_⟩
  rw [World.cell?_of_block (w := w) (a := a.add j) (by rw [add_block]; exact hm.block _ hb hx)]
  exact hr j u hu
theorem La.mono (h : La X w size A n xs) (hY : ∀ k, k < w.heap.size → Y k → X k) : La Y w size A n xs := by
  refine ⟨h.len, fun hn => ?_⟩
  obtain ⟨a, ha, hx, hb, hr⟩ := h.spot hn
  exact ⟨a, ha, fun hy => hx (hY _ hb hy), hb, hr⟩
theorem La.below (h : La X w size A n xs) (hb : Below w.heap.size w w') : La X w' size A n xs := h.kept (Mod.of_below hb X)
theorem La.alloc (h : La X w size A n xs) (o : Obj) : La X (w.alloc o) size A n xs := h.kept ((Mod.refl X w).alloc o)
theorem La.empty : La X w size A 0 [] := ⟨by simp, fun h => absurd h (Nat.lt_irrefl 0)⟩
theorem Lz.la (h : Lz X w size A n xs) : La X w size A n xs := by
  refine ⟨h.len, fun hn => ?_⟩
  obtain ⟨b, o, ha, hx, hb, hr⟩ := h.spot hn
  exact ⟨_, ha, hx, hb, fun j u hu => by rw [add_plain]; exact hr j u hu⟩
theorem La.lies (h : La X w size A n xs) : Lies w w.heap.size size A n xs := by
  refine ⟨h.len, fun hn => ?_⟩
  obtain ⟨a, ha, _, hb, hr⟩ := h.spot hn
  exact ⟨a, ha, hb, hr⟩
theorem Lies.la (h : Lies w w.heap.size size A n xs) (hX : ∀ a, A = some a → ¬ X a.block) : La X w size A n xs := by
  refine ⟨h.len, fun hn => ?_⟩
  obtain ⟨a, ha, hb, hr⟩ := h.spot hn
  exact ⟨a, ha, hX a ha, hb, hr⟩
theorem La.nil_of_none (h : La X w size none n xs) : n = 0 ∧ xs = [] := by
  by_cases hn : n = 0
  · subst hn
    exact ⟨rfl, List.eq_nil_of_length_eq_zero (by rw [h.len]; simp)⟩
  · obtain ⟨a, ha, _⟩ := h.spot (by omega)
    cases ha
theorem La.cells {a : Addr} (h : La X w size (some a) n xs) : ∀ j u, xs[j]? = some u → w.cell? (a.add j) = some u := by
  intro j u hu
  by_cases hn : n = 0
  · subst hn
    have : xs = [] := List.eq_nil_of_length_eq_zero (by rw [h.len]; simp)
    subst this
    simp at hu
  · obtain ⟨a', ha, _, _, hr⟩ := h.spot (by omega)
    injection ha with ha
    subst ha
    exact hr j u hu
end
end Go.Proofs.Ytjbohnnknfcjeaa
