/-
  Walks: readEntry up to its first loop; the laws that it leans on.
  Conditions: readers over at most 10000 bytes.
-/
import Derived.Test.YtihlmjknhgnjpaaDoorT4
import Derived.Test.YtihlmjknhgnjpaaDoorLit
namespace Go.Proofs.YtihlmjknhgnjpaaDoor
open Go.RowKit
set_option maxRecDepth 8000

theorem im_info : (Tryd.prog.info? 51).map (fun i => (i.zero, i.size, i.bytes)) = some (some (.agg Tryd.zeroCells51), 225, 232) := by kernel_rfl
theorem im_info2 : (Tryd.prog.info? 51).map (fun i => (i.zero, i.size)) = some (some (.agg Tryd.zeroCells51), 225) := by kernel_rfl
theorem zz_one : (#[.int .u64 0, .int .i64 0, .int .u64 0, .int .u64 0, .int .u64 0, .int .u64 0, .int .u64 0, .int .u32 0, .int .u32 0, .string ⟨#[]⟩, .bool false, .slice none 0 0, .slice none 0 0] : Array Value).all (·.oneCell') = true :=
  all_oneCell_toArray (cs := [.int .u64 0, .int .i64 0, .int .u64 0, .int .u64 0, .int .u64 0, .int .u64 0, .int .u64 0, .int .u32 0, .int .u32 0, .string ⟨#[]⟩, .bool false, .slice none 0 0, .slice none 0 0]) (by intro v hv; simp only [List.mem_cons, List.not_mem_nil, or_false] at hv; rcases hv with rfl | rfl | rfl | rfl | rfl | rfl | rfl | rfl | rfl | rfl | rfl | rfl | rfl <;> rfl)

/-- Within readEntry, which began in world w0: the box of the result, the reader. -/
structure RES (w0 : World) (g : Nat) (cs : Array Value) (s : RS) (w : World) : Prop where
  box : At w w0.heap.size 29 cs
  rdr : Rdr w g s.1 s.2
  low : g < w0.heap.size
  frame : w0.grownBy w (some g)
section
variable {w0 w w' : World} {g : Nat} {cs cs' : Array Value} {s s' : RS}
theorem RES.call (h : RES w0 g cs s w) (hr : Rdr w' g s'.1 s'.2) (hg : w.grownBy w' (some g)) : RES w0 g cs s' w' :=
  ⟨h.box.grown hg (by intro e; injection e with e; have := h.low; omega), hr, h.low, h.frame.trans hg⟩
theorem RES.below (h : RES w0 g cs s w) (hb : Below w.heap.size w w') : RES w0 g cs s w' := h.call (h.rdr.below hb) (grown_below hb _)
theorem RES.alloc (h : RES w0 g cs s w) (o : Obj) : RES w0 g cs s (w.alloc o) := h.below ((Below.refl _ _).alloc (Nat.le_refl _) o)
/-- The box alone has turned. -/
theorem RES.turn (h : RES w0 g cs s w) (hg : w.grownBy w' (some w0.heap.size)) (ha : At w' w0.heap.size 29 cs') : RES w0 g cs' s w' := by
  have hl := h.low
  refine ⟨ha, h.rdr.kept (fun k hk => hg.block k (by have := h.rdr.lt; omega) (by intro e; injection e with e; omega)), h.low, ⟨hg.os.trans h.frame.os, hg.tape.trans h.frame.tape, hg.output.trans h.frame.output, Nat.le_trans h.frame.size hg.size, fun k hk hne => ?_⟩⟩
  rw [hg.block k (by have := h.frame.size; omega) (by intro e; injection e with e; omega)]
  exact h.frame.block k hk hne
theorem RES.set (h : RES w0 g cs s w) (j : Nat) (u : Value) : RES w0 g (cs.setIfInBounds j u) s (w.setCell ⟨w0.heap.size, j, none⟩ u) :=
  h.turn (grown_set w w0.heap.size j u) (h.box.set j u)
/-- Rows above have turned. -/
theorem RES.rows {v : Value} (h : RES w0 g cs s w) (hg : w.grownBy w' v.ownBlock) (hv : ∀ k, v.ownBlock = some k → w0.heap.size < k) : RES w0 g cs s w' := by
  have hl := h.low
  have ne : ∀ k, k ≤ w0.heap.size → some k ≠ v.ownBlock := fun k hk e => by have := hv k e.symm; omega
  refine ⟨h.box.grown hg (ne _ (Nat.le_refl _)), h.rdr.kept (fun k hk => hg.block k (by have := h.rdr.lt; omega) (ne k (by omega))), h.low, ⟨hg.os.trans h.frame.os, hg.tape.trans h.frame.tape, hg.output.trans h.frame.output, Nat.le_trans h.frame.size hg.size, fun k hk hne => ?_⟩⟩
  rw [hg.block k (by have := h.frame.size; omega) (ne k (by omega))]
  exact h.frame.block k hk hne
end
/-- A record stored into an entry. -/
theorem wpList_store_rc {ops : Array Oper} {rest : List Oper} {op : Oper} {a : Act} {w : World} {Q : Exit → Act → World → Prop} (x y : Operand) (hop : op.dst = none) (hgd : op.guard = none) (ho : op.op = .store 25 x y) (g : Nat) (hx : a.eval x = .pointer (some ⟨g, 5, none⟩)) (r : Rc) (hy : a.eval y = .agg #[.int .u64 (r.id : Nat), .int .u64 (r.key : Nat), .int .u32 (r.x : Nat), .int .u32 (r.y : Nat), .string (strOf r.val), .bool r.ghost])
    (c0 c1 c2 c3 c4 c5 c6 c7 c8 c9 c10 c11 c12 : Value) (hc : At w g 29 #[c0, c1, c2, c3, c4, c5, c6, c7, c8, c9, c10, c11, c12])
    (h : ∀ w', At w' g 29 #[c0, c1, c2, c3, c4, .int .u64 (r.id : Nat), .int .u64 (r.key : Nat), .int .u32 (r.x : Nat), .int .u32 (r.y : Nat), .string (strOf r.val), .bool r.ghost, c11, c12] → w.grownBy w' (some g) → wpList Tryd.prog ops Q rest (a.put none undef) w') : wpList Tryd.prog ops Q (op :: rest) a w := by
  obtain ⟨ds, _, _, h3⟩ := str25
  refine wpList_store_mid hgd 25 x y ho g 5 #[.int .u64 (r.id : Nat), .int .u64 (r.key : Nat), .int .u32 (r.x : Nat), .int .u32 (r.y : Nat), .string (strOf r.val), .bool r.ghost] hx hy (fun j hj => ⟨?_, hc.frozen _⟩) h3 (rc_one r) ?_
  · rw [hc.cell]
    have hj : j < 6 := hj
    match j, hj with
    | 0, _ => rfl
    | 1, _ => rfl
    | 2, _ => rfl
    | 3, _ => rfl
    | 4, _ => rfl
    | 5, _ => rfl
  · rw [hop]
    exact h _ (setCells_row g 29 (rcL r) 5 [c0, c1, c2, c3, c4, c5, c6, c7, c8, c9, c10, c11, c12] w hc (by simp [rcL])) (grown_setCells w g 5 _)

def ReNo (w : World) (g : Nat) (e : Ending) (w' : World) : Prop := e = .returned (.tuple #[.agg #[.int .u64 0, .int .i64 0, .int .u64 0, .int .u64 0, .int .u64 0, .int .u64 0, .int .u64 0, .int .u32 0, .int .u32 0, .string ⟨#[]⟩, .bool false, .slice none 0 0, .slice none 0 0], .bool false]) ∧ w.grownBy w' (some g)
def ReEnd (w : World) (g : Nat) (s : RS) (e : Ending) (w' : World) : Prop :=
  ∃ PA np pc QA na qc, e = .returned (.tuple #[.agg #[.int .u64 ((reEnt s).lsn : Nat), .int .i64 (reEnt s).kind, .int .u64 ((reEnt s).txn : Nat), .int .u64 ((reEnt s).prev : Nat), .int .u64 ((reEnt s).next : Nat), .int .u64 ((reEnt s).rc.id : Nat), .int .u64 ((reEnt s).rc.key : Nat), .int .u32 ((reEnt s).rc.x : Nat), .int .u32 ((reEnt s).rc.y : Nat), .string (strOf (reEnt s).rc.val), .bool (reEnt s).rc.ghost, .slice PA np pc, .slice QA na qc], .bool (!(e10 s).2)]) ∧ EL w' w'.heap.size (reEnt s) PA np QA na ∧ (∀ a, PA = some a ∨ QA = some a → w.heap.size < a.block) ∧ Rdr w' g (e10 s).1 (e10 s).2 ∧ w.grownBy w' (some g)
def Re (w : World) (g : Nat) (s : RS) (e : Ending) (w' : World) : Prop := if (rrOk (e5 s) && okK (eNp s) (e7 s)) = true then ReEnd w g s e w' else ReNo w g e w'
end Go.Proofs.YtihlmjknhgnjpaaDoor
