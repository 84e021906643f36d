/-
  Walks: ReadRec.
  Conditions: readers over at most 10000 bytes.
-/
import Derived.Test.YtpffnjnncgmgnaaT1
import Derived.Test.YtpffnjnncgmgnaaS0
namespace Go.Proofs.Ytpffnjnncgmgnaa
open Go.RowKit
set_option maxRecDepth 8000

/-- Within ReadRec, which began in world w0: its four boxes, and the reader. -/
structure RRS (w0 : World) (g : Nat) (cs : Array Value) (bv bb : Value) (s : RS) (w : World) : Prop where
  r : At w w0.heap.size 83 #[.pointer (some ⟨g, 0, none⟩)]
  rcd : At w (w0.heap.size + 1) 52 cs
  ok : At w (w0.heap.size + 2) 4 #[.bool false]
  bef : At w (w0.heap.size + 3) 99 #[bv, bb]
  rdr : Rdr w g s.1 s.2
  low : g < w0.heap.size
  frame : w0.grownBy w (some g)
section
variable {w0 w w' : World} {g : Nat} {cs : Array Value} {bv bb : Value} {s s' : RS}
theorem RRS.call (h : RRS w0 g cs bv bb s w) (hr : Rdr w' g s'.1 s'.2) (hg : w.grownBy w' (some g)) : RRS w0 g cs bv bb s' w' := by
  have hl := h.low
  have ne : ∀ k, w0.heap.size ≤ k → some k ≠ some g := fun k hk e => by injection e with e; omega
  exact ⟨h.r.grown hg (ne _ (Nat.le_refl _)), h.rcd.grown hg (ne _ (by omega)), h.ok.grown hg (ne _ (by omega)), h.bef.grown hg (ne _ (by omega)), hr, h.low, h.frame.trans hg⟩
theorem RRS.set (h : RRS w0 g cs bv bb s w) (j : Nat) (u : Value) : RRS w0 g (cs.setIfInBounds j u) bv bb s (w.setCell ⟨w0.heap.size + 1, j, none⟩ u) := by
  have hl := h.low
  refine ⟨h.r.other (by simp) _, h.rcd.set j u, h.ok.other (by simp) _, h.bef.other (by simp) _, h.rdr.kept (fun k hk => Below.heap_setCell w _ u k (by simp; omega)), h.low, ?_⟩
  refine ⟨h.frame.os, h.frame.tape, h.frame.output, by simpa [World.setCell] using h.frame.size, fun k hk hne => ?_⟩
  rw [Below.heap_setCell w _ u k (by simp; omega)]
  exact h.frame.block k hk hne
end
section
variable {P : Program} {ops : Array Oper} {Q : Exit → Act → World → Prop} {S : World → Prop}
/-- The region comes to its end, in no other way. -/
def Only (Q : Exit → Act → World → Prop) : Exit → Act → World → Prop
  | .normal, a, w => Q .normal a w
  | _, _, _ => False
theorem only_done {a : Act} {w : World} (h : Q .normal a w) : Only Q .normal a w := h
theorem only_up : ∀ (e : Exit) (a : Act) (w : World), Only Q e a w → Q e a w
  | .normal, _, _, h => h
theorem region_only {id : Nat} {a : Act} {w : World} (hm : P.follows .mixedOrders = true) (hS : S w.drew)
    (h : S w.drew → wpAnyH P .any ops (Only Q) S ops.size (Array.replicate ops.size false) a w.drew) : (Code.region id ops true).wp P Q a w :=
  wp_mono (wp_region_held_drew hm hS h) only_up
end
section
variable {op : Oper} {a : Act} {w : World} {K : Act → World → Prop} {Q : Exit → Act → World → Prop}
theorem wp_store_at (ty : Nat) (x y : Operand) (hop : op.dst = none) (ho : op.op = .store ty x y) (g : Nat) (hx : a.eval x = .pointer (some ⟨g, 0, none⟩)) (cs old : Array Value) (n : Nat) (hy : a.eval y = .agg cs)
    (hs : Str ty n) (hn : cs.size = n) (hn2 : old.size = n) (h1 : cs.all (·.oneCell') = true) (hc : At w g ty old)
    (h : ∀ w', At w' g ty cs → w.grownBy w' (some g) → K (a.put none undef) w') : op.wp Try.prog a w K Q := by
  obtain ⟨ds, _, _, h3⟩ := hs
  refine wp_store_row ty x y ho g cs hx hy ty old hc (by rw [hn]; exact h3) (by rw [hn, hn2]) h1 ?_
  rw [hop]
  exact h _ (setRow_heap w g old cs ty (0, 0) hc) (grown_setRow w g cs)
theorem exec_load_at (ty : Nat) (x : Operand) (ho : op.op = .load ty x) (g : Nat) (hx : a.eval x = .pointer (some ⟨g, 0, none⟩)) (cs : Array Value) (n : Nat) (hs : Str ty n) (hn : cs.size = n) (hc : At w g ty cs) :
    (execOp a.eval op).run Try.prog w = .ok (.value (.agg cs)) w := by
  obtain ⟨ds, h1, h2, h3⟩ := hs
  unfold execOp
  simp only [ho, hx, Instr.loadAt, Instr.sureAddr, Sem.run_bind, Sem.run_pure, Result.andThen_ok, run_loadVar_row w g ty ty cs (0, 0) ds hc h1 (by cases ds <;> first | rfl | cases h2) (by rw [hn]; exact h3)]
end
/-- What ReadRec hands back: a record and a bool, each out of its box. -/
theorem results_rr {fn : Func} {p t : Tmp} {tmps : Array Value} {w : World} {g k : Nat} {cs : Array Value} {b : Bool} (hp : tmps.getD p undef = .pointer (some ⟨g, 0, none⟩)) (ht : tmps.getD t undef = .pointer (some ⟨k, 0, none⟩)) (hc : At w g 52 cs) (hn : cs.size = 6) (hk : At w k 4 #[.bool b])
    (h : fn.results = #[.cell p 52, .cell t 4]) : (results fn tmps).run Try.prog w = .ok (.tuple #[.agg cs, .bool b]) w := by
  obtain ⟨ds, h1, h2, h3⟩ := str25
  have hp' : tmps[p]?.getD undef = .pointer (some ⟨g, 0, none⟩) := by simpa using hp
  have ht' : tmps[t]?.getD undef = .pointer (some ⟨k, 0, none⟩) := by simpa using ht
  have hl := run_loadVar_row w g 52 52 cs (0, 0) ds hc h1 (by cases ds <;> first | rfl | cases h2) (by rw [hn]; exact h3)
  have hc4 : w.cell? ⟨k, 0, none⟩ = some (.bool b) := hk.cell 0
  have hl4 : (loadVar 4 ⟨k, 0, none⟩).run Try.prog w = .ok (.bool b) w := by simp [loadVar, isAgg, go_sem, hc4]
  simp [results, h, hp', ht', asAddr, hl, hl4]
/-- The record was stored back, as it was. -/
theorem RRS.same {w0 y y7 : World} {g : Nat} {cs : Array Value} {bv bb : Value} {s : RS} (h : RRS w0 g cs bv bb s y) (h7 : At y7 (w0.heap.size + 1) 52 cs) (g7 : y.drew.grownBy y7 (some (w0.heap.size + 1))) : RRS w0 g cs bv bb s y7 := by
  have hl := h.low
  have ne : ∀ k, k ≠ w0.heap.size + 1 → some k ≠ some (w0.heap.size + 1) := fun k hk e => by injection e with e; exact hk e
  have hs : ∀ (k : Nat) {t : TypeId} {c : Array Value}, k ≠ w0.heap.size + 1 → At y k t c → At y7 k t c := fun k _ _ hk ha => (show At y.drew k _ _ from ha).grown g7 (ne k hk)
  refine ⟨hs _ (by omega) h.r, h7, hs _ (by omega) h.ok, hs _ (by omega) h.bef, h.rdr.kept (fun k hk => g7.block k (by have := h.rdr.lt; show k < y.heap.size; omega) (ne k (by omega))), h.low, ?_⟩
  refine ⟨g7.os.trans h.frame.os, g7.tape.trans h.frame.tape, g7.output.trans h.frame.output, Nat.le_trans h.frame.size g7.size, fun k hk hne => ?_⟩
  rw [g7.block k (by have := h.frame.size; show k < y.heap.size; omega) (ne k (by omega))]
  exact h.frame.block k hk hne
/-- The same with the answer laid. -/
structure RRF (w0 : World) (g : Nat) (cs : Array Value) (bv bb : Value) (b : Bool) (s : RS) (w : World) : Prop where
  r : At w w0.heap.size 83 #[.pointer (some ⟨g, 0, none⟩)]
  rcd : At w (w0.heap.size + 1) 52 cs
  ok : At w (w0.heap.size + 2) 4 #[.bool b]
  bef : At w (w0.heap.size + 3) 99 #[bv, bb]
  rdr : Rdr w g s.1 s.2
  low : g < w0.heap.size
  frame : w0.grownBy w (some g)
theorem RRS.setOk {w0 w : World} {g : Nat} {cs : Array Value} {bv bb : Value} {s : RS} (h : RRS w0 g cs bv bb s w) (b : Bool) : RRF w0 g cs bv bb b s (w.setCell ⟨w0.heap.size + 1 + 1, 0, none⟩ (.bool b)) := by
  have hl := h.low
  refine ⟨h.r.other (by simp; omega) _, h.rcd.other (by simp) _, h.ok.set 0 _, h.bef.other (by simp) _, h.rdr.kept (fun k hk => Below.heap_setCell w _ _ k (by simp; omega)), h.low, ?_⟩
  refine ⟨h.frame.os, h.frame.tape, h.frame.output, by simpa [World.setCell] using h.frame.size, fun k hk hne => ?_⟩
  rw [Below.heap_setCell w _ _ k (by simp; omega)]
  exact h.frame.block k hk hne
theorem u32_nat {n : Nat} (h : n < 4294967296) : IntKind.u32.wrap (n : Int) = (n : Int) := by rw [IntKind.wrap_u32]; omega

/-- A record came back, and the reader stands behind it. -/
def RrYes (w : World) (g : Nat) (s : RS) (e : Ending) (w' : World) : Prop :=
  e = .returned (.tuple #[.agg #[.int .u64 ((rrRec s).id : Nat), .int .u64 ((rrRec s).key : Nat), .int .u32 ((rrRec s).x : Nat), .int .u32 ((rrRec s).y : Nat), .string (strOf (rrRec s).val), .bool (rrRec s).ghost], .bool true]) ∧ Rdr w' g (q6 s).1 (q6 s).2 ∧ w.grownBy w' (some g)
/-- None came back, and the reader stands where it stood. -/
def RrNo (w : World) (g : Nat) (s : RS) (e : Ending) (w' : World) : Prop :=
  e = .returned (.tuple #[.agg #[.int .u64 (zrc.id : Nat), .int .u64 (zrc.key : Nat), .int .u32 (zrc.x : Nat), .int .u32 (zrc.y : Nat), .string (strOf zrc.val), .bool zrc.ghost], .bool false]) ∧ Rdr w' g s.1 s.2 ∧ w.grownBy w' (some g)

def Rr (w : World) (g : Nat) (s : RS) (e : Ending) (w' : World) : Prop := if rrOk s = true then RrYes w g s e w' else RrNo w g s e w'

set_option maxHeartbeats 3200000 in
theorem readRec_any (g : Nat) (s : RS) (w : World) (hr : Rdr w g s.1 s.2) (hl : s.1.length ≤ 10000) :
    Calls Try.prog 52 #[.pointer (some ⟨g, 0, none⟩)] w (Rr w g s) := by
  have hmf : ∀ (fn : Fn) (first cap : Array Value) (w : World), (Instr.makeFunc fn first cap).run Try.prog w = .ok (.func fn first cap) w := fun _ _ _ _ => rfl
  have hgl := hr.lt
  obtain ⟨A, c, hat, hli, hcc, hcm⟩ := id hr
  have RX : Hid (At (((w.alloc (.cells #[.pointer (some ⟨g, 0, none⟩)] 83)).alloc (.cells #[.int .u64 0, .int .u64 0, .int .u32 0, .int .u32 0, .string ⟨#[]⟩, .bool false] 52)).alloc (.cells #[.bool false] 4)) g 99 #[.slice A s.1.length c, .bool s.2]) := Lib.hid (((At.alloc (show At w g 99 _ from hat) _).alloc _).alloc _)
  have R0 : Hid (RRS w g #[.int .u64 0, .int .u64 0, .int .u32 0, .int .u32 0, .string ⟨#[]⟩, .bool false] (.slice A s.1.length c) (.bool s.2) s ((((w.alloc (.cells #[.pointer (some ⟨g, 0, none⟩)] 83)).alloc (.cells #[.int .u64 0, .int .u64 0, .int .u32 0, .int .u32 0, .string ⟨#[]⟩, .bool false] 52)).alloc (.cells #[.bool false] 4)).alloc (.cells #[.slice A s.1.length c, .bool s.2] 99))) := by
    have hb : Below w.heap.size w ((((w.alloc (.cells #[.pointer (some ⟨g, 0, none⟩)] 83)).alloc (.cells #[.int .u64 0, .int .u64 0, .int .u32 0, .int .u32 0, .string ⟨#[]⟩, .bool false] 52)).alloc (.cells #[.bool false] 4)).alloc (.cells #[.slice A s.1.length c, .bool s.2] 99)) :=
      ((((Below.refl _ _).alloc (Nat.le_refl _) _).alloc (by simp) _).alloc (by simp; omega) _).alloc (by simp; omega) _
    refine ⟨(((At.new w 83 _).alloc _).alloc _).alloc _, ?_, ?_, ?_, hr.below hb, hgl, grown_below hb _⟩
    · have := ((At.new (w.alloc (.cells #[.pointer (some ⟨g, 0, none⟩)] 83)) 52 #[.int .u64 0, .int .u64 0, .int .u32 0, .int .u32 0, .string ⟨#[]⟩, .bool false]).alloc (.cells #[.bool false] 4)).alloc (.cells #[.slice A s.1.length c, .bool s.2] 99)
      simpa using this
    · have := (At.new ((w.alloc (.cells #[.pointer (some ⟨g, 0, none⟩)] 83)).alloc (.cells #[.int .u64 0, .int .u64 0, .int .u32 0, .int .u32 0, .string ⟨#[]⟩, .bool false] 52)) 4 #[.bool false]).alloc (.cells #[.slice A s.1.length c, .bool s.2] 99)
      simpa using this
    · have := At.new (((w.alloc (.cells #[.pointer (some ⟨g, 0, none⟩)] 83)).alloc (.cells #[.int .u64 0, .int .u64 0, .int .u32 0, .int .u32 0, .string ⟨#[]⟩, .bool false] 52)).alloc (.cells #[.bool false] 4)) 99 #[.slice A s.1.length c, .bool s.2]
      simpa using this
  have HAT := Lib.hid hat
  have HLI := Lib.hid hli
  clear hat hli
  go_enter_defers Try.func52, Try.ntmps52
  go_wp2_with (first
    | refine wpList_load_at 99 11 (.tmp 10) rfl rfl rfl g rfl _ 2 str69 rfl RX.out ?_
    | refine wpList_store_new 99 (.tmp 4) (.tmp 11) rfl rfl rfl _ (((w.alloc (.cells #[.pointer (some ⟨g, 0, none⟩)] 83)).alloc (.cells #[.int .u64 0, .int .u64 0, .int .u32 0, .int .u32 0, .string ⟨#[]⟩, .bool false] 52)).alloc (.cells #[.bool false] 4)) (by simp) rfl #[.slice A s.1.length c, .bool s.2] _ 2 rfl str69 rfl rfl (pair_one _ _ rfl rfl) rfl ?_)
  generalize hW : (((w.alloc (.cells #[.pointer (some ⟨g, 0, none⟩)] 83)).alloc (.cells #[.int .u64 0, .int .u64 0, .int .u32 0, .int .u32 0, .string ⟨#[]⟩, .bool false] 52)).alloc (.cells #[.bool false] 4)).alloc (.cells #[.slice A s.1.length c, .bool s.2] 99) = w4 at *
  clear hW RX
  have hx := u32_nat (vl_lt4 (q2 s))
  have hy := u32_nat (vl_lt4 (q3 s))
  have gg : ((vl 1 (q4 s) : Int) == 1) = (vl 1 (q4 s) == 1) := nat_beq _ 1
  have N1 := Lib.hid (Nat.le_trans (nx_len 8 s) hl)
  have N2 := Lib.hid (Nat.le_trans (nx_len 8 (q1 s)) N1.out)
  have N3 := Lib.hid (Nat.le_trans (nx_len 4 (q2 s)) N2.out)
  have N4 := Lib.hid (Nat.le_trans (nx_len 4 (q3 s)) N3.out)
  have N5 := Lib.hid (Nat.le_trans (nx_len 1 (q4 s)) N4.out)
  have cr : w4.cell? ⟨w.heap.size, 0, none⟩ = some (.pointer (some ⟨g, 0, none⟩)) := R0.out.r.cell 0
  go_wp2_with fail
  refine (num_st g 8 s _ R0.out.rdr hl).mono ?_
  rintro e x1 ⟨rfl, hrd, hgr⟩
  have T := R0.out.call hrd hgr
  have cc : x1.cell? ⟨w.heap.size + 1, 0, none⟩ = some (.int .u64 0) := T.rcd.cell 0
  have ff : x1.frozen? ⟨w.heap.size + 1, 0, none⟩ = false := T.rcd.frozen 0
  have R1 : Hid (RRS w g #[.int .u64 (vl 8 s : Int), .int .u64 0, .int .u32 0, .int .u32 0, .string ⟨#[]⟩, .bool false] (.slice A s.1.length c) (.bool s.2) (q1 s) (x1.setCell ⟨w.heap.size + 1, 0, none⟩ (.int .u64 (vl 8 s : Int)))) := Lib.hid (T.set 0 _)
  have cr1 : (x1.setCell ⟨w.heap.size + 1, 0, none⟩ (.int .u64 (vl 8 s : Int))).cell? ⟨w.heap.size, 0, none⟩ = some (.pointer (some ⟨g, 0, none⟩)) := R1.out.r.cell 0
  clear T hrd hgr R0
  go_wp2_with fail
  clear cc ff cr1
  refine (num_st g 8 (q1 s) _ R1.out.rdr N1.out).mono ?_
  rintro e x2 ⟨rfl, hrd, hgr⟩
  have T := R1.out.call hrd hgr
  have cc : x2.cell? ⟨w.heap.size + 1, 1, none⟩ = some (.int .u64 0) := T.rcd.cell 1
  have ff : x2.frozen? ⟨w.heap.size + 1, 1, none⟩ = false := T.rcd.frozen 1
  have R2 : Hid (RRS w g #[.int .u64 (vl 8 s : Int), .int .u64 (vl 8 (q1 s) : Int), .int .u32 0, .int .u32 0, .string ⟨#[]⟩, .bool false] (.slice A s.1.length c) (.bool s.2) (q2 s) (x2.setCell ⟨w.heap.size + 1, 1, none⟩ (.int .u64 (vl 8 (q1 s) : Int)))) := Lib.hid (T.set 1 _)
  have cr2 : (x2.setCell ⟨w.heap.size + 1, 1, none⟩ (.int .u64 (vl 8 (q1 s) : Int))).cell? ⟨w.heap.size, 0, none⟩ = some (.pointer (some ⟨g, 0, none⟩)) := R2.out.r.cell 0
  clear T hrd hgr R1
  go_wp2_with fail
  clear cc ff cr2
  refine (num_st g 4 (q2 s) _ R2.out.rdr N2.out).mono ?_
  rintro e x3 ⟨rfl, hrd, hgr⟩
  have T := R2.out.call hrd hgr
  have cc : x3.cell? ⟨w.heap.size + 1, 2, none⟩ = some (.int .u32 0) := T.rcd.cell 2
  have ff : x3.frozen? ⟨w.heap.size + 1, 2, none⟩ = false := T.rcd.frozen 2
  have R3 : Hid (RRS w g #[.int .u64 (vl 8 s : Int), .int .u64 (vl 8 (q1 s) : Int), .int .u32 (vl 4 (q2 s) : Int), .int .u32 0, .string ⟨#[]⟩, .bool false] (.slice A s.1.length c) (.bool s.2) (q3 s) (x3.setCell ⟨w.heap.size + 1, 2, none⟩ (.int .u32 (vl 4 (q2 s) : Int)))) := Lib.hid (T.set 2 _)
  have cr3 : (x3.setCell ⟨w.heap.size + 1, 2, none⟩ (.int .u32 (vl 4 (q2 s) : Int))).cell? ⟨w.heap.size, 0, none⟩ = some (.pointer (some ⟨g, 0, none⟩)) := R3.out.r.cell 0
  clear T hrd hgr R2
  go_wp2_with fail
  clear cc ff cr3
  refine (num_st g 4 (q3 s) _ R3.out.rdr N3.out).mono ?_
  rintro e x4 ⟨rfl, hrd, hgr⟩
  have T := R3.out.call hrd hgr
  have cc : x4.cell? ⟨w.heap.size + 1, 3, none⟩ = some (.int .u32 0) := T.rcd.cell 3
  have ff : x4.frozen? ⟨w.heap.size + 1, 3, none⟩ = false := T.rcd.frozen 3
  have R4 : Hid (RRS w g #[.int .u64 (vl 8 s : Int), .int .u64 (vl 8 (q1 s) : Int), .int .u32 (vl 4 (q2 s) : Int), .int .u32 (vl 4 (q3 s) : Int), .string ⟨#[]⟩, .bool false] (.slice A s.1.length c) (.bool s.2) (q4 s) (x4.setCell ⟨w.heap.size + 1, 3, none⟩ (.int .u32 (vl 4 (q3 s) : Int)))) := Lib.hid (T.set 3 _)
  have cr4 : (x4.setCell ⟨w.heap.size + 1, 3, none⟩ (.int .u32 (vl 4 (q3 s) : Int))).cell? ⟨w.heap.size, 0, none⟩ = some (.pointer (some ⟨g, 0, none⟩)) := R4.out.r.cell 0
  clear T hrd hgr R3
  go_wp2_with fail
  clear cc ff cr4
  refine (num_st g 1 (q4 s) _ R4.out.rdr N4.out).mono ?_
  rintro e x5 ⟨rfl, hrd, hgr⟩
  have T := R4.out.call hrd hgr
  have cc : x5.cell? ⟨w.heap.size + 1, 5, none⟩ = some (.bool false) := T.rcd.cell 5
  have ff : x5.frozen? ⟨w.heap.size + 1, 5, none⟩ = false := T.rcd.frozen 5
  have R5 : Hid (RRS w g #[.int .u64 (vl 8 s : Int), .int .u64 (vl 8 (q1 s) : Int), .int .u32 (vl 4 (q2 s) : Int), .int .u32 (vl 4 (q3 s) : Int), .string ⟨#[]⟩, .bool (vl 1 (q4 s) == 1)] (.slice A s.1.length c) (.bool s.2) (q5 s) (x5.setCell ⟨w.heap.size + 1, 5, none⟩ (.bool (vl 1 (q4 s) == 1)))) := Lib.hid (T.set 5 _)
  have cr5 : (x5.setCell ⟨w.heap.size + 1, 5, none⟩ (.bool (vl 1 (q4 s) == 1))).cell? ⟨w.heap.size, 0, none⟩ = some (.pointer (some ⟨g, 0, none⟩)) := R5.out.r.cell 0
  clear T hrd hgr R4
  go_wp2_with fail
  clear cc ff cr5
  refine (rtext_st g (q5 s) _ R5.out.rdr N5.out).mono ?_
  rintro e x6 ⟨rfl, hrd, hgr⟩
  have T := R5.out.call hrd hgr
  have cc : x6.cell? ⟨w.heap.size + 1, 4, none⟩ = some (.string ⟨#[]⟩) := T.rcd.cell 4
  have ff : x6.frozen? ⟨w.heap.size + 1, 4, none⟩ = false := T.rcd.frozen 4
  have R6 : Hid (RRS w g #[.int .u64 (vl 8 s : Int), .int .u64 (vl 8 (q1 s) : Int), .int .u32 (vl 4 (q2 s) : Int), .int .u32 (vl 4 (q3 s) : Int), .string (strOf (txt (q5 s))), .bool (vl 1 (q4 s) == 1)] (.slice A s.1.length c) (.bool s.2) (q6 s) (x6.setCell ⟨w.heap.size + 1, 4, none⟩ (.string (strOf (txt (q5 s)))))) := Lib.hid (T.set 4 _)
  have cr6 : (x6.setCell ⟨w.heap.size + 1, 4, none⟩ (.string (strOf (txt (q5 s))))).cell? ⟨w.heap.size, 0, none⟩ = some (.pointer (some ⟨g, 0, none⟩)) := R6.out.r.cell 0
  clear T hrd hgr R5
  go_wp2_with fail
  clear cc ff cr6
  generalize hY : x6.setCell ⟨w.heap.size + 1, 4, none⟩ (.string (strOf (txt (q5 s)))) = y at *
  clear hY
  have ONE : Hid ((#[.int .u64 (vl 8 s : Int), .int .u64 (vl 8 (q1 s) : Int), .int .u32 (vl 4 (q2 s) : Int), .int .u32 (vl 4 (q3 s) : Int), .string (strOf (txt (q5 s))), .bool (vl 1 (q4 s) == 1)] : Array Value).all (·.oneCell') = true) := by
    have := rc_one (rrRec s)
    exact this
  obtain ⟨z, hz⟩ : ∃ z, (q6 s).2 = z := ⟨_, rfl⟩
  have HZ := Lib.hid hz
  clear hz
  obtain ⟨y0, y1⟩ : (∃ bz, bz = (!z && decide ((vl 1 (q4 s) : Int) ≤ 1))) ∧ True := ⟨⟨_, rfl⟩, trivial⟩
  obtain ⟨bz, hbz⟩ := y0
  have HBZ := Lib.hid hbz
  clear hbz y1
  cases z with
  | false =>
    have hbz : decide ((vl 1 (q4 s) : Int) ≤ 1) = bz := by have := HBZ.out; simpa using this.symm
    refine region_only (S := fun z => At z (w.heap.size + 1) 52 #[.int .u64 (vl 8 s : Int), .int .u64 (vl 8 (q1 s) : Int), .int .u32 (vl 4 (q2 s) : Int), .int .u32 (vl 4 (q3 s) : Int), .string (strOf (txt (q5 s))), .bool (vl 1 (q4 s) == 1)] ∧ At z w.heap.size 83 #[.pointer (some ⟨g, 0, none⟩)]) (by kernel_rfl) ⟨R6.out.rcd, R6.out.r⟩ (fun hS => ?_)
    refine takeH (i := 0) (d := 35) (v := .agg #[.int .u64 (vl 8 s : Int), .int .u64 (vl 8 (q1 s) : Int), .int .u32 (vl 4 (q2 s) : Int), .int .u32 (vl 4 (q3 s) : Int), .string (strOf (txt (q5 s))), .bool (vl 1 (q4 s) == 1)]) rfl (by kernel_rfl) (by kernel_rfl) (by kernel_rfl) (fun _ _ _ h => h) rfl (by rfl) ?ya0 hS ?ra0
    case ya0 => (intro wz hz; exact exec_load_at 52 (.tmp 2) rfl (w.heap.size + 1) rfl _ 6 str25 rfl hz.1)
    simp only [List.setIfInBounds_toArray, List.set_cons_zero, List.set_cons_succ]
    refine takeH (i := 1) (d := 36) (v := .pointer (some ⟨g, 0, none⟩)) rfl (by kernel_rfl) (by kernel_rfl) (by kernel_rfl) (fun _ _ _ h => h) rfl (by rfl) ?ya1 hS ?ra1
    case ya1 => (intro wz hz; have hz2 : wz.cell? ⟨w.heap.size, 0, none⟩ = some (.pointer (some ⟨g, 0, none⟩)) := hz.2.cell 0; go_simp <;> with_reducible rfl)
    simp only [List.setIfInBounds_toArray, List.set_cons_zero, List.set_cons_succ]
    refine wpAnyH_ready (rs := [2]) (by kernel_rfl) (by simp) ?_
    refine AllReadyH.cons rfl (fun K hK => ?_) AllReadyH.nil
    go_simp
    refine (right_any g (q6 s).1 (q6 s).2 y.drew (R6.out.rdr.kept (fun _ _ => rfl))).mono ?_
    rintro e wq ⟨rfl, rfl⟩
    rw [HZ.out]
    refine hK.out _ _ (hS) (fun hT => ?_)
    clear hK  hS
    have hS := hT
    clear hT
    refine takeH (i := 3) (d := 38) (v := ?va3) rfl (by kernel_rfl) (by kernel_rfl) (by kernel_rfl) (fun _ _ _ h => h) rfl (by rfl) ?ya3 hS ?ra3
    case ya3 => (intro wz hz; go_simp <;> with_reducible rfl)
    simp only [List.setIfInBounds_toArray, List.set_cons_zero, List.set_cons_succ]
    refine takeH (i := 4) (d := 39) (v := ?va4) rfl (by kernel_rfl) (by kernel_rfl) (by kernel_rfl) (fun _ _ _ h => h) rfl (by rfl) ?ya4 hS ?ra4
    case ya4 => (intro wz hz; go_simp <;> with_reducible rfl)
    simp only [List.setIfInBounds_toArray, List.set_cons_zero, List.set_cons_succ]
    refine takeH (i := 5) (d := 40) (v := ?va5) rfl (by kernel_rfl) (by kernel_rfl) (by kernel_rfl) (fun _ _ _ h => h) rfl (by rfl) ?ya5 hS ?ra5
    case ya5 => (intro wz hz; go_simp <;> with_reducible rfl)
    simp only [List.setIfInBounds_toArray, List.set_cons_zero, List.set_cons_succ]
    refine takeH (i := 6) (d := 41) (v := ?va6) rfl (by kernel_rfl) (by kernel_rfl) (by kernel_rfl) (fun _ _ _ h => h) rfl (by rfl) ?ya6 hS ?ra6
    case ya6 => (intro wz hz; go_simp <;> with_reducible rfl)
    simp only [List.setIfInBounds_toArray, List.set_cons_zero, List.set_cons_succ]
    refine wpAnyH_ready (rs := [7]) (by kernel_rfl) (by simp) ?_
    refine AllReadyH.cons rfl (fun K hK => ?_) AllReadyH.nil
    refine wp_store_at 52 (.tmp 2) (.tmp 35) rfl rfl (w.heap.size + 1) rfl #[.int .u64 (vl 8 s : Int), .int .u64 (vl 8 (q1 s) : Int), .int .u32 (vl 4 (q2 s) : Int), .int .u32 (vl 4 (q3 s) : Int), .string (strOf (txt (q5 s))), .bool (vl 1 (q4 s) == 1)] #[.int .u64 (vl 8 s : Int), .int .u64 (vl 8 (q1 s) : Int), .int .u32 (vl 4 (q2 s) : Int), .int .u32 (vl 4 (q3 s) : Int), .string (strOf (txt (q5 s))), .bool (vl 1 (q4 s) == 1)] 6 rfl str25 rfl rfl ONE.out hS.1 ?_
    intro y7 h7 g7
    have F7 := Lib.hid (RRS.same (y := y) R6.out h7 g7)
    have c7 : y7.cell? ⟨w.heap.size + 1 + 1, 0, none⟩ = some (.bool false) := F7.out.ok.cell 0
    have f7 : y7.frozen? ⟨w.heap.size + 1 + 1, 0, none⟩ = false := F7.out.ok.frozen 0
    clear h7 g7
    refine hK.out _ _ (⟨F7.out.rcd, F7.out.r⟩) (fun hT => ?_)
    clear hK  hS
    have hS := hT
    clear hT
    refine wpAnyH_ready (rs := [8]) (by kernel_rfl) (by simp) ?_
    refine AllReadyH.cons rfl (fun K hK => ?_) AllReadyH.nil
    go_simp
    have h8 := F7.out.setOk bz
    refine hK.out _ _ (⟨h8.rcd, h8.r⟩) (fun hT => ?_)
    clear hK  hS
    have hS := hT
    clear hT
    refine wpAnyH_done (by kernel_rfl) ?_ _
    refine only_done ?_
    have H8 := Lib.hid h8
    clear h8 F7 c7 f7 hS
    go_wp2_with fail
    have h8 := H8.out
    refine leaves_cons (f := 64) (args := #[.pointer (some ⟨w.heap.size + 1 + 1, 0, none⟩), .pointer (some ⟨w.heap.size + 1 + 1 + 1, 0, none⟩), .pointer (some ⟨w.heap.size + 1, 0, none⟩), .pointer (some ⟨w.heap.size, 0, none⟩)]) (by simp) (by simp [go_sem]) ?_
    cases bz with
    | true =>
      have hok : rrOk s = true := by
        have := hbz
        rw [rrOk, HZ.out]
        simp at this ⊢
        omega
      refine (clo_yes _ _ _ _ .returning _ (h8.ok.cell 0)).mono ?_
      rintro e u' w9 ⟨rfl, rfl, rfl⟩
      refine ⟨_, results_rr rfl rfl h8.rcd rfl h8.ok rfl, ?_⟩
      rw [Rr, if_pos hok]
      exact ⟨rfl, h8.rdr, h8.frame⟩
    | false =>
      have hok : ¬ rrOk s = true := by
        have := hbz
        rw [rrOk, HZ.out]
        simp at this ⊢
        omega
      obtain ⟨A8, c8, hat8, _⟩ := id h8.rdr
      refine (clo_no _ _ _ _ g .returning _ _ _ _ _ (h8.ok.cell 0) (h8.r.cell 0) h8.bef rfl rfl h8.rcd hat8 rfl rfl (by omega)).mono ?_
      rintro e u' w9 ⟨rfl, rfl, u1, u2, u3, u4, u5, u6, u7⟩
      have hfr := h8.frame
      have hok9 : At w9 (w.heap.size + 2) 4 #[.bool false] := (u3 _ h8.ok.lt (by omega) (by omega)).trans h8.ok
      refine ⟨_, results_rr rfl rfl u1 rfl hok9 rfl, ?_⟩
      rw [Rr, if_neg hok]
      refine ⟨rfl, ⟨A, c, u2, HLI.out.of_cells fun p hp => World.cell?_of_block ?_, hcc, hcm⟩, ⟨u4.trans hfr.os, u5.trans hfr.tape, u6.trans hfr.output, Nat.le_trans hfr.size u7, fun k hk hne => ?_⟩⟩
      · rw [u3 p.block (by have := hfr.size; omega) (by omega) (by omega)]
        exact hfr.block p.block (by omega) (by intro e; injection e with e; omega)
      · rw [u3 k (by have := hfr.size; omega) (by omega) (fun e => hne (by rw [e]))]
        exact hfr.block k hk hne
  | true =>
    refine region_only (S := fun z => At z (w.heap.size + 1) 52 #[.int .u64 (vl 8 s : Int), .int .u64 (vl 8 (q1 s) : Int), .int .u32 (vl 4 (q2 s) : Int), .int .u32 (vl 4 (q3 s) : Int), .string (strOf (txt (q5 s))), .bool (vl 1 (q4 s) == 1)] ∧ At z w.heap.size 83 #[.pointer (some ⟨g, 0, none⟩)]) (by kernel_rfl) ⟨R6.out.rcd, R6.out.r⟩ (fun hS => ?_)
    refine takeH (i := 0) (d := 35) (v := .agg #[.int .u64 (vl 8 s : Int), .int .u64 (vl 8 (q1 s) : Int), .int .u32 (vl 4 (q2 s) : Int), .int .u32 (vl 4 (q3 s) : Int), .string (strOf (txt (q5 s))), .bool (vl 1 (q4 s) == 1)]) rfl (by kernel_rfl) (by kernel_rfl) (by kernel_rfl) (fun _ _ _ h => h) rfl (by rfl) ?yb0 hS ?rb0
    case yb0 => (intro wz hz; exact exec_load_at 52 (.tmp 2) rfl (w.heap.size + 1) rfl _ 6 str25 rfl hz.1)
    simp only [List.setIfInBounds_toArray, List.set_cons_zero, List.set_cons_succ]
    refine takeH (i := 1) (d := 36) (v := .pointer (some ⟨g, 0, none⟩)) rfl (by kernel_rfl) (by kernel_rfl) (by kernel_rfl) (fun _ _ _ h => h) rfl (by rfl) ?yb1 hS ?rb1
    case yb1 => (intro wz hz; have hz2 : wz.cell? ⟨w.heap.size, 0, none⟩ = some (.pointer (some ⟨g, 0, none⟩)) := hz.2.cell 0; go_simp <;> with_reducible rfl)
    simp only [List.setIfInBounds_toArray, List.set_cons_zero, List.set_cons_succ]
    refine wpAnyH_ready (rs := [2]) (by kernel_rfl) (by simp) ?_
    refine AllReadyH.cons rfl (fun K hK => ?_) AllReadyH.nil
    go_simp
    refine (right_any g (q6 s).1 (q6 s).2 y.drew (R6.out.rdr.kept (fun _ _ => rfl))).mono ?_
    rintro e wq ⟨rfl, rfl⟩
    rw [HZ.out]
    refine hK.out _ _ (hS) (fun hT => ?_)
    clear hK  hS
    have hS := hT
    clear hT
    refine takeH (i := 3) (d := 38) (v := ?vb3) rfl (by kernel_rfl) (by kernel_rfl) (by kernel_rfl) (fun _ _ _ h => h) rfl (by rfl) ?yb3 hS ?rb3
    case yb3 => (intro wz hz; go_simp <;> with_reducible rfl)
    simp only [List.setIfInBounds_toArray, List.set_cons_zero, List.set_cons_succ]
    refine skipH (i := 4) (d := 39) rfl (by kernel_rfl) (by kernel_rfl) (by kernel_rfl) (fun _ _ _ h => h) rfl (by rfl) hS ?_
    simp only [List.setIfInBounds_toArray, List.set_cons_zero, List.set_cons_succ]
    refine skipH (i := 5) (d := 40) rfl (by kernel_rfl) (by kernel_rfl) (by kernel_rfl) (fun _ _ _ h => h) rfl (by rfl) hS ?_
    simp only [List.setIfInBounds_toArray, List.set_cons_zero, List.set_cons_succ]
    refine takeH (i := 6) (d := 41) (v := ?vb6) rfl (by kernel_rfl) (by kernel_rfl) (by kernel_rfl) (fun _ _ _ h => h) rfl (by rfl) ?yb6 hS ?rb6
    case yb6 => (intro wz hz; go_simp <;> with_reducible rfl)
    simp only [List.setIfInBounds_toArray, List.set_cons_zero, List.set_cons_succ]
    refine wpAnyH_ready (rs := [7]) (by kernel_rfl) (by simp) ?_
    refine AllReadyH.cons rfl (fun K hK => ?_) AllReadyH.nil
    refine wp_store_at 52 (.tmp 2) (.tmp 35) rfl rfl (w.heap.size + 1) rfl #[.int .u64 (vl 8 s : Int), .int .u64 (vl 8 (q1 s) : Int), .int .u32 (vl 4 (q2 s) : Int), .int .u32 (vl 4 (q3 s) : Int), .string (strOf (txt (q5 s))), .bool (vl 1 (q4 s) == 1)] #[.int .u64 (vl 8 s : Int), .int .u64 (vl 8 (q1 s) : Int), .int .u32 (vl 4 (q2 s) : Int), .int .u32 (vl 4 (q3 s) : Int), .string (strOf (txt (q5 s))), .bool (vl 1 (q4 s) == 1)] 6 rfl str25 rfl rfl ONE.out hS.1 ?_
    intro y7 h7 g7
    have F7 := Lib.hid (RRS.same (y := y) R6.out h7 g7)
    have c7 : y7.cell? ⟨w.heap.size + 1 + 1, 0, none⟩ = some (.bool false) := F7.out.ok.cell 0
    have f7 : y7.frozen? ⟨w.heap.size + 1 + 1, 0, none⟩ = false := F7.out.ok.frozen 0
    clear h7 g7
    refine hK.out _ _ (⟨F7.out.rcd, F7.out.r⟩) (fun hT => ?_)
    clear hK  hS
    have hS := hT
    clear hT
    refine wpAnyH_ready (rs := [8]) (by kernel_rfl) (by simp) ?_
    refine AllReadyH.cons rfl (fun K hK => ?_) AllReadyH.nil
    go_simp
    have h8 := F7.out.setOk false
    refine hK.out _ _ (⟨h8.rcd, h8.r⟩) (fun hT => ?_)
    clear hK  hS
    have hS := hT
    clear hT
    refine wpAnyH_done (by kernel_rfl) ?_ _
    refine only_done ?_
    have H8 := Lib.hid h8
    clear h8 F7 c7 f7 hS
    go_wp2_with fail
    have h8 := H8.out
    refine leaves_cons (f := 64) (args := #[.pointer (some ⟨w.heap.size + 1 + 1, 0, none⟩), .pointer (some ⟨w.heap.size + 1 + 1 + 1, 0, none⟩), .pointer (some ⟨w.heap.size + 1, 0, none⟩), .pointer (some ⟨w.heap.size, 0, none⟩)]) (by simp) (by simp [go_sem]) ?_
    have hok : ¬ rrOk s = true := by
      rw [rrOk, HZ.out]
      simp
    obtain ⟨A8, c8, hat8, _⟩ := id h8.rdr
    refine (clo_no _ _ _ _ g .returning _ _ _ _ _ (h8.ok.cell 0) (h8.r.cell 0) h8.bef rfl rfl h8.rcd hat8 rfl rfl (by omega)).mono ?_
    rintro e u' w9 ⟨rfl, rfl, u1, u2, u3, u4, u5, u6, u7⟩
    have hfr := h8.frame
    have hok9 : At w9 (w.heap.size + 2) 4 #[.bool false] := (u3 _ h8.ok.lt (by omega) (by omega)).trans h8.ok
    refine ⟨_, results_rr rfl rfl u1 rfl hok9 rfl, ?_⟩
    rw [Rr, if_neg hok]
    refine ⟨rfl, ⟨A, c, u2, HLI.out.of_cells fun p hp => World.cell?_of_block ?_, hcc, hcm⟩, ⟨u4.trans hfr.os, u5.trans hfr.tape, u6.trans hfr.output, Nat.le_trans hfr.size u7, fun k hk hne => ?_⟩⟩
    · rw [u3 p.block (by have := hfr.size; omega) (by omega) (by omega)]
      exact hfr.block p.block (by omega) (by intro e; injection e with e; omega)
    · rw [u3 k (by have := hfr.size; omega) (by omega) (fun e => hne (by rw [e]))]
      exact hfr.block k hk hne
end Go.Proofs.Ytpffnjnncgmgnaa
