/-
  Walks: entry.Same.
  Conditions: at most 1000 pages and numbers in each entry.
-/
import Derived.Test.YtihlmjknhgnjpaaDoorS1
import Derived.Test.YtihlmjknhgnjpaaDoorC2
namespace Go.Proofs.YtihlmjknhgnjpaaDoor
open Go.RowKit
set_option maxRecDepth 8000

/-- The cells of an entry in block g. -/
structure EntAt (w : World) (g : Nat) (e : Ent) (PA : Option Addr) (np pc : Nat) (QA : Option Addr) (na qc : Nat) : Prop where
  c0 : w.cell? ⟨g, 0, none⟩ = some (.int .u64 (e.lsn : Int))
  c1 : w.cell? ⟨g, 1, none⟩ = some (.int .i64 e.kind)
  c2 : w.cell? ⟨g, 2, none⟩ = some (.int .u64 (e.txn : Int))
  c3 : w.cell? ⟨g, 3, none⟩ = some (.int .u64 (e.prev : Int))
  c4 : w.cell? ⟨g, 4, none⟩ = some (.int .u64 (e.next : Int))
  c5 : w.cell? ⟨g, 5, none⟩ = some (.int .u64 (e.rc.id : Int))
  c6 : w.cell? ⟨g, 6, none⟩ = some (.int .u64 (e.rc.key : Int))
  c7 : w.cell? ⟨g, 7, none⟩ = some (.int .u32 (e.rc.x : Int))
  c8 : w.cell? ⟨g, 8, none⟩ = some (.int .u32 (e.rc.y : Int))
  c9 : w.cell? ⟨g, 9, none⟩ = some (.string (strOf e.rc.val))
  c10 : w.cell? ⟨g, 10, none⟩ = some (.bool e.rc.ghost)
  c11 : w.cell? ⟨g, 11, none⟩ = some (.slice PA np pc)
  c12 : w.cell? ⟨g, 12, none⟩ = some (.slice QA na qc)
theorem EntAt.mk' {w : World} {g : Nat} {e : Ent} {PA QA : Option Addr} {np pc na qc : Nat} (h : At w g 29 #[.int .u64 (e.lsn : Nat), .int .i64 e.kind, .int .u64 (e.txn : Nat), .int .u64 (e.prev : Nat), .int .u64 (e.next : Nat), .int .u64 (e.rc.id : Nat), .int .u64 (e.rc.key : Nat), .int .u32 (e.rc.x : Nat), .int .u32 (e.rc.y : Nat), .string (strOf e.rc.val), .bool e.rc.ghost, .slice PA np pc, .slice QA na qc]) : EntAt w g e PA np pc QA na qc :=
  ⟨h.cell 0, h.cell 1, h.cell 2, h.cell 3, h.cell 4, h.cell 5, h.cell 6, h.cell 7, h.cell 8, h.cell 9, h.cell 10, h.cell 11, h.cell 12⟩
theorem i_beq (a b : Int) : (a == b) = decide (a = b) := by rw [Bool.eq_iff_iff, beq_iff_eq, decide_eq_true_eq]
def RetQ (w : World) (q : Bool) (r : Ending) (w' : World) : Prop := r = .returned (.bool q) ∧ Below w.heap.size w w'
theorem below_n {B : Nat} {a w : World} (h : Below B a w) (n : Nat) : Below B a (w.drewN n) := ⟨h.os, h.tape, h.output, h.size, h.block⟩

set_option maxHeartbeats 3200000 in
theorem eSame_any (e f : Ent) (PA QA RA SA : Option Addr) (np pc na qc mp rc ma sc : Nat) (w : World) (h : EL w w.heap.size e PA np QA na) (k : EL w w.heap.size f RA mp SA ma) (hnp : np ≤ 1000) (hna : na ≤ 1000) (hmp : mp ≤ 1000) (hma : ma ≤ 1000) :
    Calls Tryd.prog 13 #[.agg #[.int .u64 (e.lsn : Nat), .int .i64 e.kind, .int .u64 (e.txn : Nat), .int .u64 (e.prev : Nat), .int .u64 (e.next : Nat), .int .u64 (e.rc.id : Nat), .int .u64 (e.rc.key : Nat), .int .u32 (e.rc.x : Nat), .int .u32 (e.rc.y : Nat), .string (strOf e.rc.val), .bool e.rc.ghost, .slice PA np pc, .slice QA na qc], .agg #[.int .u64 (f.lsn : Nat), .int .i64 f.kind, .int .u64 (f.txn : Nat), .int .u64 (f.prev : Nat), .int .u64 (f.next : Nat), .int .u64 (f.rc.id : Nat), .int .u64 (f.rc.key : Nat), .int .u32 (f.rc.x : Nat), .int .u32 (f.rc.y : Nat), .string (strOf f.rc.val), .bool f.rc.ghost, .slice RA mp rc, .slice SA ma sc]] w (RetQ w (sameE e f)) := by
  have BW := Lib.hid (((Below.refl w.heap.size w).alloc (Nat.le_refl _) (.cells #[.int .u64 (e.lsn : Nat), .int .i64 e.kind, .int .u64 (e.txn : Nat), .int .u64 (e.prev : Nat), .int .u64 (e.next : Nat), .int .u64 (e.rc.id : Nat), .int .u64 (e.rc.key : Nat), .int .u32 (e.rc.x : Nat), .int .u32 (e.rc.y : Nat), .string (strOf e.rc.val), .bool e.rc.ghost, .slice PA np pc, .slice QA na qc] 29)).alloc (by simp) (.cells #[.int .u64 (f.lsn : Nat), .int .i64 f.kind, .int .u64 (f.txn : Nat), .int .u64 (f.prev : Nat), .int .u64 (f.next : Nat), .int .u64 (f.rc.id : Nat), .int .u64 (f.rc.key : Nat), .int .u32 (f.rc.x : Nat), .int .u32 (f.rc.y : Nat), .string (strOf f.rc.val), .bool f.rc.ghost, .slice RA mp rc, .slice SA ma sc] 29))
  have HE := Lib.hid (h.under BW.out)
  have HF := Lib.hid (k.under BW.out)
  clear h k
  obtain ⟨a0, a1, a2, a3, a4, a5, a6, a7, a8, a9, a10, a11, a12⟩ := EntAt.mk' ((At.new w 29 #[.int .u64 (e.lsn : Nat), .int .i64 e.kind, .int .u64 (e.txn : Nat), .int .u64 (e.prev : Nat), .int .u64 (e.next : Nat), .int .u64 (e.rc.id : Nat), .int .u64 (e.rc.key : Nat), .int .u32 (e.rc.x : Nat), .int .u32 (e.rc.y : Nat), .string (strOf e.rc.val), .bool e.rc.ghost, .slice PA np pc, .slice QA na qc]).alloc (.cells #[.int .u64 (f.lsn : Nat), .int .i64 f.kind, .int .u64 (f.txn : Nat), .int .u64 (f.prev : Nat), .int .u64 (f.next : Nat), .int .u64 (f.rc.id : Nat), .int .u64 (f.rc.key : Nat), .int .u32 (f.rc.x : Nat), .int .u32 (f.rc.y : Nat), .string (strOf f.rc.val), .bool f.rc.ghost, .slice RA mp rc, .slice SA ma sc] 29))
  obtain ⟨b0, b1, b2, b3, b4, b5, b6, b7, b8, b9, b10, b11, b12⟩ := EntAt.mk' (At.new (w.alloc (.cells #[.int .u64 (e.lsn : Nat), .int .i64 e.kind, .int .u64 (e.txn : Nat), .int .u64 (e.prev : Nat), .int .u64 (e.next : Nat), .int .u64 (e.rc.id : Nat), .int .u64 (e.rc.key : Nat), .int .u32 (e.rc.x : Nat), .int .u32 (e.rc.y : Nat), .string (strOf e.rc.val), .bool e.rc.ghost, .slice PA np pc, .slice QA na qc] 29)) 29 #[.int .u64 (f.lsn : Nat), .int .i64 f.kind, .int .u64 (f.txn : Nat), .int .u64 (f.prev : Nat), .int .u64 (f.next : Nat), .int .u64 (f.rc.id : Nat), .int .u64 (f.rc.key : Nat), .int .u32 (f.rc.x : Nat), .int .u32 (f.rc.y : Nat), .string (strOf f.rc.val), .bool f.rc.ghost, .slice RA mp rc, .slice SA ma sc])
  rw [show (w.alloc (.cells #[.int .u64 (e.lsn : Nat), .int .i64 e.kind, .int .u64 (e.txn : Nat), .int .u64 (e.prev : Nat), .int .u64 (e.next : Nat), .int .u64 (e.rc.id : Nat), .int .u64 (e.rc.key : Nat), .int .u32 (e.rc.x : Nat), .int .u32 (e.rc.y : Nat), .string (strOf e.rc.val), .bool e.rc.ghost, .slice PA np pc, .slice QA na qc] 29)).heap.size = w.heap.size + 1 by simp] at b0 b1 b2 b3 b4 b5 b6 b7 b8 b9 b10 b11 b12
  have qr := fun W => eql_rc e.rc f.rc W
  have n0 : ((e.lsn : Int) == (f.lsn : Int)) = (e.lsn == f.lsn) := nat_beq _ _
  have n1 : (e.kind == f.kind) = decide (e.kind = f.kind) := i_beq _ _
  have n2 : ((e.txn : Int) == (f.txn : Int)) = (e.txn == f.txn) := nat_beq _ _
  have n3 : ((e.prev : Int) == (f.prev : Int)) = (e.prev == f.prev) := nat_beq _ _
  have n4 : ((e.next : Int) == (f.next : Int)) = (e.next == f.next) := nat_beq _ _
  have S := Lib.hid (show sameE e f = (e.lsn == f.lsn && (decide (e.kind = f.kind) && (e.txn == f.txn && (e.prev == f.prev && (e.next == f.next && (sameR e.rc f.rc && (sameIs e.pages f.pages && e.act == f.act))))))) from rfl)
  generalize (e.lsn == f.lsn) = q0 at *
  generalize decide (e.kind = f.kind) = q1 at *
  generalize (e.txn == f.txn) = q2 at *
  generalize (e.prev == f.prev) = q3 at *
  generalize (e.next == f.next) = q4 at *
  generalize sameR e.rc f.rc = q5 at *
  generalize hq6 : sameIs e.pages f.pages = q6 at *
  generalize hq7 : (e.act == f.act) = q7 at *
  have Q6 := Lib.hid hq6
  have Q7 := Lib.hid hq7
  clear hq6 hq7
  cases q0 with
  | false =>
    go_enter Tryd.func13, Tryd.ntmps13
    go_wp2_with fail
    go_ret
    exact ⟨by rw [S.out]; rfl, BW.out⟩
  | true =>
  cases q1 with
  | false =>
    go_enter Tryd.func13, Tryd.ntmps13
    go_wp2_with fail
    go_ret
    exact ⟨by rw [S.out]; rfl, BW.out⟩
  | true =>
  cases q2 with
  | false =>
    go_enter Tryd.func13, Tryd.ntmps13
    go_wp2_with fail
    go_ret
    exact ⟨by rw [S.out]; rfl, BW.out⟩
  | true =>
  cases q3 with
  | false =>
    go_enter Tryd.func13, Tryd.ntmps13
    go_wp2_with fail
    go_ret
    exact ⟨by rw [S.out]; rfl, BW.out⟩
  | true =>
  cases q4 with
  | false =>
    go_enter Tryd.func13, Tryd.ntmps13
    go_wp2_with fail
    go_ret
    exact ⟨by rw [S.out]; rfl, BW.out⟩
  | true =>
  cases q5 with
  | false =>
    go_enter Tryd.func13, Tryd.ntmps13
    go_wp2_with fail
    go_ret
    exact ⟨by rw [S.out]; rfl, BW.out⟩
  | true =>
  go_enter Tryd.func13, Tryd.ntmps13
  go_wp2_with fail
  refine (eqI_any _ np pc _ mp rc PA RA e.pages f.pages _ HE.out.pages HF.out.pages hnp hmp).mono ?_
  rintro r w1 ⟨rfl, m1, rfl⟩
  rw [Q6.out]
  cases q6 with
  | false =>
    go_wp2_with fail
    go_ret
    exact ⟨by rw [S.out]; rfl, below_n BW.out _⟩
  | true =>
    go_wp2_with fail
    refine (eqU_any _ na qc _ ma sc QA SA e.act f.act _ (HE.out.act.drewN _) (HF.out.act.drewN _) hna hma).mono ?_
    rintro r w2 ⟨rfl, m2, rfl⟩
    rw [Q7.out]
    go_wp2_with fail
    go_ret
    exact ⟨by rw [S.out]; rfl, below_n BW.out _⟩
end Go.Proofs.YtihlmjknhgnjpaaDoor
