/-
  The cells of an entry in a block of its own; small laws.
  Conditions: none beyond those that each theorem names.
-/
import Derived.Test.YthicidpdgggbjaaDoorQ3
import Derived.Test.YthicidpdgggbjaaDoorQ2
namespace Go.Proofs.YthicidpdgggbjaaDoor
open Go.RowKit
set_option maxRecDepth 8000

theorem ret_bool {a b : Bool} (h : a = b) : Ending.returned (.bool a) = .returned (.bool b) := by rw [h]
theorem sameIs_refl (l : List Im) : sameIs l l = true := (sameIs_iff l l).2 rfl
theorem sameIs_ne {l1 l2 : List Im} (h : l1 ≠ l2) : sameIs l1 l2 = false := by
  cases hq : sameIs l1 l2 with
  | false => rfl
  | true => exact absurd ((sameIs_iff l1 l2).1 hq) h

/-- The cells of an entry in block g. -/
structure EntAt (w : World) (g : Nat) (e : Ent) (PA : Option Addr) (np pc : Nat) (QA : Option Addr) (na qc : Nat) : Prop where
  c0 : w.cell? ⟨g, 0, none⟩ = some (.int .u64 (e.lsn : Int))
  c1 : w.cell? ⟨g, 1, none⟩ = some (.int .i64 e.kind)
  c2 : w.cell? ⟨g, 2, none⟩ = some (.int .u64 (e.txn : Int))
  c3 : w.cell? ⟨g, 3, none⟩ = some (.int .u64 (e.prev : Int))
  c4 : w.cell? ⟨g, 4, none⟩ = some (.int .u64 (e.next : Int))
  c5 : w.cell? ⟨g, 5, none⟩ = some (.int .u64 (e.rc.id : Int))
  c6 : w.cell? ⟨g, 6, none⟩ = some (.int .u64 (e.rc.key : Int))
  c7 : w.cell? ⟨g, 7, none⟩ = some (.int .u32 (e.rc.x : Int))
  c8 : w.cell? ⟨g, 8, none⟩ = some (.int .u32 (e.rc.y : Int))
  c9 : w.cell? ⟨g, 9, none⟩ = some (.string (strOf e.rc.val))
  c10 : w.cell? ⟨g, 10, none⟩ = some (.bool e.rc.ghost)
  c11 : w.cell? ⟨g, 11, none⟩ = some (.slice PA np pc)
  c12 : w.cell? ⟨g, 12, none⟩ = some (.slice QA na qc)
theorem EntAt.mk' {w : World} {g : Nat} {e : Ent} {PA QA : Option Addr} {np pc na qc : Nat} (h : At w g 42 #[.int .u64 (e.lsn : Nat), .int .i64 e.kind, .int .u64 (e.txn : Nat), .int .u64 (e.prev : Nat), .int .u64 (e.next : Nat), .int .u64 (e.rc.id : Nat), .int .u64 (e.rc.key : Nat), .int .u32 (e.rc.x : Nat), .int .u32 (e.rc.y : Nat), .string (strOf e.rc.val), .bool e.rc.ghost, .slice PA np pc, .slice QA na qc]) : EntAt w g e PA np pc QA na qc :=
  ⟨h.cell 0, h.cell 1, h.cell 2, h.cell 3, h.cell 4, h.cell 5, h.cell 6, h.cell 7, h.cell 8, h.cell 9, h.cell 10, h.cell 11, h.cell 12⟩
theorem i_beq (a b : Int) : (a == b) = decide (a = b) := by rw [Bool.eq_iff_iff, beq_iff_eq, decide_eq_true_eq]
def RetQ (w : World) (q : Bool) (r : Ending) (w' : World) : Prop := r = .returned (.bool q) ∧ Below w.heap.size w w'
theorem below_n {B : Nat} {a w : World} (h : Below B a w) (n : Nat) : Below B a (w.drewN n) := ⟨h.os, h.tape, h.output, h.size, h.block⟩
end Go.Proofs.YthicidpdgggbjaaDoor
