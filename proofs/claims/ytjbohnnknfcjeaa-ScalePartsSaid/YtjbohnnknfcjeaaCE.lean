/-
  What walks leave; numbers compared.
  Conditions: none beyond those that each theorem names.
-/
import Derived.Test.YtjbohnnknfcjeaaBS
import Derived.Deep.Cut
import Derived.Deep.CutRange
import Derived.Deep.CutBlock
import Derived.BigQuiet
import Derived.Deep.Slices
namespace Go.Proofs.Ytjbohnnknfcjeaa
open Go.RowKit
set_option maxRecDepth 20000

def RetB (w : World) (v : Value) (e : Ending) (w' : World) : Prop := e = .returned v ∧ Below w.heap.size w w'
theorem RetB.of {w0 w w' : World} {v : Value} {e : Ending} (hb : Below w0.heap.size w0 w) (h : RetB w v e w') : RetB w0 v e w' := ⟨h.1, hb.trans (h.2.mono hb.size)⟩
theorem nat_beq (a b : Nat) : ((a : Int) == (b : Int)) = (a == b) := by
  by_cases h : a = b
  · subst h
    rw [beq_self_eq_true, beq_self_eq_true]
  · have h2 : (a : Int) ≠ (b : Int) := by omega
    rw [beq_eq_false_iff_ne.2 h, beq_eq_false_iff_ne.2 h2]
theorem nat_bne (a b : Nat) : ((a : Int) != (b : Int)) = (a != b) := by
  unfold bne
  rw [nat_beq]
theorem u_info : ∃ i, Try.prog.info? 23 = some i ∧ i.zero = some (.int .u32 0) ∧ i.size = 1 ∧ i.bytes = 4 := ⟨_, rfl, rfl, rfl, rfl⟩
theorem Lz.uc {X : Nat → Prop} {w : World} {A : Option Addr} {n k : Nat} {l : List Nat} (h : Lz X w 1 A n (UC l)) (hk : k < n) : ∃ b o, ∃ hl : k < l.length, A = some ⟨b, o, none⟩ ∧ b < w.heap.size ∧ w.cell? ⟨b, o + k, none⟩ = some (.int .u32 (l[k] : Int)) := by
  have hl : k < l.length := by have := h.len; rw [UC_length] at this; omega
  obtain ⟨b, o, h1, _, h3, h4⟩ := h.spot (by omega)
  exact ⟨b, o, hl, h1, h3, h4 k _ (UC_get l k hl)⟩
theorem Lz.ulen {X : Nat → Prop} {w : World} {A : Option Addr} {n : Nat} {l : List Nat} (h : Lz X w 1 A n (UC l)) : l.length = n := by
  have := h.len
  rw [UC_length] at this
  omega
end Go.Proofs.Ytjbohnnknfcjeaa
