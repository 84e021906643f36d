/-
  The state ahead of the laws' loops, and one act ready to be called.
  Conditions: at most 60 acts.
-/
import Derived.Test.YthbifccankfngaaGreatDoorLBZQ
import Derived.Test.YthbifccankfngaaGreatDoorLWZQ
namespace Go.Proofs.YthbifccankfngaaGreatDoor
open Go.RowKit Go.Shelf
set_option maxRecDepth 20000

def LdL (w0 : World) (g b4 N : Nat) (v i : Value) (z : World) : Prop :=
  ∃ (k : Nat) (X : Nat → Prop) (s : TS) (A1 : Option Addr) (n1 c1 : Nat) (A2 : Option Addr) (n2 c2 : Nat) (u : TR), k ≤ N ∧ v = .bool true ∧ i = .int .i64 (k : Int) ∧ Hid (LdS w0 g b4 k X s A1 n1 c1 A2 n2 c2 u z)
/-- The same with no flag. -/
def LsL (w0 : World) (g b4 N : Nat) (i : Value) (z : World) : Prop := LdL w0 g b4 N (.bool true) i z
theorem tab_low {w z : World} (h : Tab w) (hb : Below w.heap.size w z) : Tab z := tab_mod h (Mod.of_below hb (fun _ => False)) (fun _ h => h.elim)
/-- The state ahead of the loop. -/
theorem lds_start {w0 z1 z2 : World} {g : Nat} {X : Nat → Prop} (hT : Tab w0) (hg : Tt z1 g emptyS X) (hx : ∀ k, X k → w0.heap.size ≤ k) (hb : Below w0.heap.size w0 z1) (hb2 : Below z1.heap.size z1 z2) (ha : At z2 z1.heap.size 28 (rtA none none 0 0 0 0)) :
    LdS w0 g z1.heap.size 0 X emptyS none 0 0 none 0 0 ⟨[], []⟩ z2 := by
  have hl := hb.trans (hb2.mono hb.size)
  have hs := hT.size
  exact ⟨⟨hg.below hb2, ⟨Lz.empty, Lz.empty⟩, rel_empty, ⟨(fun c h => by cases h), (fun c h => by cases h)⟩, Nat.le_refl _, fun k hk => by have := hx k hk; omega, tab_low hT hl⟩, ha, fun hk => by have := hg.lt _ hk; omega, hx, hl, hb.size, hT⟩
/-- One act, ready to be called in any world that lies over this one. -/
theorem do_ready {w0 z : World} {g b4 k : Nat} {X : Nat → Prop} {s : TS} {A1 A2 : Option Addr} {n1 c1 n2 c2 : Nat} {u : TR} (h : LdS w0 g b4 k X s A1 n1 c1 A2 n2 c2 u z) (hk : k ≤ 60) (o : Opx) (ho : OpOk o) (W : World) (hW : Below z.heap.size z W) :
    Calls Tryz.prog 8 #[.pointer (some ⟨g, 0, none⟩), .agg (rtA A1 A2 n1 c1 n2 c2), .agg (opA o)] W (fun e y => ∃ X' s' B1 m1 d1 B2 m2 d2 u', e = .returned (.tuple #[.agg (rtA B1 B2 m1 d1 m2 d2), .bool true]) ∧ Two y g X' s' B1 m1 B2 m2 u' (k + 1) ∧ Below w0.heap.size w0 y ∧ At y b4 28 (rtA A1 A2 n1 c1 n2 c2) ∧ ¬ X' b4 ∧ ∀ j, X' j → w0.heap.size ≤ j) := by
  have hB := h.below hW
  refine (do_any g X s A1 A2 n1 c1 n2 c2 u k o W hB.two (by omega) ho.1 ho.2).mono ?_
  rintro e y ⟨s', u', X', B1, m1, d1, B2, m2, d2, rfl, h2, hx, hm⟩
  obtain ⟨q1, q2, q3, q4⟩ := hB.mid hx hm
  exact ⟨X', s', B1, m1, d1, B2, m2, d2, u', rfl, h2, q1, q2, q3, q4⟩
end Go.Proofs.YthbifccankfngaaGreatDoor
