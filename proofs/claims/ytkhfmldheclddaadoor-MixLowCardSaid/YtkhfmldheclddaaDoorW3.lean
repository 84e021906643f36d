/-
  math/bits.TrailingZeros64 by the library's own contract, over the table that the package variable holds.
  Conditions: the table lies in its variable.
-/
import Derived.Test.YtkhfmldheclddaaDoorW2
import Derived.Shelf.Spec.TrailingZeros
import Derived.Lib.TrailingZeros
namespace Go.Proofs.YtkhfmldheclddaaDoor
open Go.RowKit

/-- Where the library's numbers lie in this program. -/
def ren : Shelf.Ren := ⟨fun n => if n = 29 then 21 else n, fun n => if n = 25 then 40 else if n = 54 then 39 else n, fun n => if n = 1 then 0 else n⟩
theorem lays : Lays7.n29 Tryd.prog ren where
  mixed := by kernel_rfl
  f29 := by kernel_rfl
  t0 := by kernel_rfl
  a0 := fun _ => by kernel_rfl
  z0 := fun _ => by kernel_rfl
  v0 := fun _ => by kernel_rfl
  i0 := by kernel_rfl
  t3 := by kernel_rfl
  a3 := fun _ => by kernel_rfl
  z3 := fun _ => by kernel_rfl
  v3 := fun _ => by kernel_rfl
  i3 := by kernel_rfl
  t4 := by kernel_rfl
  a4 := fun _ => by kernel_rfl
  z4 := fun _ => by kernel_rfl
  v4 := fun _ => by kernel_rfl
  i4 := by kernel_rfl
  t5 := by kernel_rfl
  a5 := fun _ => by kernel_rfl
  z5 := fun _ => by kernel_rfl
  v5 := fun _ => by kernel_rfl
  i5 := by kernel_rfl
  t22 := by kernel_rfl
  a22 := fun _ => by kernel_rfl
  z22 := fun _ => by kernel_rfl
  v22 := fun _ => by kernel_rfl
  i22 := by kernel_rfl
  t25 := by kernel_rfl
  a25 := fun _ => by kernel_rfl
  z25 := fun _ => by kernel_rfl
  v25 := fun _ => by kernel_rfl
  i25 := by kernel_rfl
  t54 := by kernel_rfl
  a54 := fun _ => by kernel_rfl
  z54 := fun _ => by kernel_rfl
  g1 := by kernel_rfl

/-- The table of math/bits lies in its variable. -/
structure Tab (w : World) : Prop where
  size : 0 < w.heap.size
  cell : ∀ j, j < 64 → w.cell? ⟨0, j, none⟩ = some (.int .u8 ((Lib.deBruijn64tab.getD j 0 : Nat) : Int))
theorem Tab.under {w w' : World} (h : Tab w) (hb : Below w.heap.size w w') : Tab w' :=
  ⟨Nat.lt_of_lt_of_le h.size hb.size, fun j hj => (hb.cell (p := ⟨0, j, none⟩) h.size).trans (h.cell j hj)⟩

theorem tz_any (x : Nat) (w : World) (hx : x < 18446744073709551616) (hT : Tab w) :
    Calls Tryd.prog 21 #[.int .u64 x] w fun e w' => e = .returned (.int .i64 (Lib.ctz 64 x : Nat)) ∧ w = w' :=
  (Any7.bits_TrailingZeros64 lays x hx w fun _ => hT.cell).mono fun _ _ h => ⟨h.1, h.2.symm⟩
end Go.Proofs.YtkhfmldheclddaaDoor
