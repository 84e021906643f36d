/-
  Tiles: the rectangle of a number, whether or not there is such a tile; a point lies in the tile of its number and in no other.
  Conditions: coordinates are those of a uint32.
-/
import Derived.Test.YtiapllplhjhliaaPoints
namespace Go.Proofs.Ytiapllplhjhliaa
open Go.RowKit

def oA (t : Int) : Int := if 0 ≤ t ∧ t < 64 then t % 8 * 536870912 else 1
def oB (t : Int) : Int := if 0 ≤ t ∧ t < 64 then t / 8 * 536870912 else 0
def oC (t : Int) : Int := if 0 ≤ t ∧ t < 64 then t % 8 * 536870912 + 536870911 else 0
def oD (t : Int) : Int := if 0 ≤ t ∧ t < 64 then t / 8 * 536870912 + 536870911 else 0
theorem of_t (t : Int) (w : World) :
    Calls Try.prog 17 #[.int .i64 t] w fun e w' => e = .returned (.agg #[.int .u32 (oA t), .int .u32 (oB t), .int .u32 (oC t), .int .u32 (oD t)]) ∧ Below w.heap.size w w' := by
  unfold oA oB oC oD
  by_cases h : 0 ≤ t ∧ t < 64
  · simp only [if_pos h]; exact of_in t w h.1 h.2
  · simp only [if_neg h]; exact of_out t w (by omega)
theorem o_empty (t : Int) : emptyB (oA t) (oB t) (oC t) (oD t) = (decide (t < 0) || decide (63 < t)) := by
  rw [Bool.eq_iff_iff, empty_iff']
  unfold oA oB oC oD
  by_cases h : 0 ≤ t ∧ t < 64
  · simp only [if_pos h]; simp; omega
  · simp only [if_neg h]; simp; omega
theorem o_has (t x y : Int) (hx : 0 ≤ x ∧ x < 4294967296) (hy : 0 ≤ y ∧ y < 4294967296) : hasB (oA t) (oB t) (oC t) (oD t) x y = decide (t = tileI x y) := by
  rw [Bool.eq_iff_iff, has_iff]
  unfold oA oB oC oD tileI
  by_cases h : 0 ≤ t ∧ t < 64
  · simp only [if_pos h]; simp; omega
  · simp only [if_neg h]; simp; omega
theorem o_meets (r0 r1 r2 r3 t : Int) (hu : U4 r0 r1 r2 r3) (h0 : 0 ≤ t) (h1 : t < 64) : meetsB (oA t) (oB t) (oC t) (oD t) r0 r1 r2 r3 = touchB r0 r1 r2 r3 t := by
  obtain ⟨a, b, c, d, e, f, g, h⟩ := hu
  have ht : 0 ≤ t ∧ t < 64 := ⟨h0, h1⟩
  unfold meetsB touchB
  rw [Bool.eq_iff_iff, Bool.and_eq_true, Bool.not_eq_true', Bool.not_eq_true', empty_iff, empty_iff]
  unfold oA oB oC oD
  simp only [if_pos ht]
  simp
  omega
theorem tile_range (x y : Int) (hx : 0 ≤ x ∧ x < 4294967296) (hy : 0 ≤ y ∧ y < 4294967296) : 0 ≤ tileI x y ∧ tileI x y ≤ 63 := by unfold tileI; omega
theorem has_touch (r0 r1 r2 r3 x y : Int) (h : hasB r0 r1 r2 r3 x y = true) (hx : 0 ≤ x ∧ x < 4294967296) : touchB r0 r1 r2 r3 (tileI x y) = true := by
  have he := has_not_empty h
  rw [has_iff] at h
  unfold touchB
  rw [he]
  unfold tileI
  simp
  omega
theorem mem_tch {r0 r1 r2 r3 : Int} {j n : Nat} : j ∈ tch r0 r1 r2 r3 n ↔ j < n ∧ touchB r0 r1 r2 r3 (j : Int) = true := by simp [tch]
end Go.Proofs.Ytiapllplhjhliaa
