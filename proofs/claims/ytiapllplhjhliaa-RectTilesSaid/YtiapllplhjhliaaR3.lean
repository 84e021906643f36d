/-
  The walks of rect.line, number, first, last, Tile, Of and of the document's Tile and Touches, over every point, rectangle and number of a tile.
  Conditions: coordinates are those of a uint32; the inner functions' arguments lie in 0 .. 7, the number that Touches is asked in 0 .. 63.
-/
import Derived.Test.YtiapllplhjhliaaR2
namespace Go.Proofs.Ytiapllplhjhliaa
open Go.RowKit

theorem ret_i64 {a b : Int} (h : a = b) : Ending.returned (.int .i64 a) = .returned (.int .i64 b) := by rw [h]
/-- The number of the tile of a point. -/
def tileI (x y : Int) : Int := y / 536870912 * 8 + x / 536870912

set_option maxHeartbeats 400000 in
theorem line_any (x : Int) (w : World) (h0 : 0 ≤ x) (h1 : x < 4294967296) : Calls Try.prog 22 #[.int .u32 x] w fun e w' => e = .returned (.int .i64 (x / 536870912)) ∧ w = w' := by
  go_enter Try.func22, Try.ntmps22
  go_wp2_with fail
  go_ret
  exact ⟨rfl, rfl⟩
set_option maxHeartbeats 400000 in
theorem number_any (c r : Int) (w : World) (h0 : 0 ≤ c) (h1 : c ≤ 7) (h2 : 0 ≤ r) (h3 : r ≤ 7) : Calls Try.prog 21 #[.int .i64 c, .int .i64 r] w fun e w' => e = .returned (.int .i64 (r * 8 + c)) ∧ w = w' := by
  go_enter Try.func21, Try.ntmps21
  go_wp2_with fail
  go_ret
  exact ⟨rfl, rfl⟩
set_option maxHeartbeats 400000 in
theorem first_any (l : Int) (w : World) (h0 : 0 ≤ l) (h1 : l ≤ 7) : Calls Try.prog 23 #[.int .i64 l] w fun e w' => e = .returned (.int .u32 (l * 536870912)) ∧ w = w' := by
  go_enter Try.func23, Try.ntmps23
  go_wp2_with fail
  go_ret
  exact ⟨rfl, rfl⟩
set_option maxHeartbeats 400000 in
theorem last_any (l : Int) (w : World) (h0 : 0 ≤ l) (h1 : l ≤ 7) : Calls Try.prog 24 #[.int .i64 l] w fun e w' => e = .returned (.int .u32 (l * 536870912 + 536870911)) ∧ w = w' := by
  go_enter Try.func24, Try.ntmps24
  go_wp2_with fail
  refine (first_any l w h0 h1).mono ?_
  rintro e w' ⟨rfl, rfl⟩
  go_wp2_with fail
  go_ret
  exact ⟨rfl, rfl⟩
set_option maxHeartbeats 400000 in
theorem refTile_any (x y : Int) (w : World) (h0 : 0 ≤ x) (h1 : x < 4294967296) (h2 : 0 ≤ y) (h3 : y < 4294967296) : Calls Try.prog 16 #[.int .u32 x, .int .u32 y] w fun e w' => e = .returned (.int .i64 (tileI x y)) ∧ w = w' := by
  go_enter Try.func16, Try.ntmps16
  go_wp2_with fail
  go_ret
  exact ⟨ret_i64 (by unfold tileI; omega), rfl⟩
set_option maxHeartbeats 400000 in
theorem tile_any (x y : Int) (w : World) (h0 : 0 ≤ x) (h1 : x < 4294967296) (h2 : 0 ≤ y) (h3 : y < 4294967296) : Calls Try.prog 15 #[.int .u32 x, .int .u32 y] w fun e w' => e = .returned (.int .i64 (tileI x y)) ∧ w = w' := by
  go_enter Try.func15, Try.ntmps15
  go_wp2_with fail
  refine (line_any x w h0 h1).mono ?_
  rintro e w' ⟨rfl, rfl⟩
  go_wp2_with fail
  refine (line_any y w h2 h3).mono ?_
  rintro e w' ⟨rfl, rfl⟩
  go_wp2_with fail
  refine (number_any _ _ w (by omega) (by omega) (by omega) (by omega)).mono ?_
  rintro e w' ⟨rfl, rfl⟩
  go_wp2_with fail
  go_ret
  exact ⟨rfl, rfl⟩

set_option maxHeartbeats 400000 in
theorem of_out (t : Int) (w : World) (h : t < 0 ∨ 64 ≤ t) :
    Calls Try.prog 17 #[.int .i64 t] w fun e w' => e = .returned (.agg #[.int .u32 1, .int .u32 0, .int .u32 0, .int .u32 0]) ∧ Below w.heap.size w w' := by
  rcases h with h | h
  · go_enter Try.func17, Try.ntmps17
    go_wp2_with fail
    exact bodyPost_ret (v := .agg #[.int .u32 1, .int .u32 0, .int .u32 0, .int .u32 0]) (by simp [results, Try.results17, go_sem]) rfl ⟨rfl, (Below.refl _ _).alloc (Nat.le_refl _) _⟩
  · have h' : ¬ t < 0 := by omega
    go_enter Try.func17, Try.ntmps17
    go_wp2_with fail
    exact bodyPost_ret (v := .agg #[.int .u32 1, .int .u32 0, .int .u32 0, .int .u32 0]) (by simp [results, Try.results17, go_sem]) rfl ⟨rfl, (Below.refl _ _).alloc (Nat.le_refl _) _⟩
set_option maxHeartbeats 1000000 in
theorem of_in (t : Int) (w : World) (h0 : 0 ≤ t) (h1 : t < 64) :
    Calls Try.prog 17 #[.int .i64 t] w fun e w' => e = .returned (.agg #[.int .u32 (t % 8 * 536870912), .int .u32 (t / 8 * 536870912), .int .u32 (t % 8 * 536870912 + 536870911), .int .u32 (t / 8 * 536870912 + 536870911)]) ∧ Below w.heap.size w w' := by
  go_enter Try.func17, Try.ntmps17
  go_wp2_with fail
  refine (first_any (t % 8) _ (by omega) (by omega)).mono ?_
  rintro e w' ⟨rfl, rfl⟩
  go_wp2_with fail
  refine (first_any (t / 8) _ (by omega) (by omega)).mono ?_
  rintro e w' ⟨rfl, rfl⟩
  go_wp2_with fail
  refine (last_any (t % 8) _ (by omega) (by omega)).mono ?_
  rintro e w' ⟨rfl, rfl⟩
  go_wp2_with fail
  refine (last_any (t / 8) _ (by omega) (by omega)).mono ?_
  rintro e w' ⟨rfl, rfl⟩
  go_wp2_with fail
  exact bodyPost_ret (v := .agg #[.int .u32 (t % 8 * 536870912), .int .u32 (t / 8 * 536870912), .int .u32 (t % 8 * 536870912 + 536870911), .int .u32 (t / 8 * 536870912 + 536870911)]) (by simp [results, Try.results17, go_sem]) rfl ⟨rfl, (Below.refl _ _).alloc (Nat.le_refl _) _⟩

/-- Has the tile a point of the rectangle? -/
def touchB (x0 y0 x1 y1 t : Int) : Bool :=
  !emptyB x0 y0 x1 y1 && (decide (x0 / 536870912 ≤ t % 8) && decide (t % 8 ≤ x1 / 536870912) && decide (y0 / 536870912 ≤ t / 8) && decide (t / 8 ≤ y1 / 536870912))
/-- The four coordinates are those of uint32s. -/
structure U4 (x0 y0 x1 y1 : Int) : Prop where
  a : 0 ≤ x0
  b : x0 < 4294967296
  c : 0 ≤ y0
  d : y0 < 4294967296
  e : 0 ≤ x1
  f : x1 < 4294967296
  g : 0 ≤ y1
  h : y1 < 4294967296
set_option maxHeartbeats 1000000 in
theorem touches_any (x0 y0 x1 y1 t : Int) (w : World) (hu : U4 x0 y0 x1 y1) (h0 : 0 ≤ t) (h1 : t < 64) :
    Calls Try.prog 25 #[.agg #[.int .u32 x0, .int .u32 y0, .int .u32 x1, .int .u32 y1], .int .i64 t] w fun e w' => e = .returned (.bool (touchB x0 y0 x1 y1 t)) ∧ Below w.heap.size w w' := by
  obtain ⟨a, b, c, d, e, f, g, h⟩ := hu
  go_enter Try.func25, Try.ntmps25
  go_wp2_with fail
  all_goals
    go_ret
    exact ⟨ret_bool (by unfold touchB emptyB; first | (simp; done) | (simp; omega) | (rw [Bool.eq_iff_iff]; simp; omega)), (Below.refl _ _).alloc (Nat.le_refl _) _⟩
end Go.Proofs.Ytiapllplhjhliaa
