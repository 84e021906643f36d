/-
  The walks of rect.Has, rect.Empty, rect.Meet, rect.All, rect.Meets and of the document's Has, over every rectangle.
  Conditions: none.
-/
import Derived.Test.YtiapllplhjhliaaBase
import Derived.Test.YtiapllplhjhliaaChecked
namespace Go.Proofs.Ytiapllplhjhliaa
open Go.RowKit

/-- Does the point (x, y) lie in the rectangle? -/
def hasB (x0 y0 x1 y1 x y : Int) : Bool := decide (x0 ≤ x) && decide (x ≤ x1) && decide (y0 ≤ y) && decide (y ≤ y1)
/-- Has the rectangle no point? -/
def emptyB (x0 y0 x1 y1 : Int) : Bool := decide (x1 < x0) || decide (y1 < y0)
theorem ret_bool {a b : Bool} (h : a = b) : Ending.returned (.bool a) = .returned (.bool b) := by rw [h]

set_option maxHeartbeats 400000 in
theorem has_any (x0 y0 x1 y1 x y : Int) (w : World) :
    Calls Try.prog 7 #[.agg #[.int .u32 x0, .int .u32 y0, .int .u32 x1, .int .u32 y1], .int .u32 x, .int .u32 y] w fun e w' => e = .returned (.bool (hasB x0 y0 x1 y1 x y)) ∧ Below w.heap.size w w' := by
  go_enter Try.func7, Try.ntmps7
  go_wp2_with fail
  all_goals
    go_ret
    exact ⟨ret_bool (by unfold hasB; simp; try omega), (Below.refl _ _).alloc (Nat.le_refl _) _⟩

set_option maxHeartbeats 400000 in
theorem refHas_any (x0 y0 x1 y1 x y : Int) (w : World) :
    Calls Try.prog 6 #[.agg #[.int .u32 x0, .int .u32 y0, .int .u32 x1, .int .u32 y1], .int .u32 x, .int .u32 y] w fun e w' => e = .returned (.bool (hasB x0 y0 x1 y1 x y)) ∧ Below w.heap.size w w' := by
  go_enter Try.func6, Try.ntmps6
  go_wp2_with fail
  all_goals
    go_ret
    exact ⟨ret_bool (by unfold hasB; simp; try omega), (Below.refl _ _).alloc (Nat.le_refl _) _⟩

set_option maxHeartbeats 400000 in
theorem empty_any (x0 y0 x1 y1 : Int) (w : World) :
    Calls Try.prog 10 #[.agg #[.int .u32 x0, .int .u32 y0, .int .u32 x1, .int .u32 y1]] w fun e w' => e = .returned (.bool (emptyB x0 y0 x1 y1)) ∧ Below w.heap.size w w' := by
  go_enter Try.func10, Try.ntmps10
  go_wp2_with fail
  all_goals
    go_ret
    exact ⟨ret_bool (by unfold emptyB; simp; try omega), (Below.refl _ _).alloc (Nat.le_refl _) _⟩

theorem has_is {x0 y0 x1 y1 x y : Int} {b : Bool} (h : hasB x0 y0 x1 y1 x y = b) (w : World) :
    Calls Try.prog 7 #[.agg #[.int .u32 x0, .int .u32 y0, .int .u32 x1, .int .u32 y1], .int .u32 x, .int .u32 y] w fun e w' => e = .returned (.bool b) ∧ Below w.heap.size w w' := by
  subst h; exact has_any _ _ _ _ _ _ _
theorem refHas_is {x0 y0 x1 y1 x y : Int} {b : Bool} (h : hasB x0 y0 x1 y1 x y = b) (w : World) :
    Calls Try.prog 6 #[.agg #[.int .u32 x0, .int .u32 y0, .int .u32 x1, .int .u32 y1], .int .u32 x, .int .u32 y] w fun e w' => e = .returned (.bool b) ∧ Below w.heap.size w w' := by
  subst h; exact refHas_any _ _ _ _ _ _ _
theorem empty_is {x0 y0 x1 y1 : Int} {b : Bool} (h : emptyB x0 y0 x1 y1 = b) (w : World) :
    Calls Try.prog 10 #[.agg #[.int .u32 x0, .int .u32 y0, .int .u32 x1, .int .u32 y1]] w fun e w' => e = .returned (.bool b) ∧ Below w.heap.size w w' := by
  subst h; exact empty_any _ _ _ _ _

set_option maxHeartbeats 400000 in
theorem all_any (w : World) :
    Calls Try.prog 13 #[] w fun e w' => e = .returned (.agg #[.int .u32 0, .int .u32 0, .int .u32 4294967295, .int .u32 4294967295]) ∧ Below w.heap.size w w' := by
  go_enter Try.func13, Try.ntmps13
  go_wp2_with fail
  exact bodyPost_ret (v := .agg #[.int .u32 0, .int .u32 0, .int .u32 4294967295, .int .u32 4294967295]) (by simp [results, Try.results13, go_sem]) rfl ⟨rfl, (Below.refl _ _).alloc (Nat.le_refl _) _⟩

set_option maxHeartbeats 1000000 in
theorem meet_any (x0 y0 x1 y1 u0 v0 u1 v1 : Int) (w : World) :
    Calls Try.prog 8 #[.agg #[.int .u32 x0, .int .u32 y0, .int .u32 x1, .int .u32 y1], .agg #[.int .u32 u0, .int .u32 v0, .int .u32 u1, .int .u32 v1]] w
      fun e w' => e = .returned (.agg #[.int .u32 (max x0 u0), .int .u32 (max y0 v0), .int .u32 (min x1 u1), .int .u32 (min y1 v1)]) ∧ Below w.heap.size w w' := by
  go_enter Try.func8, Try.ntmps8
  go_wp2_with fail
  all_goals
    exact bodyPost_ret (v := .agg #[.int .u32 (max x0 u0), .int .u32 (max y0 v0), .int .u32 (min x1 u1), .int .u32 (min y1 v1)]) (by simp [results, Try.results8, go_sem]; omega) rfl
      ⟨rfl, (((Below.refl _ _).alloc (Nat.le_refl _) _).alloc (by simp) _).alloc (by simp; omega) _⟩

/-- Have the two rectangles a point in common? -/
def meetsB (x0 y0 x1 y1 u0 v0 u1 v1 : Int) : Bool := !emptyB (max x0 u0) (max y0 v0) (min x1 u1) (min y1 v1)
/-- Do all points of the first lie in the second? -/
def withinB (x0 y0 x1 y1 u0 v0 u1 v1 : Int) : Bool := emptyB x0 y0 x1 y1 || (decide (u0 ≤ x0) && decide (v0 ≤ y0) && decide (x1 ≤ u1) && decide (y1 ≤ v1))

set_option maxHeartbeats 1000000 in
theorem meets_any (x0 y0 x1 y1 u0 v0 u1 v1 : Int) (w : World) :
    Calls Try.prog 11 #[.agg #[.int .u32 x0, .int .u32 y0, .int .u32 x1, .int .u32 y1], .agg #[.int .u32 u0, .int .u32 v0, .int .u32 u1, .int .u32 v1]] w
      fun e w' => e = .returned (.bool (meetsB x0 y0 x1 y1 u0 v0 u1 v1)) ∧ Below w.heap.size w w' := by
  go_enter Try.func11, Try.ntmps11
  go_wp2_with fail
  refine (meet_any x0 y0 x1 y1 u0 v0 u1 v1 _).mono ?_
  rintro e w1 ⟨rfl, hb⟩
  have HB := Lib.hid hb
  clear hb
  go_wp2_with fail
  refine (empty_any _ _ _ _ _).mono ?_
  rintro e w2 ⟨rfl, hb⟩
  have HB2 := Lib.hid hb
  clear hb
  go_wp2_with fail
  go_ret
  have h1 := HB.out
  have h2 := HB2.out
  exact ⟨rfl, (((Below.refl _ _).alloc (Nat.le_refl _) _).alloc (by simp) _).trans ((h1.mono (by simp; omega)).trans (h2.mono (by have := h1.size; simp at this; omega)))⟩

theorem meets_is {x0 y0 x1 y1 u0 v0 u1 v1 : Int} {b : Bool} (h : meetsB x0 y0 x1 y1 u0 v0 u1 v1 = b) (w : World) :
    Calls Try.prog 11 #[.agg #[.int .u32 x0, .int .u32 y0, .int .u32 x1, .int .u32 y1], .agg #[.int .u32 u0, .int .u32 v0, .int .u32 u1, .int .u32 v1]] w
      fun e w' => e = .returned (.bool b) ∧ Below w.heap.size w w' := by
  subst h; exact meets_any _ _ _ _ _ _ _ _ _
/-- What a call that only makes memory leaves as it was. -/
theorem keep {N : Nat} {W w1 : World} (hb : Below W.heap.size W w1) (hN : N ≤ W.heap.size) :
    (∀ b o, b < N → w1.cell? ⟨b, o, none⟩ = W.cell? ⟨b, o, none⟩) ∧ (∀ b o, b < N → w1.frozen? ⟨b, o, none⟩ = W.frozen? ⟨b, o, none⟩) :=
  ⟨fun b o h => hb.cell (p := ⟨b, o, none⟩) (Nat.lt_of_lt_of_le h hN), fun b o h => hb.frozen (p := ⟨b, o, none⟩) (Nat.lt_of_lt_of_le h hN)⟩
theorem chain {B : Nat} {w w1 w2 : World} (h : Below B w w1) (hb : Below w1.heap.size w1 w2) (hB : B ≤ w.heap.size) : Below B w w2 :=
  h.trans (hb.mono (Nat.le_trans hB h.size))

set_option maxHeartbeats 1000000 in
theorem hull_any (x0 y0 x1 y1 u0 v0 u1 v1 : Int) (w : World) (ha : emptyB x0 y0 x1 y1 = false) (hb : emptyB u0 v0 u1 v1 = false) :
    Calls Try.prog 9 #[.agg #[.int .u32 x0, .int .u32 y0, .int .u32 x1, .int .u32 y1], .agg #[.int .u32 u0, .int .u32 v0, .int .u32 u1, .int .u32 v1]] w
      fun e w' => e = .returned (.agg #[.int .u32 (min x0 u0), .int .u32 (min y0 v0), .int .u32 (max x1 u1), .int .u32 (max y1 v1)]) ∧ Below w.heap.size w w' := by
  go_enter Try.func9, Try.ntmps9
  go_wp2_with fail
  refine (empty_any _ _ _ _ _).mono ?_
  rintro e w1 ⟨rfl, h1⟩
  obtain ⟨hc1, hf1⟩ := keep (N := w.heap.size + 3) h1 (by simp)
  have z1 : w.heap.size + 3 ≤ w1.heap.size := by have := h1.size; simp at this; omega
  have B1 := Lib.hid (chain ((((Below.refl w.heap.size w).alloc (Nat.le_refl _) _).alloc (by simp) _).alloc (by simp; omega) _) h1 (Nat.le_refl _))
  clear h1
  go_wp2_with fail
  refine (empty_any _ _ _ _ _).mono ?_
  rintro e w2 ⟨rfl, h2⟩
  obtain ⟨hc2, hf2⟩ := keep (N := w.heap.size + 3) h2 z1
  have B2 := Lib.hid (chain B1.out h2 (Nat.le_refl _))
  clear B1 h2
  go_wp2_with fail
  all_goals
    exact bodyPost_ret (v := .agg #[.int .u32 (min x0 u0), .int .u32 (min y0 v0), .int .u32 (max x1 u1), .int .u32 (max y1 v1)]) (by simp [results, Try.results9, go_sem, hc2, hc1]; omega) rfl
      ⟨rfl, (((B2.out.setCell (by simp; omega) _).setCell (by simp; omega) _).setCell (by simp; omega) _).setCell (by simp; omega) _⟩

set_option maxHeartbeats 1000000 in
theorem hull_left (x0 y0 x1 y1 u0 v0 u1 v1 : Int) (w : World) (ha : emptyB x0 y0 x1 y1 = true) :
    Calls Try.prog 9 #[.agg #[.int .u32 x0, .int .u32 y0, .int .u32 x1, .int .u32 y1], .agg #[.int .u32 u0, .int .u32 v0, .int .u32 u1, .int .u32 v1]] w
      fun e w' => e = .returned (.agg #[.int .u32 u0, .int .u32 v0, .int .u32 u1, .int .u32 v1]) ∧ Below w.heap.size w w' := by
  go_enter Try.func9, Try.ntmps9
  go_wp2_with fail
  refine (empty_any _ _ _ _ _).mono ?_
  rintro e w1 ⟨rfl, h1⟩
  obtain ⟨hc1, hf1⟩ := keep (N := w.heap.size + 3) h1 (by simp)
  have B1 := Lib.hid (chain ((((Below.refl w.heap.size w).alloc (Nat.le_refl _) _).alloc (by simp) _).alloc (by simp; omega) _) h1 (Nat.le_refl _))
  clear h1
  go_wp2_with fail
  exact bodyPost_ret (v := .agg #[.int .u32 u0, .int .u32 v0, .int .u32 u1, .int .u32 v1]) (by simp [results, Try.results9, go_sem, hc1]) rfl
      ⟨rfl, (((B1.out.setCell (by simp; omega) _).setCell (by simp; omega) _).setCell (by simp; omega) _).setCell (by simp; omega) _⟩

set_option maxHeartbeats 1000000 in
theorem hull_right (x0 y0 x1 y1 u0 v0 u1 v1 : Int) (w : World) (ha : emptyB x0 y0 x1 y1 = false) (hb : emptyB u0 v0 u1 v1 = true) :
    Calls Try.prog 9 #[.agg #[.int .u32 x0, .int .u32 y0, .int .u32 x1, .int .u32 y1], .agg #[.int .u32 u0, .int .u32 v0, .int .u32 u1, .int .u32 v1]] w
      fun e w' => e = .returned (.agg #[.int .u32 x0, .int .u32 y0, .int .u32 x1, .int .u32 y1]) ∧ Below w.heap.size w w' := by
  go_enter Try.func9, Try.ntmps9
  go_wp2_with fail
  refine (empty_any _ _ _ _ _).mono ?_
  rintro e w1 ⟨rfl, h1⟩
  obtain ⟨hc1, hf1⟩ := keep (N := w.heap.size + 3) h1 (by simp)
  have z1 : w.heap.size + 3 ≤ w1.heap.size := by have := h1.size; simp at this; omega
  have B1 := Lib.hid (chain ((((Below.refl w.heap.size w).alloc (Nat.le_refl _) _).alloc (by simp) _).alloc (by simp; omega) _) h1 (Nat.le_refl _))
  clear h1
  go_wp2_with fail
  refine (empty_any _ _ _ _ _).mono ?_
  rintro e w2 ⟨rfl, h2⟩
  obtain ⟨hc2, hf2⟩ := keep (N := w.heap.size + 3) h2 z1
  have B2 := Lib.hid (chain B1.out h2 (Nat.le_refl _))
  clear B1 h2
  go_wp2_with fail
  exact bodyPost_ret (v := .agg #[.int .u32 x0, .int .u32 y0, .int .u32 x1, .int .u32 y1]) (by simp [results, Try.results9, go_sem, hc2, hc1]) rfl
      ⟨rfl, (((B2.out.setCell (by simp; omega) _).setCell (by simp; omega) _).setCell (by simp; omega) _).setCell (by simp; omega) _⟩
end Go.Proofs.Ytiapllplhjhliaa
