/-
  Boxes: Right, Has, Cells, the law's own, and the document's Right and Has.
  Conditions: none beyond those that each theorem names.
-/
import Derived.Test.YtgjkbnplpioloaaB26
namespace Go.Proofs.Ytgjkbnplpioloaa
open Go.RowKit
attribute [local go_sem] Oper.semAt_some
set_option maxRecDepth 20000

def rightX (b : Bx) : Bool := decide (0 ≤ b.x0) && (decide (b.x0 < b.x1) && (decide (b.x1 ≤ 8) && (decide (0 ≤ b.y0) && (decide (b.y0 < b.y1) && decide (b.y1 ≤ 8)))))
structure RtX (b : Bx) : Prop where
  x0 : 0 ≤ b.x0
  x1 : b.x0 < b.x1
  x2 : b.x1 ≤ 8
  y0 : 0 ≤ b.y0
  y1 : b.y0 < b.y1
  y2 : b.y1 ≤ 8
theorem rightX_iff (b : Bx) : rightX b = true ↔ RtX b := by
  unfold rightX
  simp only [Bool.and_eq_true, decide_eq_true_eq]
  exact ⟨fun ⟨a, b, c, d, e, f⟩ => ⟨a, b, c, d, e, f⟩, fun h => ⟨h.x0, h.x1, h.x2, h.y0, h.y1, h.y2⟩⟩
theorem rightX_no {b : Bx} (h : ¬ RtX b) : rightX b = false := by
  cases e : rightX b with
  | false => rfl
  | true => exact absurd ((rightX_iff b).1 e) h
def hasX (b : Bx) (x y : Int) : Bool := decide (b.x0 ≤ x) && (decide (x < b.x1) && (decide (b.y0 ≤ y) && decide (y < b.y1)))
def cellsX (b : Bx) : Int := if rightX b = true then (b.x1 - b.x0) * (b.y1 - b.y0) else 0
set_option maxHeartbeats 1600000 in
theorem xRight_any (b : Bx) (w : World) : Calls Try.prog 8 #[.agg (bxA b)] w (RetV w (.bool (rightX b))) := by
  obtain ⟨x0, y0, x1, y1⟩ := b
  have hA := At.new w 23 (bxA ⟨x0, y0, x1, y1⟩)
  have c0 : (w.alloc (.cells (bxA ⟨x0, y0, x1, y1⟩) 23)).cell? ⟨w.heap.size, 0, none⟩ = some (.int .i64 x0) := hA.cell 0
  have c1 : (w.alloc (.cells (bxA ⟨x0, y0, x1, y1⟩) 23)).cell? ⟨w.heap.size, 1, none⟩ = some (.int .i64 y0) := hA.cell 1
  have c2 : (w.alloc (.cells (bxA ⟨x0, y0, x1, y1⟩) 23)).cell? ⟨w.heap.size, 2, none⟩ = some (.int .i64 x1) := hA.cell 2
  have c3 : (w.alloc (.cells (bxA ⟨x0, y0, x1, y1⟩) 23)).cell? ⟨w.heap.size, 3, none⟩ = some (.int .i64 y1) := hA.cell 3
  have HB : Hid (Below w.heap.size w (w.alloc (.cells (bxA ⟨x0, y0, x1, y1⟩) 23))) := (Below.refl _ w).alloc (Nat.le_refl _) _
  clear hA
  by_cases h0 : 0 ≤ x0
  · by_cases h1 : x0 < x1
    · by_cases h2 : x1 ≤ 8
      · by_cases h3 : 0 ≤ y0
        · by_cases h4 : y0 < y1
          · by_cases h5 : y1 ≤ 8
            · have HE : Hid (rightX ⟨x0, y0, x1, y1⟩ = true) := by show _ = _; exact (rightX_iff _).2 ⟨by assumption, by assumption, by assumption, by assumption, by assumption, by assumption⟩
              go_enter Try.func8, Try.ntmps8
              go_wp2_with fail
              go_ret
              exact ⟨by rw [HE.out] <;> rfl, HB.out⟩
            · have HE : Hid (rightX ⟨x0, y0, x1, y1⟩ = false) := by show _ = _; exact rightX_no fun h => by have := h.x0; have := h.x1; have := h.x2; have := h.y0; have := h.y1; have := h.y2; simp only at *; omega
              go_enter Try.func8, Try.ntmps8
              go_wp2_with fail
              go_ret
              exact ⟨by rw [HE.out] <;> rfl, HB.out⟩
          · have HE : Hid (rightX ⟨x0, y0, x1, y1⟩ = false) := by show _ = _; exact rightX_no fun h => by have := h.x0; have := h.x1; have := h.x2; have := h.y0; have := h.y1; have := h.y2; simp only at *; omega
            go_enter Try.func8, Try.ntmps8
            go_wp2_with fail
            go_ret
            exact ⟨by rw [HE.out] <;> rfl, HB.out⟩
        · have HE : Hid (rightX ⟨x0, y0, x1, y1⟩ = false) := by show _ = _; exact rightX_no fun h => by have := h.x0; have := h.x1; have := h.x2; have := h.y0; have := h.y1; have := h.y2; simp only at *; omega
          go_enter Try.func8, Try.ntmps8
          go_wp2_with fail
          go_ret
          exact ⟨by rw [HE.out] <;> rfl, HB.out⟩
      · have HE : Hid (rightX ⟨x0, y0, x1, y1⟩ = false) := by show _ = _; exact rightX_no fun h => by have := h.x0; have := h.x1; have := h.x2; have := h.y0; have := h.y1; have := h.y2; simp only at *; omega
        go_enter Try.func8, Try.ntmps8
        go_wp2_with fail
        go_ret
        exact ⟨by rw [HE.out] <;> rfl, HB.out⟩
    · have HE : Hid (rightX ⟨x0, y0, x1, y1⟩ = false) := by show _ = _; exact rightX_no fun h => by have := h.x0; have := h.x1; have := h.x2; have := h.y0; have := h.y1; have := h.y2; simp only at *; omega
      go_enter Try.func8, Try.ntmps8
      go_wp2_with fail
      go_ret
      exact ⟨by rw [HE.out] <;> rfl, HB.out⟩
  · have HE : Hid (rightX ⟨x0, y0, x1, y1⟩ = false) := by show _ = _; exact rightX_no fun h => by have := h.x0; have := h.x1; have := h.x2; have := h.y0; have := h.y1; have := h.y2; simp only at *; omega
    go_enter Try.func8, Try.ntmps8
    go_wp2_with fail
    go_ret
    exact ⟨by rw [HE.out] <;> rfl, HB.out⟩
set_option maxHeartbeats 1600000 in
theorem rRight_any (b : Bx) (w : World) : Calls Try.prog 9 #[.agg (bxA b)] w (RetV w (.bool (rightX b))) := by
  obtain ⟨x0, y0, x1, y1⟩ := b
  have hA := At.new w 26 (bxA ⟨x0, y0, x1, y1⟩)
  have c0 : (w.alloc (.cells (bxA ⟨x0, y0, x1, y1⟩) 26)).cell? ⟨w.heap.size, 0, none⟩ = some (.int .i64 x0) := hA.cell 0
  have c1 : (w.alloc (.cells (bxA ⟨x0, y0, x1, y1⟩) 26)).cell? ⟨w.heap.size, 1, none⟩ = some (.int .i64 y0) := hA.cell 1
  have c2 : (w.alloc (.cells (bxA ⟨x0, y0, x1, y1⟩) 26)).cell? ⟨w.heap.size, 2, none⟩ = some (.int .i64 x1) := hA.cell 2
  have c3 : (w.alloc (.cells (bxA ⟨x0, y0, x1, y1⟩) 26)).cell? ⟨w.heap.size, 3, none⟩ = some (.int .i64 y1) := hA.cell 3
  have HB : Hid (Below w.heap.size w (w.alloc (.cells (bxA ⟨x0, y0, x1, y1⟩) 26))) := (Below.refl _ w).alloc (Nat.le_refl _) _
  clear hA
  by_cases h0 : 0 ≤ x0
  · by_cases h1 : 0 ≤ y0
    · by_cases h2 : x1 ≤ 8
      · by_cases h3 : y1 ≤ 8
        · by_cases h4 : x0 < x1
          · by_cases h5 : y0 < y1
            · have HE : Hid (rightX ⟨x0, y0, x1, y1⟩ = true) := by show _ = _; exact (rightX_iff _).2 ⟨by assumption, by assumption, by assumption, by assumption, by assumption, by assumption⟩
              go_enter Try.func9, Try.ntmps9
              go_wp2_with fail
              go_ret
              exact ⟨by rw [HE.out] <;> rfl, HB.out⟩
            · have HE : Hid (rightX ⟨x0, y0, x1, y1⟩ = false) := by show _ = _; exact rightX_no fun h => by have := h.x0; have := h.x1; have := h.x2; have := h.y0; have := h.y1; have := h.y2; simp only at *; omega
              go_enter Try.func9, Try.ntmps9
              go_wp2_with fail
              go_ret
              exact ⟨by rw [HE.out] <;> rfl, HB.out⟩
          · have HE : Hid (rightX ⟨x0, y0, x1, y1⟩ = false) := by show _ = _; exact rightX_no fun h => by have := h.x0; have := h.x1; have := h.x2; have := h.y0; have := h.y1; have := h.y2; simp only at *; omega
            go_enter Try.func9, Try.ntmps9
            go_wp2_with fail
            go_ret
            exact ⟨by rw [HE.out] <;> rfl, HB.out⟩
        · have HE : Hid (rightX ⟨x0, y0, x1, y1⟩ = false) := by show _ = _; exact rightX_no fun h => by have := h.x0; have := h.x1; have := h.x2; have := h.y0; have := h.y1; have := h.y2; simp only at *; omega
          go_enter Try.func9, Try.ntmps9
          go_wp2_with fail
          go_ret
          exact ⟨by rw [HE.out] <;> rfl, HB.out⟩
      · have HE : Hid (rightX ⟨x0, y0, x1, y1⟩ = false) := by show _ = _; exact rightX_no fun h => by have := h.x0; have := h.x1; have := h.x2; have := h.y0; have := h.y1; have := h.y2; simp only at *; omega
        go_enter Try.func9, Try.ntmps9
        go_wp2_with fail
        go_ret
        exact ⟨by rw [HE.out] <;> rfl, HB.out⟩
    · have HE : Hid (rightX ⟨x0, y0, x1, y1⟩ = false) := by show _ = _; exact rightX_no fun h => by have := h.x0; have := h.x1; have := h.x2; have := h.y0; have := h.y1; have := h.y2; simp only at *; omega
      go_enter Try.func9, Try.ntmps9
      go_wp2_with fail
      go_ret
      exact ⟨by rw [HE.out] <;> rfl, HB.out⟩
  · have HE : Hid (rightX ⟨x0, y0, x1, y1⟩ = false) := by show _ = _; exact rightX_no fun h => by have := h.x0; have := h.x1; have := h.x2; have := h.y0; have := h.y1; have := h.y2; simp only at *; omega
    go_enter Try.func9, Try.ntmps9
    go_wp2_with fail
    go_ret
    exact ⟨by rw [HE.out] <;> rfl, HB.out⟩
set_option maxHeartbeats 1600000 in
theorem xHas_any (b : Bx) (x y : Int) (w : World) : Calls Try.prog 11 #[.agg (bxA b), .int .i64 x, .int .i64 y] w (RetV w (.bool (hasX b x y))) := by
  obtain ⟨x0, y0, x1, y1⟩ := b
  have hA := At.new w 23 (bxA ⟨x0, y0, x1, y1⟩)
  have c0 : (w.alloc (.cells (bxA ⟨x0, y0, x1, y1⟩) 23)).cell? ⟨w.heap.size, 0, none⟩ = some (.int .i64 x0) := hA.cell 0
  have c1 : (w.alloc (.cells (bxA ⟨x0, y0, x1, y1⟩) 23)).cell? ⟨w.heap.size, 1, none⟩ = some (.int .i64 y0) := hA.cell 1
  have c2 : (w.alloc (.cells (bxA ⟨x0, y0, x1, y1⟩) 23)).cell? ⟨w.heap.size, 2, none⟩ = some (.int .i64 x1) := hA.cell 2
  have c3 : (w.alloc (.cells (bxA ⟨x0, y0, x1, y1⟩) 23)).cell? ⟨w.heap.size, 3, none⟩ = some (.int .i64 y1) := hA.cell 3
  have HB : Hid (Below w.heap.size w (w.alloc (.cells (bxA ⟨x0, y0, x1, y1⟩) 23))) := (Below.refl _ w).alloc (Nat.le_refl _) _
  clear hA
  by_cases h0 : x0 ≤ x
  · by_cases h1 : x < x1
    · by_cases h2 : y0 ≤ y
      · by_cases h3 : y < y1
        · have HE : Hid (hasX ⟨x0, y0, x1, y1⟩ x y = true) := by show _ = _; simp only [hasX, Bool.and_eq_true, decide_eq_true_eq]; omega
          go_enter Try.func11, Try.ntmps11
          go_wp2_with fail
          go_ret
          exact ⟨by rw [HE.out] <;> rfl, HB.out⟩
        · have HE : Hid (hasX ⟨x0, y0, x1, y1⟩ x y = false) := by show _ = _; simp only [hasX, Bool.and_eq_false_iff, decide_eq_false_iff_not]; omega
          go_enter Try.func11, Try.ntmps11
          go_wp2_with fail
          go_ret
          exact ⟨by rw [HE.out] <;> rfl, HB.out⟩
      · have HE : Hid (hasX ⟨x0, y0, x1, y1⟩ x y = false) := by show _ = _; simp only [hasX, Bool.and_eq_false_iff, decide_eq_false_iff_not]; omega
        go_enter Try.func11, Try.ntmps11
        go_wp2_with fail
        go_ret
        exact ⟨by rw [HE.out] <;> rfl, HB.out⟩
    · have HE : Hid (hasX ⟨x0, y0, x1, y1⟩ x y = false) := by show _ = _; simp only [hasX, Bool.and_eq_false_iff, decide_eq_false_iff_not]; omega
      go_enter Try.func11, Try.ntmps11
      go_wp2_with fail
      go_ret
      exact ⟨by rw [HE.out] <;> rfl, HB.out⟩
  · have HE : Hid (hasX ⟨x0, y0, x1, y1⟩ x y = false) := by show _ = _; simp only [hasX, Bool.and_eq_false_iff, decide_eq_false_iff_not]; omega
    go_enter Try.func11, Try.ntmps11
    go_wp2_with fail
    go_ret
    exact ⟨by rw [HE.out] <;> rfl, HB.out⟩
set_option maxHeartbeats 1600000 in
theorem rHas_any (b : Bx) (x y : Int) (w : World) : Calls Try.prog 12 #[.agg (bxA b), .int .i64 x, .int .i64 y] w (RetV w (.bool (hasX b x y))) := by
  obtain ⟨x0, y0, x1, y1⟩ := b
  have hA := At.new w 26 (bxA ⟨x0, y0, x1, y1⟩)
  have c0 : (w.alloc (.cells (bxA ⟨x0, y0, x1, y1⟩) 26)).cell? ⟨w.heap.size, 0, none⟩ = some (.int .i64 x0) := hA.cell 0
  have c1 : (w.alloc (.cells (bxA ⟨x0, y0, x1, y1⟩) 26)).cell? ⟨w.heap.size, 1, none⟩ = some (.int .i64 y0) := hA.cell 1
  have c2 : (w.alloc (.cells (bxA ⟨x0, y0, x1, y1⟩) 26)).cell? ⟨w.heap.size, 2, none⟩ = some (.int .i64 x1) := hA.cell 2
  have c3 : (w.alloc (.cells (bxA ⟨x0, y0, x1, y1⟩) 26)).cell? ⟨w.heap.size, 3, none⟩ = some (.int .i64 y1) := hA.cell 3
  have HB : Hid (Below w.heap.size w (w.alloc (.cells (bxA ⟨x0, y0, x1, y1⟩) 26))) := (Below.refl _ w).alloc (Nat.le_refl _) _
  clear hA
  by_cases h0 : x0 ≤ x
  · by_cases h1 : x < x1
    · by_cases h2 : y0 ≤ y
      · by_cases h3 : y < y1
        · have HE : Hid (hasX ⟨x0, y0, x1, y1⟩ x y = true) := by show _ = _; simp only [hasX, Bool.and_eq_true, decide_eq_true_eq]; omega
          go_enter Try.func12, Try.ntmps12
          go_wp2_with fail
          go_ret
          exact ⟨by rw [HE.out] <;> rfl, HB.out⟩
        · have HE : Hid (hasX ⟨x0, y0, x1, y1⟩ x y = false) := by show _ = _; simp only [hasX, Bool.and_eq_false_iff, decide_eq_false_iff_not]; omega
          go_enter Try.func12, Try.ntmps12
          go_wp2_with fail
          go_ret
          exact ⟨by rw [HE.out] <;> rfl, HB.out⟩
      · have HE : Hid (hasX ⟨x0, y0, x1, y1⟩ x y = false) := by show _ = _; simp only [hasX, Bool.and_eq_false_iff, decide_eq_false_iff_not]; omega
        go_enter Try.func12, Try.ntmps12
        go_wp2_with fail
        go_ret
        exact ⟨by rw [HE.out] <;> rfl, HB.out⟩
    · have HE : Hid (hasX ⟨x0, y0, x1, y1⟩ x y = false) := by show _ = _; simp only [hasX, Bool.and_eq_false_iff, decide_eq_false_iff_not]; omega
      go_enter Try.func12, Try.ntmps12
      go_wp2_with fail
      go_ret
      exact ⟨by rw [HE.out] <;> rfl, HB.out⟩
  · have HE : Hid (hasX ⟨x0, y0, x1, y1⟩ x y = false) := by show _ = _; simp only [hasX, Bool.and_eq_false_iff, decide_eq_false_iff_not]; omega
    go_enter Try.func12, Try.ntmps12
    go_wp2_with fail
    go_ret
    exact ⟨by rw [HE.out] <;> rfl, HB.out⟩
theorem bx_lit (b : Bx) : (#[.int .i64 b.x0, .int .i64 b.y0, .int .i64 b.x1, .int .i64 b.y1] : Array Value) = bxA b := rfl
set_option maxHeartbeats 1600000 in
theorem own_any (b : Bx) (w : World) : Calls Try.prog 10 #[.agg (bxA b)] w (RetV w (.agg (bxA b))) := by
  have hA := (At.new w 23 (bxA b)).alloc (.cells (bxA zbx) 26)
  have c0 : ((w.alloc (.cells (bxA b) 23)).alloc (.cells (bxA zbx) 26)).cell? ⟨w.heap.size, 0, none⟩ = some (.int .i64 b.x0) := hA.cell 0
  have c1 : ((w.alloc (.cells (bxA b) 23)).alloc (.cells (bxA zbx) 26)).cell? ⟨w.heap.size, 1, none⟩ = some (.int .i64 b.y0) := hA.cell 1
  have c2 : ((w.alloc (.cells (bxA b) 23)).alloc (.cells (bxA zbx) 26)).cell? ⟨w.heap.size, 2, none⟩ = some (.int .i64 b.x1) := hA.cell 2
  have c3 : ((w.alloc (.cells (bxA b) 23)).alloc (.cells (bxA zbx) 26)).cell? ⟨w.heap.size, 3, none⟩ = some (.int .i64 b.y1) := hA.cell 3
  have HA2 : Hid (At ((w.alloc (.cells (bxA b) 23)).alloc (.cells (bxA zbx) 26)) (w.heap.size + 1) 26 (bxA zbx)) := by
    have := At.new (w.alloc (.cells (bxA b) 23)) 26 (bxA zbx)
    rw [World.size_alloc] at this
    exact this
  have HB : Hid (Below w.heap.size w ((w.alloc (.cells (bxA b) 23)).alloc (.cells (bxA zbx) 26))) := ((Below.refl _ w).alloc (Nat.le_refl _) _).alloc (by simp) _
  clear hA
  go_enter Try.func10, Try.ntmps10
  go_upto_region 1 with fail
  have hz0 : (#[Value.int .i64 0, .int .i64 0, .int .i64 0, .int .i64 0] : Array Value) = bxA zbx := rfl
  rw [hz0]
  clear hz0
  generalize ((w.alloc (.cells (bxA b) 23)).alloc (.cells (bxA zbx) 26)) = w2 at c0 c1 c2 c3 HA2 HB ⊢
  go_wp2_with (refine wpList_store_at 26 (.tmp 2) (.tmp 11) rfl rfl rfl (w.heap.size + 1) rfl (bxA b) (bxA zbx) 4 rfl strXr rfl rfl (bxA_one _) HA2.out ?_; intro w9 h9 g9; have H9 := Lib.hid h9; have HB9 := Lib.hid (HB.out.grown g9 HB.out.size (fun j e => by injection e with e; omega)); clear h9 g9)
  exact bodyPost_ret (results_at1 (g := w.heap.size + 1) rfl H9.out strXr rfl rfl) rfl ⟨rfl, HB9.out⟩
theorem prod_small {a c : Int} (h1 : 0 ≤ a) (h2 : a ≤ 8) (h3 : 0 ≤ c) (h4 : c ≤ 8) : 0 ≤ a * c ∧ a * c ≤ 64 := by
  have h5 : a * c ≤ 8 * 8 := Int.mul_le_mul h2 h4 h3 (by omega)
  exact ⟨Int.mul_nonneg h1 h3, by omega⟩
set_option maxHeartbeats 1600000 in
theorem xCells_any (b : Bx) (w : World) : Calls Try.prog 18 #[.agg (bxA b)] w (RetV w (.int .i64 (cellsX b))) := by
  have HA := Lib.hid (At.new w 23 (bxA b))
  have HB : Hid (Below w.heap.size w (w.alloc (.cells (bxA b) 23))) := (Below.refl _ w).alloc (Nat.le_refl _) _
  by_cases hr : RtX b
  · have HR : Hid (rightX b = true) := (rightX_iff b).2 hr
    have HE : Hid (cellsX b = (b.x1 - b.x0) * (b.y1 - b.y0)) := by show _ = _; unfold cellsX; rw [if_pos HR.out]
    obtain ⟨h0, h1, h2, h3, h4, h5⟩ := hr
    obtain ⟨dx, hdx⟩ : ∃ dx, b.x1 - b.x0 = dx := ⟨_, rfl⟩
    obtain ⟨dy, hdy⟩ : ∃ dy, b.y1 - b.y0 = dy := ⟨_, rfl⟩
    have e1 : wrap64 (b.x1 - b.x0) = dx := by unfold wrap64; omega
    have e2 : wrap64 (b.y1 - b.y0) = dy := by unfold wrap64; omega
    have e1' : IntKind.i64.wrap (b.x1 - b.x0) = dx := by rw [IntKind.wrap_i64]; omega
    have e2' : IntKind.i64.wrap (b.y1 - b.y0) = dy := by rw [IntKind.wrap_i64]; omega
    have hp := prod_small (a := dx) (c := dy) (by omega) (by omega) (by omega) (by omega)
    rw [hdx, hdy] at HE
    obtain ⟨pr, hpr⟩ : ∃ pr, dx * dy = pr := ⟨_, rfl⟩
    rw [hpr] at hp HE
    have e3 : wrap64 (dx * dy) = pr := by rw [hpr]; unfold wrap64; omega
    have e3' : IntKind.i64.wrap (dx * dy) = pr := by rw [hpr, IntKind.wrap_i64]; omega
    clear hpr hdx hdy h0 h1 h2 h3 h4 h5
    go_enter Try.func18, Try.ntmps18
    go_wp2_with (first
      | (refine wpList_load_at 23 3 (.tmp 1) rfl rfl rfl w.heap.size rfl (bxA b) 4 strX rfl HA.out ?_)
      | (go_at_call 8; refine (xRight_any b _).mono ?_; rintro e z ⟨rfl, hz⟩; rw [HR.out]; have HZ := Lib.hid (HB.out.trans (hz.mono HB.out.size)); have HAZ := HA.out.under hz HA.out.lt; have c0 : z.cell? ⟨w.heap.size, 0, none⟩ = some (.int .i64 b.x0) := HAZ.cell 0; have c1 : z.cell? ⟨w.heap.size, 1, none⟩ = some (.int .i64 b.y0) := HAZ.cell 1; have c2 : z.cell? ⟨w.heap.size, 2, none⟩ = some (.int .i64 b.x1) := HAZ.cell 2; have c3 : z.cell? ⟨w.heap.size, 3, none⟩ = some (.int .i64 b.y1) := HAZ.cell 3; clear hz HAZ))
    go_ret
    exact ⟨by rw [HE.out] <;> rfl, HZ.out⟩
  · have HR := Lib.hid (rightX_no hr)
    have HE : Hid (cellsX b = 0) := by show _ = _; unfold cellsX; rw [HR.out]; rfl
    go_enter Try.func18, Try.ntmps18
    go_wp2_with (first
      | (refine wpList_load_at 23 3 (.tmp 1) rfl rfl rfl w.heap.size rfl (bxA b) 4 strX rfl HA.out ?_)
      | (go_at_call 8; refine (xRight_any b _).mono ?_; rintro e z ⟨rfl, hz⟩; rw [HR.out]; have HZ := Lib.hid (HB.out.trans (hz.mono HB.out.size)); clear hz))
    go_ret
    exact ⟨by rw [HE.out] <;> rfl, HZ.out⟩
end Go.Proofs.Ytgjkbnplpioloaa
