/-
  The law RectWhole: whatever the three rectangles, it returns true.
  Conditions: none.
-/
import Derived.Test.YtiapllplhjhliaaPoints
import Derived.Deep.DeepCutAuto
namespace Go.Proofs.Ytiapllplhjhliaa
open Go.RowKit

theorem Box4.call {W W' : World} {B : Nat} {x0 y0 x1 y1 : Int} (h : Box4 W B x0 y0 x1 y1) (hb : Below W.heap.size W W') : Box4 W' B x0 y0 x1 y1 := (hb.block B h.lt).trans h
/-- The three rectangles lie in the first three boxes of the call; what lay before it lies on. -/
structure Bx3 (w W : World) (a0 a1 a2 a3 b0 b1 b2 b3 c0 c1 c2 c3 : Int) : Prop where
  a : Box4 W w.heap.size a0 a1 a2 a3
  b : Box4 W (w.heap.size + 1) b0 b1 b2 b3
  c : Box4 W (w.heap.size + 1 + 1) c0 c1 c2 c3
  old : Below w.heap.size w W
section
variable {w W W' : World} {a0 a1 a2 a3 b0 b1 b2 b3 c0 c1 c2 c3 : Int}
theorem Bx3.call (h : Bx3 w W a0 a1 a2 a3 b0 b1 b2 b3 c0 c1 c2 c3) (hb : Below W.heap.size W W') : Bx3 w W' a0 a1 a2 a3 b0 b1 b2 b3 c0 c1 c2 c3 :=
  ⟨h.a.call hb, h.b.call hb, h.c.call hb, chain h.old hb (Nat.le_refl _)⟩
theorem Bx3.alloc (h : Bx3 w W a0 a1 a2 a3 b0 b1 b2 b3 c0 c1 c2 c3) (o : Obj) : Bx3 w (W.alloc o) a0 a1 a2 a3 b0 b1 b2 b3 c0 c1 c2 c3 := ⟨h.a.alloc o, h.b.alloc o, h.c.alloc o, h.old.alloc h.old.size o⟩
theorem Bx3.drew (h : Bx3 w W a0 a1 a2 a3 b0 b1 b2 b3 c0 c1 c2 c3) : Bx3 w W.drew a0 a1 a2 a3 b0 b1 b2 b3 c0 c1 c2 c3 := ⟨h.a, h.b, h.c, h.old.drew⟩
theorem Bx3.start : Bx3 w (((w.alloc (.cells #[.int .u32 a0, .int .u32 a1, .int .u32 a2, .int .u32 a3] 24)).alloc (.cells #[.int .u32 b0, .int .u32 b1, .int .u32 b2, .int .u32 b3] 24)).alloc (.cells #[.int .u32 c0, .int .u32 c1, .int .u32 c2, .int .u32 c3] 24)) a0 a1 a2 a3 b0 b1 b2 b3 c0 c1 c2 c3 := by
  refine ⟨((Box4.new w a0 a1 a2 a3).alloc _).alloc _, ?_, ?_, (((Below.refl w.heap.size w).alloc (Nat.le_refl _) _).alloc (by simp) _).alloc (by simp; omega) _⟩
  · have := (Box4.new (w.alloc (.cells #[.int .u32 a0, .int .u32 a1, .int .u32 a2, .int .u32 a3] 24)) b0 b1 b2 b3).alloc (.cells #[.int .u32 c0, .int .u32 c1, .int .u32 c2, .int .u32 c3] 24)
    rwa [World.size_alloc] at this
  · have := Box4.new ((w.alloc (.cells #[.int .u32 a0, .int .u32 a1, .int .u32 a2, .int .u32 a3] 24)).alloc (.cells #[.int .u32 b0, .int .u32 b1, .int .u32 b2, .int .u32 b3] 24)) c0 c1 c2 c3
    rwa [World.size_alloc, World.size_alloc] at this
theorem Bx3.cells (h : Bx3 w W a0 a1 a2 a3 b0 b1 b2 b3 c0 c1 c2 c3) :
    W.cell? ⟨w.heap.size, 0, none⟩ = some (.int .u32 a0) ∧ W.cell? ⟨w.heap.size, 1, none⟩ = some (.int .u32 a1) ∧ W.cell? ⟨w.heap.size, 2, none⟩ = some (.int .u32 a2) ∧ W.cell? ⟨w.heap.size, 3, none⟩ = some (.int .u32 a3) ∧
    W.cell? ⟨w.heap.size + 1, 0, none⟩ = some (.int .u32 b0) ∧ W.cell? ⟨w.heap.size + 1, 1, none⟩ = some (.int .u32 b1) ∧ W.cell? ⟨w.heap.size + 1, 2, none⟩ = some (.int .u32 b2) ∧ W.cell? ⟨w.heap.size + 1, 3, none⟩ = some (.int .u32 b3) ∧
    W.cell? ⟨w.heap.size + 1 + 1, 0, none⟩ = some (.int .u32 c0) ∧ W.cell? ⟨w.heap.size + 1 + 1, 1, none⟩ = some (.int .u32 c1) ∧ W.cell? ⟨w.heap.size + 1 + 1, 2, none⟩ = some (.int .u32 c2) ∧ W.cell? ⟨w.heap.size + 1 + 1, 3, none⟩ = some (.int .u32 c3) := by
  obtain ⟨p0, p1, p2, p3⟩ := h.a.cells
  obtain ⟨q0, q1, q2, q3⟩ := h.b.cells
  obtain ⟨r0, r1, r2, r3⟩ := h.c.cells
  exact ⟨p0, p1, p2, p3, q0, q1, q2, q3, r0, r1, r2, r3⟩
end

set_option maxRecDepth 100000 in
set_option maxHeartbeats 4000000 in
theorem whole_empty (a0 a1 a2 a3 b0 b1 b2 b3 c0 c1 c2 c3 : Int) (w : World) (hea : emptyB a0 a1 a2 a3 = true) :
    Calls Try.prog 4 #[.agg #[.int .u32 a0, .int .u32 a1, .int .u32 a2, .int .u32 a3], .agg #[.int .u32 b0, .int .u32 b1, .int .u32 b2, .int .u32 b3], .agg #[.int .u32 c0, .int .u32 c1, .int .u32 c2, .int .u32 c3]] w fun e w' => e = .returned (.bool true) ∧ Below w.heap.size w w' := by
  have HEA := Lib.hid hea
  have HMS : Hid (meetsB a0 a1 a2 a3 b0 b1 b2 b3 = false) := by
    show meetsB a0 a1 a2 a3 b0 b1 b2 b3 = false
    unfold meetsB
    rw [Bool.not_eq_false', empty_iff']
    rw [empty_iff'] at hea
    omega
  have HWI : Hid (withinB a0 a1 a2 a3 b0 b1 b2 b3 = true) := by
    show withinB a0 a1 a2 a3 b0 b1 b2 b3 = true
    unfold withinB
    rw [hea]
    rfl
  have HB := Lib.hid (Bx3.start (w := w) (a0 := a0) (a1 := a1) (a2 := a2) (a3 := a3) (b0 := b0) (b1 := b1) (b2 := b2) (b3 := b3) (c0 := c0) (c1 := c1) (c2 := c2) (c3 := c3))
  clear hea
  go_enter Try.func4, Try.ntmps4
  go_wp2_with fail
  refine (empty_is HEA.out _).mono ?_
  rintro e w1 ⟨rfl, hb⟩
  have HB2 := Lib.hid (HB.out.call hb)
  clear HB hb
  obtain ⟨k0, k1, k2, k3, k4, k5, k6, k7, k8, k9, k10, k11⟩ := HB2.out.cells
  go_wp2_with fail
  refine wp_region_held_drew (S := fun z => Bx3 w z a0 a1 a2 a3 b0 b1 b2 b3 c0 c1 c2 c3) (by kernel_rfl) HB2.out.drew (fun hS => ?_)
  refine takeH (i := 0) (d := 12) (v := ?va0) rfl (by kernel_rfl) (by kernel_rfl) (by kernel_rfl) (fun _ _ _ h => h) rfl (by rfl) ?ya0 hS ?ra0
  case ya0 => (intro wz hz; obtain ⟨k0, k1, k2, k3, k4, k5, k6, k7, k8, k9, k10, k11⟩ := hz.cells; go_simp <;> with_reducible rfl)
  simp only [List.setIfInBounds_toArray, List.set_cons_zero, List.set_cons_succ]
  refine takeH (i := 1) (d := 13) (v := ?va1) rfl (by kernel_rfl) (by kernel_rfl) (by kernel_rfl) (fun _ _ _ h => h) rfl (by rfl) ?ya1 hS ?ra1
  case ya1 => (intro wz hz; obtain ⟨k0, k1, k2, k3, k4, k5, k6, k7, k8, k9, k10, k11⟩ := hz.cells; go_simp <;> with_reducible rfl)
  simp only [List.setIfInBounds_toArray, List.set_cons_zero, List.set_cons_succ]
  refine wpAnyH_ready (rs := [2]) (by kernel_rfl) (by simp) ?_
  refine AllReadyH.cons rfl (fun K hK => ?_) AllReadyH.nil
  go_simp
  refine (meets_is HMS.out _).mono ?_
  rintro e w1 ⟨rfl, hb⟩
  refine hK.out _ _ (hS.call hb) (fun hT => ?_)
  clear hK hb hS
  have hS := hT
  clear hT
  refine takeH (i := 3) (d := 15) (v := ?va3) rfl (by kernel_rfl) (by kernel_rfl) (by kernel_rfl) (fun _ _ _ h => h) rfl (by rfl) ?ya3 hS ?ra3
  case ya3 => (intro wz hz; obtain ⟨k0, k1, k2, k3, k4, k5, k6, k7, k8, k9, k10, k11⟩ := hz.cells; go_simp <;> with_reducible rfl)
  simp only [List.setIfInBounds_toArray, List.set_cons_zero, List.set_cons_succ]
  refine takeH (i := 4) (d := 16) (v := ?va4) rfl (by kernel_rfl) (by kernel_rfl) (by kernel_rfl) (fun _ _ _ h => h) rfl (by rfl) ?ya4 hS ?ra4
  case ya4 => (intro wz hz; obtain ⟨k0, k1, k2, k3, k4, k5, k6, k7, k8, k9, k10, k11⟩ := hz.cells; go_simp <;> with_reducible rfl)
  simp only [List.setIfInBounds_toArray, List.set_cons_zero, List.set_cons_succ]
  refine takeH (i := 5) (d := 17) (v := ?va5) rfl (by kernel_rfl) (by kernel_rfl) (by kernel_rfl) (fun _ _ _ h => h) rfl (by rfl) ?ya5 hS ?ra5
  case ya5 => (intro wz hz; obtain ⟨k0, k1, k2, k3, k4, k5, k6, k7, k8, k9, k10, k11⟩ := hz.cells; go_simp <;> with_reducible rfl)
  simp only [List.setIfInBounds_toArray, List.set_cons_zero, List.set_cons_succ]
  refine takeH (i := 6) (d := 18) (v := ?va6) rfl (by kernel_rfl) (by kernel_rfl) (by kernel_rfl) (fun _ _ _ h => h) rfl (by rfl) ?ya6 hS ?ra6
  case ya6 => (intro wz hz; obtain ⟨k0, k1, k2, k3, k4, k5, k6, k7, k8, k9, k10, k11⟩ := hz.cells; go_simp <;> with_reducible rfl)
  simp only [List.setIfInBounds_toArray, List.set_cons_zero, List.set_cons_succ]
  refine wpAnyH_ready (rs := [7]) (by kernel_rfl) (by simp) ?_
  refine AllReadyH.cons rfl (fun K hK => ?_) AllReadyH.nil
  go_simp
  refine (within_is HWI.out _).mono ?_
  rintro e w1 ⟨rfl, hb⟩
  refine hK.out _ _ (hS.call hb) (fun hT => ?_)
  clear hK hb hS
  have hS := hT
  clear hT
  refine takeH (i := 8) (d := 20) (v := ?va8) rfl (by kernel_rfl) (by kernel_rfl) (by kernel_rfl) (fun _ _ _ h => h) rfl (by rfl) ?ya8 hS ?ra8
  case ya8 => (intro wz hz; obtain ⟨k0, k1, k2, k3, k4, k5, k6, k7, k8, k9, k10, k11⟩ := hz.cells; go_simp <;> with_reducible rfl)
  simp only [List.setIfInBounds_toArray, List.set_cons_zero, List.set_cons_succ]
  refine takeH (i := 9) (d := 21) (v := ?va9) rfl (by kernel_rfl) (by kernel_rfl) (by kernel_rfl) (fun _ _ _ h => h) rfl (by rfl) ?ya9 hS ?ra9
  case ya9 => (intro wz hz; obtain ⟨k0, k1, k2, k3, k4, k5, k6, k7, k8, k9, k10, k11⟩ := hz.cells; go_simp <;> with_reducible rfl)
  simp only [List.setIfInBounds_toArray, List.set_cons_zero, List.set_cons_succ]
  refine takeH (i := 10) (d := 22) (v := ?va10) rfl (by kernel_rfl) (by kernel_rfl) (by kernel_rfl) (fun _ _ _ h => h) rfl (by rfl) ?ya10 hS ?ra10
  case ya10 => (intro wz hz; obtain ⟨k0, k1, k2, k3, k4, k5, k6, k7, k8, k9, k10, k11⟩ := hz.cells; go_simp <;> with_reducible rfl)
  simp only [List.setIfInBounds_toArray, List.set_cons_zero, List.set_cons_succ]
  refine takeH (i := 11) (d := 23) (v := ?va11) rfl (by kernel_rfl) (by kernel_rfl) (by kernel_rfl) (fun _ _ _ h => h) rfl (by rfl) ?ya11 hS ?ra11
  case ya11 => (intro wz hz; obtain ⟨k0, k1, k2, k3, k4, k5, k6, k7, k8, k9, k10, k11⟩ := hz.cells; go_simp <;> with_reducible rfl)
  simp only [List.setIfInBounds_toArray, List.set_cons_zero, List.set_cons_succ]
  refine takeH (i := 13) (d := 25) (v := ?va13) rfl (by kernel_rfl) (by kernel_rfl) (by kernel_rfl) (fun _ _ _ h => h) rfl (by rfl) ?ya13 hS ?ra13
  case ya13 => (intro wz hz; obtain ⟨k0, k1, k2, k3, k4, k5, k6, k7, k8, k9, k10, k11⟩ := hz.cells; go_simp <;> with_reducible rfl)
  simp only [List.setIfInBounds_toArray, List.set_cons_zero, List.set_cons_succ]
  refine wpAnyH_ready (rs := [12]) (by kernel_rfl) (by simp) ?_
  refine AllReadyH.cons rfl (fun K hK => ?_) AllReadyH.nil
  go_simp
  refine (hull_left _ _ _ _ _ _ _ _ _ HEA.out).mono ?_
  rintro e w1 ⟨rfl, hb⟩
  refine hK.out _ _ (hS.call hb) (fun hT => ?_)
  clear hK hb hS
  have hS := hT
  clear hT
  refine takeH (i := 14) (d := 26) (v := ?va14) rfl (by kernel_rfl) (by kernel_rfl) (by kernel_rfl) (fun _ _ _ h => h) rfl (by rfl) ?ya14 hS ?ra14
  case ya14 => (intro wz hz; obtain ⟨k0, k1, k2, k3, k4, k5, k6, k7, k8, k9, k10, k11⟩ := hz.cells; go_simp <;> with_reducible rfl)
  simp only [List.setIfInBounds_toArray, List.set_cons_zero, List.set_cons_succ]
  refine takeH (i := 15) (d := 27) (v := ?va15) rfl (by kernel_rfl) (by kernel_rfl) (by kernel_rfl) (fun _ _ _ h => h) rfl (by rfl) ?ya15 hS ?ra15
  case ya15 => (intro wz hz; obtain ⟨k0, k1, k2, k3, k4, k5, k6, k7, k8, k9, k10, k11⟩ := hz.cells; go_simp <;> with_reducible rfl)
  simp only [List.setIfInBounds_toArray, List.set_cons_zero, List.set_cons_succ]
  refine takeH (i := 16) (d := 28) (v := ?va16) rfl (by kernel_rfl) (by kernel_rfl) (by kernel_rfl) (fun _ _ _ h => h) rfl (by rfl) ?ya16 hS ?ra16
  case ya16 => (intro wz hz; obtain ⟨k0, k1, k2, k3, k4, k5, k6, k7, k8, k9, k10, k11⟩ := hz.cells; go_simp <;> with_reducible rfl)
  simp only [List.setIfInBounds_toArray, List.set_cons_zero, List.set_cons_succ]
  refine wpAnyH_ready (rs := [17]) (by kernel_rfl) (by simp) ?_
  refine AllReadyH.cons rfl (fun K hK => ?_) AllReadyH.nil
  go_simp
  refine (works_any _).mono ?_
  rintro e w1 ⟨rfl, hb⟩
  refine hK.out _ _ (hS.call hb) (fun hT => ?_)
  clear hK hb hS
  have hS := hT
  clear hT
  refine takeH (i := 18) (d := 30) (v := ?va18) rfl (by kernel_rfl) (by kernel_rfl) (by kernel_rfl) (fun _ _ _ h => h) rfl (by rfl) ?ya18 hS ?ra18
  case ya18 => (intro wz hz; obtain ⟨k0, k1, k2, k3, k4, k5, k6, k7, k8, k9, k10, k11⟩ := hz.cells; go_simp <;> with_reducible rfl)
  simp only [List.setIfInBounds_toArray, List.set_cons_zero, List.set_cons_succ]
  refine takeH (i := 19) (d := 6) (v := ?va19) rfl (by kernel_rfl) (by kernel_rfl) (by kernel_rfl) (fun _ _ _ h => h) rfl (by rfl) ?ya19 hS ?ra19
  case ya19 => (intro wz hz; obtain ⟨k0, k1, k2, k3, k4, k5, k6, k7, k8, k9, k10, k11⟩ := hz.cells; go_simp <;> with_reducible rfl)
  simp only [List.setIfInBounds_toArray, List.set_cons_zero, List.set_cons_succ]
  refine wpAnyH_done (by kernel_rfl) ?_ _
  have HS := Lib.hid hS
  clear hS
  go_wp2_with fail
  go_ret
  exact ⟨rfl, HS.out.old⟩

theorem within_corners (a0 a1 a2 a3 b0 b1 b2 b3 : Int) (he : emptyB a0 a1 a2 a3 = false) : withinB a0 a1 a2 a3 b0 b1 b2 b3 = (hasB b0 b1 b2 b3 a0 a1 && hasB b0 b1 b2 b3 a2 a3) := by
  have h2 := empty_iff.1 he
  unfold withinB
  rw [he, Bool.eq_iff_iff, Bool.and_eq_true, has_iff, has_iff]
  simp
  omega
theorem meets_swap (a0 a1 a2 a3 b0 b1 b2 b3 : Int) : meetsB b0 b1 b2 b3 a0 a1 a2 a3 = meetsB a0 a1 a2 a3 b0 b1 b2 b3 := by
  unfold meetsB
  rw [Int.max_comm b0, Int.max_comm b1, Int.min_comm b2, Int.min_comm b3]
theorem meets_no {a0 a1 a2 a3 b0 b1 b2 b3 : Int} (he : emptyB b0 b1 b2 b3 = true) : meetsB a0 a1 a2 a3 b0 b1 b2 b3 = false := by
  unfold meetsB
  rw [Bool.not_eq_false', empty_iff']
  rw [empty_iff'] at he
  omega
theorem hull_in {a0 a1 a2 a3 b0 b1 b2 b3 h0 h1 h2 h3 : Int} (hg : HullQ a0 a1 a2 a3 b0 b1 b2 b3 h0 h1 h2 h3) (he : emptyB a0 a1 a2 a3 = false) : withinB a0 a1 a2 a3 h0 h1 h2 h3 = true ∧ withinB b0 b1 b2 b3 h0 h1 h2 h3 = true := by
  unfold withinB
  rcases hg with ⟨e, _⟩ | ⟨e, e2, rfl, rfl, rfl, rfl⟩ | ⟨e, e2, rfl, rfl, rfl, rfl⟩
  · rw [he] at e; cases e
  · rw [e2]; simp
  · rw [e, e2]; simp; omega
theorem hull_least {a0 a1 a2 a3 b0 b1 b2 b3 c0 c1 c2 c3 h0 h1 h2 h3 : Int} (hg : HullQ a0 a1 a2 a3 b0 b1 b2 b3 h0 h1 h2 h3) (he : emptyB a0 a1 a2 a3 = false) (g1 : withinB a0 a1 a2 a3 c0 c1 c2 c3 = true) (g2 : withinB b0 b1 b2 b3 c0 c1 c2 c3 = true) : withinB h0 h1 h2 h3 c0 c1 c2 c3 = true := by
  rcases hg with ⟨e, _⟩ | ⟨e, e2, rfl, rfl, rfl, rfl⟩ | ⟨e, e2, rfl, rfl, rfl, rfl⟩
  · rw [he] at e; cases e
  · exact g1
  · unfold withinB at *
    rw [e] at g1
    rw [e2] at g2
    simp at g1 g2
    simp
    right
    omega

set_option maxRecDepth 100000 in
set_option maxHeartbeats 4000000 in
theorem whole_full (a0 a1 a2 a3 b0 b1 b2 b3 c0 c1 c2 c3 : Int) (w : World) (hea : emptyB a0 a1 a2 a3 = false) :
    Calls Try.prog 4 #[.agg #[.int .u32 a0, .int .u32 a1, .int .u32 a2, .int .u32 a3], .agg #[.int .u32 b0, .int .u32 b1, .int .u32 b2, .int .u32 b3], .agg #[.int .u32 c0, .int .u32 c1, .int .u32 c2, .int .u32 c3]] w fun e w' => e = .returned (.bool true) ∧ Below w.heap.size w w' := by
  have HEA := Lib.hid hea
  have HWC := Lib.hid (within_corners a0 a1 a2 a3 b0 b1 b2 b3 hea)
  have HB := Lib.hid (Bx3.start (w := w) (a0 := a0) (a1 := a1) (a2 := a2) (a3 := a3) (b0 := b0) (b1 := b1) (b2 := b2) (b3 := b3) (c0 := c0) (c1 := c1) (c2 := c2) (c3 := c3))
  have HC1 : Hid (hasB a0 a1 a2 a3 a0 a1 = true) := has_iff.2 (by have := empty_iff.1 hea; omega)
  have HC2 : Hid (hasB a0 a1 a2 a3 a2 a3 = true) := has_iff.2 (by have := empty_iff.1 hea; omega)
  clear hea
  obtain ⟨k0, k1, k2, k3, k4, k5, k6, k7, k8, k9, k10, k11⟩ := HB.out.cells
  go_enter Try.func4, Try.ntmps4
  go_wp2_with fail
  refine (empty_is HEA.out _).mono ?_
  rintro e wz ⟨rfl, hb⟩
  have HB2 := Lib.hid (HB.out.call hb); clear k0 k1 k2 k3 k4 k5 k6 k7 k8 k9 k10 k11; obtain ⟨k0, k1, k2, k3, k4, k5, k6, k7, k8, k9, k10, k11⟩ := HB2.out.cells; clear HB; have HB := HB2; clear HB2; clear hb
  go_upto_region 3 with fail
  go_cut [7] (fun s7 wx => s7 = .bool (withinB a0 a1 a2 a3 b0 b1 b2 b3) ∧ Hid (Bx3 w wx a0 a1 a2 a3 b0 b1 b2 b3 c0 c1 c2 c3))
  case first =>
    cases hp1 : hasB b0 b1 b2 b3 a0 a1 <;> cases hp2 : hasB b0 b1 b2 b3 a2 a3
    all_goals
      rw [hp1, hp2] at HWC
      go_wp2_with (first
    | (go_at_call 6; refine (refHas_any _ _ _ _ _ _ _).mono ?_; rintro e wz ⟨rfl, hb⟩; have HB2 := Lib.hid (HB.out.call hb); clear k0 k1 k2 k3 k4 k5 k6 k7 k8 k9 k10 k11; obtain ⟨k0, k1, k2, k3, k4, k5, k6, k7, k8, k9, k10, k11⟩ := HB2.out.cells; clear HB; have HB := HB2; clear HB2; clear hb)
    | (go_at_call 8; refine (meet_any _ _ _ _ _ _ _ _ _).mono ?_; rintro e wz ⟨rfl, hb⟩; have HB2 := Lib.hid (HB.out.call hb); clear k0 k1 k2 k3 k4 k5 k6 k7 k8 k9 k10 k11; obtain ⟨k0, k1, k2, k3, k4, k5, k6, k7, k8, k9, k10, k11⟩ := HB2.out.cells; clear HB; have HB := HB2; clear HB2; clear hb)
    | (go_at_call 9; refine (hull_gen _ _ _ _ _ _ _ _ _).mono ?_; rintro e wz ⟨h0, h1, h2, h3, rfl, hg, hb⟩; have HH := Lib.hid hg; clear hg; have HB2 := Lib.hid (HB.out.call hb); clear k0 k1 k2 k3 k4 k5 k6 k7 k8 k9 k10 k11; obtain ⟨k0, k1, k2, k3, k4, k5, k6, k7, k8, k9, k10, k11⟩ := HB2.out.cells; clear HB; have HB := HB2; clear HB2; clear hb)
    | (go_at_call 10; refine (empty_any _ _ _ _ _).mono ?_; rintro e wz ⟨rfl, hb⟩; have HB2 := Lib.hid (HB.out.call hb); clear k0 k1 k2 k3 k4 k5 k6 k7 k8 k9 k10 k11; obtain ⟨k0, k1, k2, k3, k4, k5, k6, k7, k8, k9, k10, k11⟩ := HB2.out.cells; clear HB; have HB := HB2; clear HB2; clear hb)
    | (go_at_call 12; refine (within_is rfl _).mono ?_; rintro e wz ⟨rfl, hb⟩; have HB2 := Lib.hid (HB.out.call hb); clear k0 k1 k2 k3 k4 k5 k6 k7 k8 k9 k10 k11; obtain ⟨k0, k1, k2, k3, k4, k5, k6, k7, k8, k9, k10, k11⟩ := HB2.out.cells; clear HB; have HB := HB2; clear HB2; clear hb)
    | (go_at_call 14; refine (works_any _).mono ?_; rintro e wz ⟨rfl, hb⟩; have HB2 := Lib.hid (HB.out.call hb); clear k0 k1 k2 k3 k4 k5 k6 k7 k8 k9 k10 k11; obtain ⟨k0, k1, k2, k3, k4, k5, k6, k7, k8, k9, k10, k11⟩ := HB2.out.cells; clear HB; have HB := HB2; clear HB2; clear hb))
      go_meet
      exact ⟨by rw [HWC.out]; rfl, HB⟩
  case rest =>
    obtain ⟨rfl, HB'⟩ := hcut
    clear k0 k1 k2 k3 k4 k5 k6 k7 k8 k9 k10 k11 HB
    have HB := HB'
    clear HB'
    obtain ⟨k0, k1, k2, k3, k4, k5, k6, k7, k8, k9, k10, k11⟩ := HB.out.cells
    go_upto_region 4 with fail
    go_cut [7, 67] (fun _ s67 wx => s67 = .bool false ∧ Hid (Bx3 w wx a0 a1 a2 a3 b0 b1 b2 b3 c0 c1 c2 c3))
    case first =>
      have hc1 := HC1.out
      have hc2 := HC2.out
      cases hv : withinB a0 a1 a2 a3 b0 b1 b2 b3
      all_goals
        go_wp2_with (first
    | (go_at_call 6; refine (refHas_any _ _ _ _ _ _ _).mono ?_; rintro e wz ⟨rfl, hb⟩; have HB2 := Lib.hid (HB.out.call hb); clear k0 k1 k2 k3 k4 k5 k6 k7 k8 k9 k10 k11; obtain ⟨k0, k1, k2, k3, k4, k5, k6, k7, k8, k9, k10, k11⟩ := HB2.out.cells; clear HB; have HB := HB2; clear HB2; clear hb)
    | (go_at_call 8; refine (meet_any _ _ _ _ _ _ _ _ _).mono ?_; rintro e wz ⟨rfl, hb⟩; have HB2 := Lib.hid (HB.out.call hb); clear k0 k1 k2 k3 k4 k5 k6 k7 k8 k9 k10 k11; obtain ⟨k0, k1, k2, k3, k4, k5, k6, k7, k8, k9, k10, k11⟩ := HB2.out.cells; clear HB; have HB := HB2; clear HB2; clear hb)
    | (go_at_call 9; refine (hull_gen _ _ _ _ _ _ _ _ _).mono ?_; rintro e wz ⟨h0, h1, h2, h3, rfl, hg, hb⟩; have HH := Lib.hid hg; clear hg; have HB2 := Lib.hid (HB.out.call hb); clear k0 k1 k2 k3 k4 k5 k6 k7 k8 k9 k10 k11; obtain ⟨k0, k1, k2, k3, k4, k5, k6, k7, k8, k9, k10, k11⟩ := HB2.out.cells; clear HB; have HB := HB2; clear HB2; clear hb)
    | (go_at_call 10; refine (empty_any _ _ _ _ _).mono ?_; rintro e wz ⟨rfl, hb⟩; have HB2 := Lib.hid (HB.out.call hb); clear k0 k1 k2 k3 k4 k5 k6 k7 k8 k9 k10 k11; obtain ⟨k0, k1, k2, k3, k4, k5, k6, k7, k8, k9, k10, k11⟩ := HB2.out.cells; clear HB; have HB := HB2; clear HB2; clear hb)
    | (go_at_call 12; refine (within_is rfl _).mono ?_; rintro e wz ⟨rfl, hb⟩; have HB2 := Lib.hid (HB.out.call hb); clear k0 k1 k2 k3 k4 k5 k6 k7 k8 k9 k10 k11; obtain ⟨k0, k1, k2, k3, k4, k5, k6, k7, k8, k9, k10, k11⟩ := HB2.out.cells; clear HB; have HB := HB2; clear HB2; clear hb)
    | (go_at_call 14; refine (works_any _).mono ?_; rintro e wz ⟨rfl, hb⟩; have HB2 := Lib.hid (HB.out.call hb); clear k0 k1 k2 k3 k4 k5 k6 k7 k8 k9 k10 k11; obtain ⟨k0, k1, k2, k3, k4, k5, k6, k7, k8, k9, k10, k11⟩ := HB2.out.cells; clear HB; have HB := HB2; clear HB2; clear hb))
        go_meet
        exact ⟨rfl, HB⟩
    case rest =>
      obtain ⟨rfl, HB'⟩ := hcut
      clear k0 k1 k2 k3 k4 k5 k6 k7 k8 k9 k10 k11 HB
      have HB := HB'
      clear HB'
      obtain ⟨k0, k1, k2, k3, k4, k5, k6, k7, k8, k9, k10, k11⟩ := HB.out.cells
      go_upto_region 6 with fail
      go_cut [8] (fun s8 wx => ∃ g m0 m1 m2 m3, s8 = .pointer (some ⟨g, 0, none⟩) ∧ Hid (Box4 wx g m0 m1 m2 m3) ∧ Hid (Bx3 w wx a0 a1 a2 a3 b0 b1 b2 b3 c0 c1 c2 c3) ∧ Hid (m0 = max a0 b0 ∧ m1 = max a1 b1 ∧ m2 = min a2 b2 ∧ m3 = min a3 b3))
      case first =>
        go_wp2_with (first
    | (go_at_call 6; refine (refHas_any _ _ _ _ _ _ _).mono ?_; rintro e wz ⟨rfl, hb⟩; have HB2 := Lib.hid (HB.out.call hb); clear k0 k1 k2 k3 k4 k5 k6 k7 k8 k9 k10 k11; obtain ⟨k0, k1, k2, k3, k4, k5, k6, k7, k8, k9, k10, k11⟩ := HB2.out.cells; clear HB; have HB := HB2; clear HB2; clear hb)
    | (go_at_call 8; refine (meet_any _ _ _ _ _ _ _ _ _).mono ?_; rintro e wz ⟨rfl, hb⟩; have HB2 := Lib.hid (HB.out.call hb); clear k0 k1 k2 k3 k4 k5 k6 k7 k8 k9 k10 k11; obtain ⟨k0, k1, k2, k3, k4, k5, k6, k7, k8, k9, k10, k11⟩ := HB2.out.cells; clear HB; have HB := HB2; clear HB2; clear hb)
    | (go_at_call 9; refine (hull_gen _ _ _ _ _ _ _ _ _).mono ?_; rintro e wz ⟨h0, h1, h2, h3, rfl, hg, hb⟩; have HH := Lib.hid hg; clear hg; have HB2 := Lib.hid (HB.out.call hb); clear k0 k1 k2 k3 k4 k5 k6 k7 k8 k9 k10 k11; obtain ⟨k0, k1, k2, k3, k4, k5, k6, k7, k8, k9, k10, k11⟩ := HB2.out.cells; clear HB; have HB := HB2; clear HB2; clear hb)
    | (go_at_call 10; refine (empty_any _ _ _ _ _).mono ?_; rintro e wz ⟨rfl, hb⟩; have HB2 := Lib.hid (HB.out.call hb); clear k0 k1 k2 k3 k4 k5 k6 k7 k8 k9 k10 k11; obtain ⟨k0, k1, k2, k3, k4, k5, k6, k7, k8, k9, k10, k11⟩ := HB2.out.cells; clear HB; have HB := HB2; clear HB2; clear hb)
    | (go_at_call 12; refine (within_is rfl _).mono ?_; rintro e wz ⟨rfl, hb⟩; have HB2 := Lib.hid (HB.out.call hb); clear k0 k1 k2 k3 k4 k5 k6 k7 k8 k9 k10 k11; obtain ⟨k0, k1, k2, k3, k4, k5, k6, k7, k8, k9, k10, k11⟩ := HB2.out.cells; clear HB; have HB := HB2; clear HB2; clear hb)
    | (go_at_call 14; refine (works_any _).mono ?_; rintro e wz ⟨rfl, hb⟩; have HB2 := Lib.hid (HB.out.call hb); clear k0 k1 k2 k3 k4 k5 k6 k7 k8 k9 k10 k11; obtain ⟨k0, k1, k2, k3, k4, k5, k6, k7, k8, k9, k10, k11⟩ := HB2.out.cells; clear HB; have HB := HB2; clear HB2; clear hb))
        go_meet
        exact ⟨wz.heap.size, _, _, _, _, rfl, Lib.hid (Box4.new wz _ _ _ _), Lib.hid (HB.out.alloc _), Lib.hid ⟨rfl, rfl, rfl, rfl⟩⟩
      case rest =>
        obtain ⟨g, m0, m1, m2, m3, rfl, HM, HB', HQ⟩ := hcut
        clear k0 k1 k2 k3 k4 k5 k6 k7 k8 k9 k10 k11 HB
        have HB := HB'
        clear HB'
        obtain ⟨k0, k1, k2, k3, k4, k5, k6, k7, k8, k9, k10, k11⟩ := HB.out.cells
        obtain ⟨e0, e1, e2, e3⟩ := HM.out.cells
        go_upto_region 7 with fail
        go_cut [100] (fun s100 wx => s100 = .bool false ∧ Hid (Bx3 w wx a0 a1 a2 a3 b0 b1 b2 b3 c0 c1 c2 c3))
        case first =>
          obtain ⟨q0, q1, q2, q3⟩ := HQ.out
          have hms : meetsB a0 a1 a2 a3 b0 b1 b2 b3 = !emptyB m0 m1 m2 m3 := by rw [q0, q1, q2, q3]; rfl
          have hsw := meets_swap a0 a1 a2 a3 b0 b1 b2 b3
          have HEM := Lib.hid (empty_iff' (a0 := m0) (a1 := m1) (a2 := m2) (a3 := m3))
          have HEM2 := Lib.hid (empty_iff (a0 := m0) (a1 := m1) (a2 := m2) (a3 := m3))
          clear q0 q1 q2 q3
          cases heb : emptyB b0 b1 b2 b3
          · have HEB := Lib.hid heb
            by_cases hx : m0 ≤ m2
            · by_cases hy : m1 ≤ m3
              · rw [HEM2.out.2 ⟨hx, hy⟩] at hms
                have HMS := Lib.hid (show meetsB a0 a1 a2 a3 b0 b1 b2 b3 = true from hms)
                have HMS2 := Lib.hid (hsw.trans hms)
                clear hms hsw heb
                refine wp_region_held_drew (S := fun z => Bx3 w z a0 a1 a2 a3 b0 b1 b2 b3 c0 c1 c2 c3 ∧ Box4 z g m0 m1 m2 m3) (by kernel_rfl) ⟨HB.out.drew, HM.out⟩ (fun hS => ?_)
                refine takeH (i := 0) (d := 71) (v := ?ve0) rfl (by kernel_rfl) (by kernel_rfl) (by kernel_rfl) (fun _ _ _ h => h) rfl (by rfl) ?ye0 hS ?re0
                case ye0 => (intro wz hz; obtain ⟨k0, k1, k2, k3, k4, k5, k6, k7, k8, k9, k10, k11⟩ := hz.1.cells; obtain ⟨e0, e1, e2, e3⟩ := hz.2.cells; go_simp <;> with_reducible rfl)
                simp only [List.setIfInBounds_toArray, List.set_cons_zero, List.set_cons_succ]
                refine takeH (i := 1) (d := 72) (v := ?ve1) rfl (by kernel_rfl) (by kernel_rfl) (by kernel_rfl) (fun _ _ _ h => h) rfl (by rfl) ?ye1 hS ?re1
                case ye1 => (intro wz hz; obtain ⟨k0, k1, k2, k3, k4, k5, k6, k7, k8, k9, k10, k11⟩ := hz.1.cells; obtain ⟨e0, e1, e2, e3⟩ := hz.2.cells; go_simp <;> with_reducible rfl)
                simp only [List.setIfInBounds_toArray, List.set_cons_zero, List.set_cons_succ]
                refine takeH (i := 3) (d := 74) (v := ?ve3) rfl (by kernel_rfl) (by kernel_rfl) (by kernel_rfl) (fun _ _ _ h => h) rfl (by rfl) ?ye3 hS ?re3
                case ye3 => (intro wz hz; obtain ⟨k0, k1, k2, k3, k4, k5, k6, k7, k8, k9, k10, k11⟩ := hz.1.cells; obtain ⟨e0, e1, e2, e3⟩ := hz.2.cells; go_simp <;> with_reducible rfl)
                simp only [List.setIfInBounds_toArray, List.set_cons_zero, List.set_cons_succ]
                refine wpAnyH_ready (rs := [2]) (by kernel_rfl) (by simp) ?_
                refine AllReadyH.cons rfl (fun K hK => ?_) AllReadyH.nil
                go_simp
                refine (meets_is HMS.out _).mono ?_
                rintro e w1 ⟨rfl, hb⟩
                refine hK.out _ _ (show _ ∧ _ from ⟨hS.1.call hb, hS.2.call hb⟩) (fun hT => ?_)
                clear hK hb hS
                have hS := hT
                clear hT
                refine wpAnyH_ready (rs := [4]) (by kernel_rfl) (by simp) ?_
                refine AllReadyH.cons rfl (fun K hK => ?_) AllReadyH.nil
                go_simp
                refine (empty_is HEB.out _).mono ?_
                rintro e w1 ⟨rfl, hb⟩
                refine hK.out _ _ (show _ ∧ _ from ⟨hS.1.call hb, hS.2.call hb⟩) (fun hT => ?_)
                clear hK hb hS
                have hS := hT
                clear hT
                refine takeH (i := 5) (d := 76) (v := ?ve5) rfl (by kernel_rfl) (by kernel_rfl) (by kernel_rfl) (fun _ _ _ h => h) rfl (by rfl) ?ye5 hS ?re5
                case ye5 => (intro wz hz; obtain ⟨k0, k1, k2, k3, k4, k5, k6, k7, k8, k9, k10, k11⟩ := hz.1.cells; obtain ⟨e0, e1, e2, e3⟩ := hz.2.cells; go_simp <;> with_reducible rfl)
                simp only [List.setIfInBounds_toArray, List.set_cons_zero, List.set_cons_succ]
                refine takeH (i := 6) (d := 77) (v := ?ve6) rfl (by kernel_rfl) (by kernel_rfl) (by kernel_rfl) (fun _ _ _ h => h) rfl (by rfl) ?ye6 hS ?re6
                case ye6 => (intro wz hz; obtain ⟨k0, k1, k2, k3, k4, k5, k6, k7, k8, k9, k10, k11⟩ := hz.1.cells; obtain ⟨e0, e1, e2, e3⟩ := hz.2.cells; go_simp <;> with_reducible rfl)
                simp only [List.setIfInBounds_toArray, List.set_cons_zero, List.set_cons_succ]
                refine takeH (i := 7) (d := 78) (v := ?ve7) rfl (by kernel_rfl) (by kernel_rfl) (by kernel_rfl) (fun _ _ _ h => h) rfl (by rfl) ?ye7 hS ?re7
                case ye7 => (intro wz hz; obtain ⟨k0, k1, k2, k3, k4, k5, k6, k7, k8, k9, k10, k11⟩ := hz.1.cells; obtain ⟨e0, e1, e2, e3⟩ := hz.2.cells; go_simp <;> with_reducible rfl)
                simp only [List.setIfInBounds_toArray, List.set_cons_zero, List.set_cons_succ]
                refine takeH (i := 8) (d := 79) (v := ?ve8) rfl (by kernel_rfl) (by kernel_rfl) (by kernel_rfl) (fun _ _ _ h => h) rfl (by rfl) ?ye8 hS ?re8
                case ye8 => (intro wz hz; obtain ⟨k0, k1, k2, k3, k4, k5, k6, k7, k8, k9, k10, k11⟩ := hz.1.cells; obtain ⟨e0, e1, e2, e3⟩ := hz.2.cells; go_simp <;> with_reducible rfl)
                simp only [List.setIfInBounds_toArray, List.set_cons_zero, List.set_cons_succ]
                refine takeH (i := 9) (d := 80) (v := ?ve9) rfl (by kernel_rfl) (by kernel_rfl) (by kernel_rfl) (fun _ _ _ h => h) rfl (by rfl) ?ye9 hS ?re9
                case ye9 => (intro wz hz; obtain ⟨k0, k1, k2, k3, k4, k5, k6, k7, k8, k9, k10, k11⟩ := hz.1.cells; obtain ⟨e0, e1, e2, e3⟩ := hz.2.cells; go_simp <;> with_reducible rfl)
                simp only [List.setIfInBounds_toArray, List.set_cons_zero, List.set_cons_succ]
                refine takeH (i := 10) (d := 81) (v := ?ve10) rfl (by kernel_rfl) (by kernel_rfl) (by kernel_rfl) (fun _ _ _ h => h) rfl (by rfl) ?ye10 hS ?re10
                case ye10 => (intro wz hz; obtain ⟨k0, k1, k2, k3, k4, k5, k6, k7, k8, k9, k10, k11⟩ := hz.1.cells; obtain ⟨e0, e1, e2, e3⟩ := hz.2.cells; go_simp <;> with_reducible rfl)
                simp only [List.setIfInBounds_toArray, List.set_cons_zero, List.set_cons_succ]
                refine takeH (i := 11) (d := 82) (v := ?ve11) rfl (by kernel_rfl) (by kernel_rfl) (by kernel_rfl) (fun _ _ _ h => h) rfl (by rfl) ?ye11 hS ?re11
                case ye11 => (intro wz hz; obtain ⟨k0, k1, k2, k3, k4, k5, k6, k7, k8, k9, k10, k11⟩ := hz.1.cells; obtain ⟨e0, e1, e2, e3⟩ := hz.2.cells; go_simp <;> with_reducible rfl)
                simp only [List.setIfInBounds_toArray, List.set_cons_zero, List.set_cons_succ]
                refine takeH (i := 12) (d := 83) (v := ?ve12) rfl (by kernel_rfl) (by kernel_rfl) (by kernel_rfl) (fun _ _ _ h => h) rfl (by rfl) ?ye12 hS ?re12
                case ye12 => (intro wz hz; obtain ⟨k0, k1, k2, k3, k4, k5, k6, k7, k8, k9, k10, k11⟩ := hz.1.cells; obtain ⟨e0, e1, e2, e3⟩ := hz.2.cells; go_simp <;> with_reducible rfl)
                simp only [List.setIfInBounds_toArray, List.set_cons_zero, List.set_cons_succ]
                refine takeH (i := 13) (d := 84) (v := ?ve13) rfl (by kernel_rfl) (by kernel_rfl) (by kernel_rfl) (fun _ _ _ h => h) rfl (by rfl) ?ye13 hS ?re13
                case ye13 => (intro wz hz; obtain ⟨k0, k1, k2, k3, k4, k5, k6, k7, k8, k9, k10, k11⟩ := hz.1.cells; obtain ⟨e0, e1, e2, e3⟩ := hz.2.cells; go_simp <;> with_reducible rfl)
                simp only [List.setIfInBounds_toArray, List.set_cons_zero, List.set_cons_succ]
                refine takeH (i := 14) (d := 85) (v := ?ve14) rfl (by kernel_rfl) (by kernel_rfl) (by kernel_rfl) (fun _ _ _ h => h) rfl (by rfl) ?ye14 hS ?re14
                case ye14 => (intro wz hz; obtain ⟨k0, k1, k2, k3, k4, k5, k6, k7, k8, k9, k10, k11⟩ := hz.1.cells; obtain ⟨e0, e1, e2, e3⟩ := hz.2.cells; go_simp <;> with_reducible rfl)
                simp only [List.setIfInBounds_toArray, List.set_cons_zero, List.set_cons_succ]
                refine takeH (i := 15) (d := 86) (v := ?ve15) rfl (by kernel_rfl) (by kernel_rfl) (by kernel_rfl) (fun _ _ _ h => h) rfl (by rfl) ?ye15 hS ?re15
                case ye15 => (intro wz hz; obtain ⟨k0, k1, k2, k3, k4, k5, k6, k7, k8, k9, k10, k11⟩ := hz.1.cells; obtain ⟨e0, e1, e2, e3⟩ := hz.2.cells; go_simp <;> with_reducible rfl)
                simp only [List.setIfInBounds_toArray, List.set_cons_zero, List.set_cons_succ]
                refine takeH (i := 16) (d := 87) (v := ?ve16) rfl (by kernel_rfl) (by kernel_rfl) (by kernel_rfl) (fun _ _ _ h => h) rfl (by rfl) ?ye16 hS ?re16
                case ye16 => (intro wz hz; obtain ⟨k0, k1, k2, k3, k4, k5, k6, k7, k8, k9, k10, k11⟩ := hz.1.cells; obtain ⟨e0, e1, e2, e3⟩ := hz.2.cells; go_simp <;> with_reducible rfl)
                simp only [List.setIfInBounds_toArray, List.set_cons_zero, List.set_cons_succ]
                refine takeH (i := 17) (d := 88) (v := ?ve17) rfl (by kernel_rfl) (by kernel_rfl) (by kernel_rfl) (fun _ _ _ h => h) rfl (by rfl) ?ye17 hS ?re17
                case ye17 => (intro wz hz; obtain ⟨k0, k1, k2, k3, k4, k5, k6, k7, k8, k9, k10, k11⟩ := hz.1.cells; obtain ⟨e0, e1, e2, e3⟩ := hz.2.cells; go_simp <;> with_reducible rfl)
                simp only [List.setIfInBounds_toArray, List.set_cons_zero, List.set_cons_succ]
                refine takeH (i := 18) (d := 89) (v := ?ve18) rfl (by kernel_rfl) (by kernel_rfl) (by kernel_rfl) (fun _ _ _ h => h) rfl (by rfl) ?ye18 hS ?re18
                case ye18 => (intro wz hz; obtain ⟨k0, k1, k2, k3, k4, k5, k6, k7, k8, k9, k10, k11⟩ := hz.1.cells; obtain ⟨e0, e1, e2, e3⟩ := hz.2.cells; go_simp <;> with_reducible rfl)
                simp only [List.setIfInBounds_toArray, List.set_cons_zero, List.set_cons_succ]
                refine takeH (i := 19) (d := 90) (v := ?ve19) rfl (by kernel_rfl) (by kernel_rfl) (by kernel_rfl) (fun _ _ _ h => h) rfl (by rfl) ?ye19 hS ?re19
                case ye19 => (intro wz hz; obtain ⟨k0, k1, k2, k3, k4, k5, k6, k7, k8, k9, k10, k11⟩ := hz.1.cells; obtain ⟨e0, e1, e2, e3⟩ := hz.2.cells; go_simp <;> with_reducible rfl)
                simp only [List.setIfInBounds_toArray, List.set_cons_zero, List.set_cons_succ]
                refine takeH (i := 20) (d := 91) (v := ?ve20) rfl (by kernel_rfl) (by kernel_rfl) (by kernel_rfl) (fun _ _ _ h => h) rfl (by rfl) ?ye20 hS ?re20
                case ye20 => (intro wz hz; obtain ⟨k0, k1, k2, k3, k4, k5, k6, k7, k8, k9, k10, k11⟩ := hz.1.cells; obtain ⟨e0, e1, e2, e3⟩ := hz.2.cells; go_simp <;> with_reducible rfl)
                simp only [List.setIfInBounds_toArray, List.set_cons_zero, List.set_cons_succ]
                refine takeH (i := 21) (d := 92) (v := ?ve21) rfl (by kernel_rfl) (by kernel_rfl) (by kernel_rfl) (fun _ _ _ h => h) rfl (by rfl) ?ye21 hS ?re21
                case ye21 => (intro wz hz; obtain ⟨k0, k1, k2, k3, k4, k5, k6, k7, k8, k9, k10, k11⟩ := hz.1.cells; obtain ⟨e0, e1, e2, e3⟩ := hz.2.cells; go_simp <;> with_reducible rfl)
                simp only [List.setIfInBounds_toArray, List.set_cons_zero, List.set_cons_succ]
                refine takeH (i := 22) (d := 93) (v := ?ve22) rfl (by kernel_rfl) (by kernel_rfl) (by kernel_rfl) (fun _ _ _ h => h) rfl (by rfl) ?ye22 hS ?re22
                case ye22 => (intro wz hz; obtain ⟨k0, k1, k2, k3, k4, k5, k6, k7, k8, k9, k10, k11⟩ := hz.1.cells; obtain ⟨e0, e1, e2, e3⟩ := hz.2.cells; go_simp <;> with_reducible rfl)
                simp only [List.setIfInBounds_toArray, List.set_cons_zero, List.set_cons_succ]
                refine takeH (i := 23) (d := 94) (v := ?ve23) rfl (by kernel_rfl) (by kernel_rfl) (by kernel_rfl) (fun _ _ _ h => h) rfl (by rfl) ?ye23 hS ?re23
                case ye23 => (intro wz hz; obtain ⟨k0, k1, k2, k3, k4, k5, k6, k7, k8, k9, k10, k11⟩ := hz.1.cells; obtain ⟨e0, e1, e2, e3⟩ := hz.2.cells; go_simp <;> with_reducible rfl)
                simp only [List.setIfInBounds_toArray, List.set_cons_zero, List.set_cons_succ]
                refine takeH (i := 25) (d := 96) (v := ?ve25) rfl (by kernel_rfl) (by kernel_rfl) (by kernel_rfl) (fun _ _ _ h => h) rfl (by rfl) ?ye25 hS ?re25
                case ye25 => (intro wz hz; obtain ⟨k0, k1, k2, k3, k4, k5, k6, k7, k8, k9, k10, k11⟩ := hz.1.cells; obtain ⟨e0, e1, e2, e3⟩ := hz.2.cells; go_simp <;> with_reducible rfl)
                simp only [List.setIfInBounds_toArray, List.set_cons_zero, List.set_cons_succ]
                refine takeH (i := 26) (d := 97) (v := ?ve26) rfl (by kernel_rfl) (by kernel_rfl) (by kernel_rfl) (fun _ _ _ h => h) rfl (by rfl) ?ye26 hS ?re26
                case ye26 => (intro wz hz; obtain ⟨k0, k1, k2, k3, k4, k5, k6, k7, k8, k9, k10, k11⟩ := hz.1.cells; obtain ⟨e0, e1, e2, e3⟩ := hz.2.cells; go_simp <;> with_reducible rfl)
                simp only [List.setIfInBounds_toArray, List.set_cons_zero, List.set_cons_succ]
                refine wpAnyH_ready (rs := [24]) (by kernel_rfl) (by simp) ?_
                refine AllReadyH.cons rfl (fun K hK => ?_) AllReadyH.nil
                go_simp
                refine (meets_is HMS.out _).mono ?_
                rintro e w1 ⟨rfl, hb⟩
                refine hK.out _ _ (show _ ∧ _ from ⟨hS.1.call hb, hS.2.call hb⟩) (fun hT => ?_)
                clear hK hb hS
                have hS := hT
                clear hT
                refine wpAnyH_ready (rs := [27]) (by kernel_rfl) (by simp) ?_
                refine AllReadyH.cons rfl (fun K hK => ?_) AllReadyH.nil
                go_simp
                refine (meets_is HMS2.out _).mono ?_
                rintro e w1 ⟨rfl, hb⟩
                refine hK.out _ _ (show _ ∧ _ from ⟨hS.1.call hb, hS.2.call hb⟩) (fun hT => ?_)
                clear hK hb hS
                have hS := hT
                clear hT
                refine takeH (i := 28) (d := 99) (v := ?ve28) rfl (by kernel_rfl) (by kernel_rfl) (by kernel_rfl) (fun _ _ _ h => h) rfl (by rfl) ?ye28 hS ?re28
                case ye28 => (intro wz hz; obtain ⟨k0, k1, k2, k3, k4, k5, k6, k7, k8, k9, k10, k11⟩ := hz.1.cells; obtain ⟨e0, e1, e2, e3⟩ := hz.2.cells; go_simp <;> with_reducible rfl)
                simp only [List.setIfInBounds_toArray, List.set_cons_zero, List.set_cons_succ]
                refine takeH (i := 29) (d := 100) (v := ?ve29) rfl (by kernel_rfl) (by kernel_rfl) (by kernel_rfl) (fun _ _ _ h => h) rfl (by rfl) ?ye29 hS ?re29
                case ye29 => (intro wz hz; obtain ⟨k0, k1, k2, k3, k4, k5, k6, k7, k8, k9, k10, k11⟩ := hz.1.cells; obtain ⟨e0, e1, e2, e3⟩ := hz.2.cells; go_simp <;> with_reducible rfl)
                simp only [List.setIfInBounds_toArray, List.set_cons_zero, List.set_cons_succ]
                refine wpAnyH_done (by kernel_rfl) ?_ _
                have HS := Lib.hid hS.1
                clear hS
                go_wp2_with fail
                go_meet
                exact ⟨rfl, HS⟩
              · rw [HEM.out.2 (fun h => hy h.2)] at hms
                have HMS := Lib.hid (show meetsB a0 a1 a2 a3 b0 b1 b2 b3 = false from hms)
                have HMS2 := Lib.hid (hsw.trans hms)
                have hy : decide (m1 ≤ m3) = false := by simpa using hy
                clear hms hsw heb
                refine wp_region_held_drew (S := fun z => Bx3 w z a0 a1 a2 a3 b0 b1 b2 b3 c0 c1 c2 c3 ∧ Box4 z g m0 m1 m2 m3) (by kernel_rfl) ⟨HB.out.drew, HM.out⟩ (fun hS => ?_)
                refine takeH (i := 0) (d := 71) (v := ?vd0) rfl (by kernel_rfl) (by kernel_rfl) (by kernel_rfl) (fun _ _ _ h => h) rfl (by rfl) ?yd0 hS ?rd0
                case yd0 => (intro wz hz; obtain ⟨k0, k1, k2, k3, k4, k5, k6, k7, k8, k9, k10, k11⟩ := hz.1.cells; obtain ⟨e0, e1, e2, e3⟩ := hz.2.cells; go_simp <;> with_reducible rfl)
                simp only [List.setIfInBounds_toArray, List.set_cons_zero, List.set_cons_succ]
                refine takeH (i := 1) (d := 72) (v := ?vd1) rfl (by kernel_rfl) (by kernel_rfl) (by kernel_rfl) (fun _ _ _ h => h) rfl (by rfl) ?yd1 hS ?rd1
                case yd1 => (intro wz hz; obtain ⟨k0, k1, k2, k3, k4, k5, k6, k7, k8, k9, k10, k11⟩ := hz.1.cells; obtain ⟨e0, e1, e2, e3⟩ := hz.2.cells; go_simp <;> with_reducible rfl)
                simp only [List.setIfInBounds_toArray, List.set_cons_zero, List.set_cons_succ]
                refine takeH (i := 3) (d := 74) (v := ?vd3) rfl (by kernel_rfl) (by kernel_rfl) (by kernel_rfl) (fun _ _ _ h => h) rfl (by rfl) ?yd3 hS ?rd3
                case yd3 => (intro wz hz; obtain ⟨k0, k1, k2, k3, k4, k5, k6, k7, k8, k9, k10, k11⟩ := hz.1.cells; obtain ⟨e0, e1, e2, e3⟩ := hz.2.cells; go_simp <;> with_reducible rfl)
                simp only [List.setIfInBounds_toArray, List.set_cons_zero, List.set_cons_succ]
                refine wpAnyH_ready (rs := [2]) (by kernel_rfl) (by simp) ?_
                refine AllReadyH.cons rfl (fun K hK => ?_) AllReadyH.nil
                go_simp
                refine (meets_is HMS.out _).mono ?_
                rintro e w1 ⟨rfl, hb⟩
                refine hK.out _ _ (show _ ∧ _ from ⟨hS.1.call hb, hS.2.call hb⟩) (fun hT => ?_)
                clear hK hb hS
                have hS := hT
                clear hT
                refine wpAnyH_ready (rs := [4]) (by kernel_rfl) (by simp) ?_
                refine AllReadyH.cons rfl (fun K hK => ?_) AllReadyH.nil
                go_simp
                refine (empty_is HEB.out _).mono ?_
                rintro e w1 ⟨rfl, hb⟩
                refine hK.out _ _ (show _ ∧ _ from ⟨hS.1.call hb, hS.2.call hb⟩) (fun hT => ?_)
                clear hK hb hS
                have hS := hT
                clear hT
                refine takeH (i := 5) (d := 76) (v := ?vd5) rfl (by kernel_rfl) (by kernel_rfl) (by kernel_rfl) (fun _ _ _ h => h) rfl (by rfl) ?yd5 hS ?rd5
                case yd5 => (intro wz hz; obtain ⟨k0, k1, k2, k3, k4, k5, k6, k7, k8, k9, k10, k11⟩ := hz.1.cells; obtain ⟨e0, e1, e2, e3⟩ := hz.2.cells; go_simp <;> with_reducible rfl)
                simp only [List.setIfInBounds_toArray, List.set_cons_zero, List.set_cons_succ]
                refine takeH (i := 6) (d := 77) (v := ?vd6) rfl (by kernel_rfl) (by kernel_rfl) (by kernel_rfl) (fun _ _ _ h => h) rfl (by rfl) ?yd6 hS ?rd6
                case yd6 => (intro wz hz; obtain ⟨k0, k1, k2, k3, k4, k5, k6, k7, k8, k9, k10, k11⟩ := hz.1.cells; obtain ⟨e0, e1, e2, e3⟩ := hz.2.cells; go_simp <;> with_reducible rfl)
                simp only [List.setIfInBounds_toArray, List.set_cons_zero, List.set_cons_succ]
                refine takeH (i := 7) (d := 78) (v := ?vd7) rfl (by kernel_rfl) (by kernel_rfl) (by kernel_rfl) (fun _ _ _ h => h) rfl (by rfl) ?yd7 hS ?rd7
                case yd7 => (intro wz hz; obtain ⟨k0, k1, k2, k3, k4, k5, k6, k7, k8, k9, k10, k11⟩ := hz.1.cells; obtain ⟨e0, e1, e2, e3⟩ := hz.2.cells; go_simp <;> with_reducible rfl)
                simp only [List.setIfInBounds_toArray, List.set_cons_zero, List.set_cons_succ]
                refine takeH (i := 8) (d := 79) (v := ?vd8) rfl (by kernel_rfl) (by kernel_rfl) (by kernel_rfl) (fun _ _ _ h => h) rfl (by rfl) ?yd8 hS ?rd8
                case yd8 => (intro wz hz; obtain ⟨k0, k1, k2, k3, k4, k5, k6, k7, k8, k9, k10, k11⟩ := hz.1.cells; obtain ⟨e0, e1, e2, e3⟩ := hz.2.cells; go_simp <;> with_reducible rfl)
                simp only [List.setIfInBounds_toArray, List.set_cons_zero, List.set_cons_succ]
                refine takeH (i := 9) (d := 80) (v := ?vd9) rfl (by kernel_rfl) (by kernel_rfl) (by kernel_rfl) (fun _ _ _ h => h) rfl (by rfl) ?yd9 hS ?rd9
                case yd9 => (intro wz hz; obtain ⟨k0, k1, k2, k3, k4, k5, k6, k7, k8, k9, k10, k11⟩ := hz.1.cells; obtain ⟨e0, e1, e2, e3⟩ := hz.2.cells; go_simp <;> with_reducible rfl)
                simp only [List.setIfInBounds_toArray, List.set_cons_zero, List.set_cons_succ]
                refine takeH (i := 10) (d := 81) (v := ?vd10) rfl (by kernel_rfl) (by kernel_rfl) (by kernel_rfl) (fun _ _ _ h => h) rfl (by rfl) ?yd10 hS ?rd10
                case yd10 => (intro wz hz; obtain ⟨k0, k1, k2, k3, k4, k5, k6, k7, k8, k9, k10, k11⟩ := hz.1.cells; obtain ⟨e0, e1, e2, e3⟩ := hz.2.cells; go_simp <;> with_reducible rfl)
                simp only [List.setIfInBounds_toArray, List.set_cons_zero, List.set_cons_succ]
                refine takeH (i := 11) (d := 82) (v := ?vd11) rfl (by kernel_rfl) (by kernel_rfl) (by kernel_rfl) (fun _ _ _ h => h) rfl (by rfl) ?yd11 hS ?rd11
                case yd11 => (intro wz hz; obtain ⟨k0, k1, k2, k3, k4, k5, k6, k7, k8, k9, k10, k11⟩ := hz.1.cells; obtain ⟨e0, e1, e2, e3⟩ := hz.2.cells; go_simp <;> with_reducible rfl)
                simp only [List.setIfInBounds_toArray, List.set_cons_zero, List.set_cons_succ]
                refine takeH (i := 12) (d := 83) (v := ?vd12) rfl (by kernel_rfl) (by kernel_rfl) (by kernel_rfl) (fun _ _ _ h => h) rfl (by rfl) ?yd12 hS ?rd12
                case yd12 => (intro wz hz; obtain ⟨k0, k1, k2, k3, k4, k5, k6, k7, k8, k9, k10, k11⟩ := hz.1.cells; obtain ⟨e0, e1, e2, e3⟩ := hz.2.cells; go_simp <;> with_reducible rfl)
                simp only [List.setIfInBounds_toArray, List.set_cons_zero, List.set_cons_succ]
                refine takeH (i := 13) (d := 84) (v := ?vd13) rfl (by kernel_rfl) (by kernel_rfl) (by kernel_rfl) (fun _ _ _ h => h) rfl (by rfl) ?yd13 hS ?rd13
                case yd13 => (intro wz hz; obtain ⟨k0, k1, k2, k3, k4, k5, k6, k7, k8, k9, k10, k11⟩ := hz.1.cells; obtain ⟨e0, e1, e2, e3⟩ := hz.2.cells; go_simp <;> with_reducible rfl)
                simp only [List.setIfInBounds_toArray, List.set_cons_zero, List.set_cons_succ]
                refine takeH (i := 14) (d := 85) (v := ?vd14) rfl (by kernel_rfl) (by kernel_rfl) (by kernel_rfl) (fun _ _ _ h => h) rfl (by rfl) ?yd14 hS ?rd14
                case yd14 => (intro wz hz; obtain ⟨k0, k1, k2, k3, k4, k5, k6, k7, k8, k9, k10, k11⟩ := hz.1.cells; obtain ⟨e0, e1, e2, e3⟩ := hz.2.cells; go_simp <;> with_reducible rfl)
                simp only [List.setIfInBounds_toArray, List.set_cons_zero, List.set_cons_succ]
                refine takeH (i := 15) (d := 86) (v := ?vd15) rfl (by kernel_rfl) (by kernel_rfl) (by kernel_rfl) (fun _ _ _ h => h) rfl (by rfl) ?yd15 hS ?rd15
                case yd15 => (intro wz hz; obtain ⟨k0, k1, k2, k3, k4, k5, k6, k7, k8, k9, k10, k11⟩ := hz.1.cells; obtain ⟨e0, e1, e2, e3⟩ := hz.2.cells; go_simp <;> with_reducible rfl)
                simp only [List.setIfInBounds_toArray, List.set_cons_zero, List.set_cons_succ]
                refine takeH (i := 16) (d := 87) (v := ?vd16) rfl (by kernel_rfl) (by kernel_rfl) (by kernel_rfl) (fun _ _ _ h => h) rfl (by rfl) ?yd16 hS ?rd16
                case yd16 => (intro wz hz; obtain ⟨k0, k1, k2, k3, k4, k5, k6, k7, k8, k9, k10, k11⟩ := hz.1.cells; obtain ⟨e0, e1, e2, e3⟩ := hz.2.cells; go_simp <;> with_reducible rfl)
                simp only [List.setIfInBounds_toArray, List.set_cons_zero, List.set_cons_succ]
                refine takeH (i := 17) (d := 88) (v := ?vd17) rfl (by kernel_rfl) (by kernel_rfl) (by kernel_rfl) (fun _ _ _ h => h) rfl (by rfl) ?yd17 hS ?rd17
                case yd17 => (intro wz hz; obtain ⟨k0, k1, k2, k3, k4, k5, k6, k7, k8, k9, k10, k11⟩ := hz.1.cells; obtain ⟨e0, e1, e2, e3⟩ := hz.2.cells; go_simp <;> with_reducible rfl)
                simp only [List.setIfInBounds_toArray, List.set_cons_zero, List.set_cons_succ]
                refine takeH (i := 18) (d := 89) (v := ?vd18) rfl (by kernel_rfl) (by kernel_rfl) (by kernel_rfl) (fun _ _ _ h => h) rfl (by rfl) ?yd18 hS ?rd18
                case yd18 => (intro wz hz; obtain ⟨k0, k1, k2, k3, k4, k5, k6, k7, k8, k9, k10, k11⟩ := hz.1.cells; obtain ⟨e0, e1, e2, e3⟩ := hz.2.cells; go_simp <;> with_reducible rfl)
                simp only [List.setIfInBounds_toArray, List.set_cons_zero, List.set_cons_succ]
                refine takeH (i := 19) (d := 90) (v := ?vd19) rfl (by kernel_rfl) (by kernel_rfl) (by kernel_rfl) (fun _ _ _ h => h) rfl (by rfl) ?yd19 hS ?rd19
                case yd19 => (intro wz hz; obtain ⟨k0, k1, k2, k3, k4, k5, k6, k7, k8, k9, k10, k11⟩ := hz.1.cells; obtain ⟨e0, e1, e2, e3⟩ := hz.2.cells; go_simp <;> with_reducible rfl)
                simp only [List.setIfInBounds_toArray, List.set_cons_zero, List.set_cons_succ]
                refine takeH (i := 20) (d := 91) (v := ?vd20) rfl (by kernel_rfl) (by kernel_rfl) (by kernel_rfl) (fun _ _ _ h => h) rfl (by rfl) ?yd20 hS ?rd20
                case yd20 => (intro wz hz; obtain ⟨k0, k1, k2, k3, k4, k5, k6, k7, k8, k9, k10, k11⟩ := hz.1.cells; obtain ⟨e0, e1, e2, e3⟩ := hz.2.cells; go_simp <;> with_reducible rfl)
                simp only [List.setIfInBounds_toArray, List.set_cons_zero, List.set_cons_succ]
                refine takeH (i := 21) (d := 92) (v := ?vd21) rfl (by kernel_rfl) (by kernel_rfl) (by kernel_rfl) (fun _ _ _ h => h) rfl (by rfl) ?yd21 hS ?rd21
                case yd21 => (intro wz hz; obtain ⟨k0, k1, k2, k3, k4, k5, k6, k7, k8, k9, k10, k11⟩ := hz.1.cells; obtain ⟨e0, e1, e2, e3⟩ := hz.2.cells; go_simp <;> with_reducible rfl)
                simp only [List.setIfInBounds_toArray, List.set_cons_zero, List.set_cons_succ]
                refine takeH (i := 22) (d := 93) (v := ?vd22) rfl (by kernel_rfl) (by kernel_rfl) (by kernel_rfl) (fun _ _ _ h => h) rfl (by rfl) ?yd22 hS ?rd22
                case yd22 => (intro wz hz; obtain ⟨k0, k1, k2, k3, k4, k5, k6, k7, k8, k9, k10, k11⟩ := hz.1.cells; obtain ⟨e0, e1, e2, e3⟩ := hz.2.cells; go_simp <;> with_reducible rfl)
                simp only [List.setIfInBounds_toArray, List.set_cons_zero, List.set_cons_succ]
                refine takeH (i := 23) (d := 94) (v := ?vd23) rfl (by kernel_rfl) (by kernel_rfl) (by kernel_rfl) (fun _ _ _ h => h) rfl (by rfl) ?yd23 hS ?rd23
                case yd23 => (intro wz hz; obtain ⟨k0, k1, k2, k3, k4, k5, k6, k7, k8, k9, k10, k11⟩ := hz.1.cells; obtain ⟨e0, e1, e2, e3⟩ := hz.2.cells; go_simp <;> with_reducible rfl)
                simp only [List.setIfInBounds_toArray, List.set_cons_zero, List.set_cons_succ]
                refine takeH (i := 25) (d := 96) (v := ?vd25) rfl (by kernel_rfl) (by kernel_rfl) (by kernel_rfl) (fun _ _ _ h => h) rfl (by rfl) ?yd25 hS ?rd25
                case yd25 => (intro wz hz; obtain ⟨k0, k1, k2, k3, k4, k5, k6, k7, k8, k9, k10, k11⟩ := hz.1.cells; obtain ⟨e0, e1, e2, e3⟩ := hz.2.cells; go_simp <;> with_reducible rfl)
                simp only [List.setIfInBounds_toArray, List.set_cons_zero, List.set_cons_succ]
                refine takeH (i := 26) (d := 97) (v := ?vd26) rfl (by kernel_rfl) (by kernel_rfl) (by kernel_rfl) (fun _ _ _ h => h) rfl (by rfl) ?yd26 hS ?rd26
                case yd26 => (intro wz hz; obtain ⟨k0, k1, k2, k3, k4, k5, k6, k7, k8, k9, k10, k11⟩ := hz.1.cells; obtain ⟨e0, e1, e2, e3⟩ := hz.2.cells; go_simp <;> with_reducible rfl)
                simp only [List.setIfInBounds_toArray, List.set_cons_zero, List.set_cons_succ]
                refine wpAnyH_ready (rs := [24]) (by kernel_rfl) (by simp) ?_
                refine AllReadyH.cons rfl (fun K hK => ?_) AllReadyH.nil
                go_simp
                refine (meets_is HMS.out _).mono ?_
                rintro e w1 ⟨rfl, hb⟩
                refine hK.out _ _ (show _ ∧ _ from ⟨hS.1.call hb, hS.2.call hb⟩) (fun hT => ?_)
                clear hK hb hS
                have hS := hT
                clear hT
                refine wpAnyH_ready (rs := [27]) (by kernel_rfl) (by simp) ?_
                refine AllReadyH.cons rfl (fun K hK => ?_) AllReadyH.nil
                go_simp
                refine (meets_is HMS2.out _).mono ?_
                rintro e w1 ⟨rfl, hb⟩
                refine hK.out _ _ (show _ ∧ _ from ⟨hS.1.call hb, hS.2.call hb⟩) (fun hT => ?_)
                clear hK hb hS
                have hS := hT
                clear hT
                refine takeH (i := 28) (d := 99) (v := ?vd28) rfl (by kernel_rfl) (by kernel_rfl) (by kernel_rfl) (fun _ _ _ h => h) rfl (by rfl) ?yd28 hS ?rd28
                case yd28 => (intro wz hz; obtain ⟨k0, k1, k2, k3, k4, k5, k6, k7, k8, k9, k10, k11⟩ := hz.1.cells; obtain ⟨e0, e1, e2, e3⟩ := hz.2.cells; go_simp <;> with_reducible rfl)
                simp only [List.setIfInBounds_toArray, List.set_cons_zero, List.set_cons_succ]
                refine takeH (i := 29) (d := 100) (v := ?vd29) rfl (by kernel_rfl) (by kernel_rfl) (by kernel_rfl) (fun _ _ _ h => h) rfl (by rfl) ?yd29 hS ?rd29
                case yd29 => (intro wz hz; obtain ⟨k0, k1, k2, k3, k4, k5, k6, k7, k8, k9, k10, k11⟩ := hz.1.cells; obtain ⟨e0, e1, e2, e3⟩ := hz.2.cells; go_simp <;> with_reducible rfl)
                simp only [List.setIfInBounds_toArray, List.set_cons_zero, List.set_cons_succ]
                refine wpAnyH_done (by kernel_rfl) ?_ _
                have HS := Lib.hid hS.1
                clear hS
                go_wp2_with fail
                go_meet
                exact ⟨rfl, HS⟩
            · rw [HEM.out.2 (fun h => hx h.1)] at hms
              have HMS := Lib.hid (show meetsB a0 a1 a2 a3 b0 b1 b2 b3 = false from hms)
              have HMS2 := Lib.hid (hsw.trans hms)
              have hx : decide (m0 ≤ m2) = false := by simpa using hx
              clear hms hsw heb
              refine wp_region_held_drew (S := fun z => Bx3 w z a0 a1 a2 a3 b0 b1 b2 b3 c0 c1 c2 c3 ∧ Box4 z g m0 m1 m2 m3) (by kernel_rfl) ⟨HB.out.drew, HM.out⟩ (fun hS => ?_)
              refine takeH (i := 0) (d := 71) (v := ?vc0) rfl (by kernel_rfl) (by kernel_rfl) (by kernel_rfl) (fun _ _ _ h => h) rfl (by rfl) ?yc0 hS ?rc0
              case yc0 => (intro wz hz; obtain ⟨k0, k1, k2, k3, k4, k5, k6, k7, k8, k9, k10, k11⟩ := hz.1.cells; obtain ⟨e0, e1, e2, e3⟩ := hz.2.cells; go_simp <;> with_reducible rfl)
              simp only [List.setIfInBounds_toArray, List.set_cons_zero, List.set_cons_succ]
              refine takeH (i := 1) (d := 72) (v := ?vc1) rfl (by kernel_rfl) (by kernel_rfl) (by kernel_rfl) (fun _ _ _ h => h) rfl (by rfl) ?yc1 hS ?rc1
              case yc1 => (intro wz hz; obtain ⟨k0, k1, k2, k3, k4, k5, k6, k7, k8, k9, k10, k11⟩ := hz.1.cells; obtain ⟨e0, e1, e2, e3⟩ := hz.2.cells; go_simp <;> with_reducible rfl)
              simp only [List.setIfInBounds_toArray, List.set_cons_zero, List.set_cons_succ]
              refine takeH (i := 3) (d := 74) (v := ?vc3) rfl (by kernel_rfl) (by kernel_rfl) (by kernel_rfl) (fun _ _ _ h => h) rfl (by rfl) ?yc3 hS ?rc3
              case yc3 => (intro wz hz; obtain ⟨k0, k1, k2, k3, k4, k5, k6, k7, k8, k9, k10, k11⟩ := hz.1.cells; obtain ⟨e0, e1, e2, e3⟩ := hz.2.cells; go_simp <;> with_reducible rfl)
              simp only [List.setIfInBounds_toArray, List.set_cons_zero, List.set_cons_succ]
              refine wpAnyH_ready (rs := [2]) (by kernel_rfl) (by simp) ?_
              refine AllReadyH.cons rfl (fun K hK => ?_) AllReadyH.nil
              go_simp
              refine (meets_is HMS.out _).mono ?_
              rintro e w1 ⟨rfl, hb⟩
              refine hK.out _ _ (show _ ∧ _ from ⟨hS.1.call hb, hS.2.call hb⟩) (fun hT => ?_)
              clear hK hb hS
              have hS := hT
              clear hT
              refine wpAnyH_ready (rs := [4]) (by kernel_rfl) (by simp) ?_
              refine AllReadyH.cons rfl (fun K hK => ?_) AllReadyH.nil
              go_simp
              refine (empty_is HEB.out _).mono ?_
              rintro e w1 ⟨rfl, hb⟩
              refine hK.out _ _ (show _ ∧ _ from ⟨hS.1.call hb, hS.2.call hb⟩) (fun hT => ?_)
              clear hK hb hS
              have hS := hT
              clear hT
              refine takeH (i := 5) (d := 76) (v := ?vc5) rfl (by kernel_rfl) (by kernel_rfl) (by kernel_rfl) (fun _ _ _ h => h) rfl (by rfl) ?yc5 hS ?rc5
              case yc5 => (intro wz hz; obtain ⟨k0, k1, k2, k3, k4, k5, k6, k7, k8, k9, k10, k11⟩ := hz.1.cells; obtain ⟨e0, e1, e2, e3⟩ := hz.2.cells; go_simp <;> with_reducible rfl)
              simp only [List.setIfInBounds_toArray, List.set_cons_zero, List.set_cons_succ]
              refine takeH (i := 6) (d := 77) (v := ?vc6) rfl (by kernel_rfl) (by kernel_rfl) (by kernel_rfl) (fun _ _ _ h => h) rfl (by rfl) ?yc6 hS ?rc6
              case yc6 => (intro wz hz; obtain ⟨k0, k1, k2, k3, k4, k5, k6, k7, k8, k9, k10, k11⟩ := hz.1.cells; obtain ⟨e0, e1, e2, e3⟩ := hz.2.cells; go_simp <;> with_reducible rfl)
              simp only [List.setIfInBounds_toArray, List.set_cons_zero, List.set_cons_succ]
              refine takeH (i := 7) (d := 78) (v := ?vc7) rfl (by kernel_rfl) (by kernel_rfl) (by kernel_rfl) (fun _ _ _ h => h) rfl (by rfl) ?yc7 hS ?rc7
              case yc7 => (intro wz hz; obtain ⟨k0, k1, k2, k3, k4, k5, k6, k7, k8, k9, k10, k11⟩ := hz.1.cells; obtain ⟨e0, e1, e2, e3⟩ := hz.2.cells; go_simp <;> with_reducible rfl)
              simp only [List.setIfInBounds_toArray, List.set_cons_zero, List.set_cons_succ]
              refine takeH (i := 8) (d := 79) (v := ?vc8) rfl (by kernel_rfl) (by kernel_rfl) (by kernel_rfl) (fun _ _ _ h => h) rfl (by rfl) ?yc8 hS ?rc8
              case yc8 => (intro wz hz; obtain ⟨k0, k1, k2, k3, k4, k5, k6, k7, k8, k9, k10, k11⟩ := hz.1.cells; obtain ⟨e0, e1, e2, e3⟩ := hz.2.cells; go_simp <;> with_reducible rfl)
              simp only [List.setIfInBounds_toArray, List.set_cons_zero, List.set_cons_succ]
              refine takeH (i := 9) (d := 80) (v := ?vc9) rfl (by kernel_rfl) (by kernel_rfl) (by kernel_rfl) (fun _ _ _ h => h) rfl (by rfl) ?yc9 hS ?rc9
              case yc9 => (intro wz hz; obtain ⟨k0, k1, k2, k3, k4, k5, k6, k7, k8, k9, k10, k11⟩ := hz.1.cells; obtain ⟨e0, e1, e2, e3⟩ := hz.2.cells; go_simp <;> with_reducible rfl)
              simp only [List.setIfInBounds_toArray, List.set_cons_zero, List.set_cons_succ]
              refine takeH (i := 10) (d := 81) (v := ?vc10) rfl (by kernel_rfl) (by kernel_rfl) (by kernel_rfl) (fun _ _ _ h => h) rfl (by rfl) ?yc10 hS ?rc10
              case yc10 => (intro wz hz; obtain ⟨k0, k1, k2, k3, k4, k5, k6, k7, k8, k9, k10, k11⟩ := hz.1.cells; obtain ⟨e0, e1, e2, e3⟩ := hz.2.cells; go_simp <;> with_reducible rfl)
              simp only [List.setIfInBounds_toArray, List.set_cons_zero, List.set_cons_succ]
              refine takeH (i := 11) (d := 82) (v := ?vc11) rfl (by kernel_rfl) (by kernel_rfl) (by kernel_rfl) (fun _ _ _ h => h) rfl (by rfl) ?yc11 hS ?rc11
              case yc11 => (intro wz hz; obtain ⟨k0, k1, k2, k3, k4, k5, k6, k7, k8, k9, k10, k11⟩ := hz.1.cells; obtain ⟨e0, e1, e2, e3⟩ := hz.2.cells; go_simp <;> with_reducible rfl)
              simp only [List.setIfInBounds_toArray, List.set_cons_zero, List.set_cons_succ]
              refine takeH (i := 12) (d := 83) (v := ?vc12) rfl (by kernel_rfl) (by kernel_rfl) (by kernel_rfl) (fun _ _ _ h => h) rfl (by rfl) ?yc12 hS ?rc12
              case yc12 => (intro wz hz; obtain ⟨k0, k1, k2, k3, k4, k5, k6, k7, k8, k9, k10, k11⟩ := hz.1.cells; obtain ⟨e0, e1, e2, e3⟩ := hz.2.cells; go_simp <;> with_reducible rfl)
              simp only [List.setIfInBounds_toArray, List.set_cons_zero, List.set_cons_succ]
              refine takeH (i := 13) (d := 84) (v := ?vc13) rfl (by kernel_rfl) (by kernel_rfl) (by kernel_rfl) (fun _ _ _ h => h) rfl (by rfl) ?yc13 hS ?rc13
              case yc13 => (intro wz hz; obtain ⟨k0, k1, k2, k3, k4, k5, k6, k7, k8, k9, k10, k11⟩ := hz.1.cells; obtain ⟨e0, e1, e2, e3⟩ := hz.2.cells; go_simp <;> with_reducible rfl)
              simp only [List.setIfInBounds_toArray, List.set_cons_zero, List.set_cons_succ]
              refine skipH (i := 14) (d := 85) rfl (by kernel_rfl) (by kernel_rfl) (by kernel_rfl) (fun _ _ _ h => h) rfl (by rfl) hS ?_
              simp only [List.setIfInBounds_toArray, List.set_cons_zero, List.set_cons_succ]
              refine skipH (i := 15) (d := 86) rfl (by kernel_rfl) (by kernel_rfl) (by kernel_rfl) (fun _ _ _ h => h) rfl (by rfl) hS ?_
              simp only [List.setIfInBounds_toArray, List.set_cons_zero, List.set_cons_succ]
              refine skipH (i := 16) (d := 87) rfl (by kernel_rfl) (by kernel_rfl) (by kernel_rfl) (fun _ _ _ h => h) rfl (by rfl) hS ?_
              simp only [List.setIfInBounds_toArray, List.set_cons_zero, List.set_cons_succ]
              refine skipH (i := 17) (d := 88) rfl (by kernel_rfl) (by kernel_rfl) (by kernel_rfl) (fun _ _ _ h => h) rfl (by rfl) hS ?_
              simp only [List.setIfInBounds_toArray, List.set_cons_zero, List.set_cons_succ]
              refine skipH (i := 18) (d := 89) rfl (by kernel_rfl) (by kernel_rfl) (by kernel_rfl) (fun _ _ _ h => h) rfl (by rfl) hS ?_
              simp only [List.setIfInBounds_toArray, List.set_cons_zero, List.set_cons_succ]
              refine takeH (i := 19) (d := 90) (v := ?vc19) rfl (by kernel_rfl) (by kernel_rfl) (by kernel_rfl) (fun _ _ _ h => h) rfl (by rfl) ?yc19 hS ?rc19
              case yc19 => (intro wz hz; obtain ⟨k0, k1, k2, k3, k4, k5, k6, k7, k8, k9, k10, k11⟩ := hz.1.cells; obtain ⟨e0, e1, e2, e3⟩ := hz.2.cells; go_simp <;> with_reducible rfl)
              simp only [List.setIfInBounds_toArray, List.set_cons_zero, List.set_cons_succ]
              refine takeH (i := 20) (d := 91) (v := ?vc20) rfl (by kernel_rfl) (by kernel_rfl) (by kernel_rfl) (fun _ _ _ h => h) rfl (by rfl) ?yc20 hS ?rc20
              case yc20 => (intro wz hz; obtain ⟨k0, k1, k2, k3, k4, k5, k6, k7, k8, k9, k10, k11⟩ := hz.1.cells; obtain ⟨e0, e1, e2, e3⟩ := hz.2.cells; go_simp <;> with_reducible rfl)
              simp only [List.setIfInBounds_toArray, List.set_cons_zero, List.set_cons_succ]
              refine takeH (i := 21) (d := 92) (v := ?vc21) rfl (by kernel_rfl) (by kernel_rfl) (by kernel_rfl) (fun _ _ _ h => h) rfl (by rfl) ?yc21 hS ?rc21
              case yc21 => (intro wz hz; obtain ⟨k0, k1, k2, k3, k4, k5, k6, k7, k8, k9, k10, k11⟩ := hz.1.cells; obtain ⟨e0, e1, e2, e3⟩ := hz.2.cells; go_simp <;> with_reducible rfl)
              simp only [List.setIfInBounds_toArray, List.set_cons_zero, List.set_cons_succ]
              refine takeH (i := 22) (d := 93) (v := ?vc22) rfl (by kernel_rfl) (by kernel_rfl) (by kernel_rfl) (fun _ _ _ h => h) rfl (by rfl) ?yc22 hS ?rc22
              case yc22 => (intro wz hz; obtain ⟨k0, k1, k2, k3, k4, k5, k6, k7, k8, k9, k10, k11⟩ := hz.1.cells; obtain ⟨e0, e1, e2, e3⟩ := hz.2.cells; go_simp <;> with_reducible rfl)
              simp only [List.setIfInBounds_toArray, List.set_cons_zero, List.set_cons_succ]
              refine takeH (i := 23) (d := 94) (v := ?vc23) rfl (by kernel_rfl) (by kernel_rfl) (by kernel_rfl) (fun _ _ _ h => h) rfl (by rfl) ?yc23 hS ?rc23
              case yc23 => (intro wz hz; obtain ⟨k0, k1, k2, k3, k4, k5, k6, k7, k8, k9, k10, k11⟩ := hz.1.cells; obtain ⟨e0, e1, e2, e3⟩ := hz.2.cells; go_simp <;> with_reducible rfl)
              simp only [List.setIfInBounds_toArray, List.set_cons_zero, List.set_cons_succ]
              refine takeH (i := 25) (d := 96) (v := ?vc25) rfl (by kernel_rfl) (by kernel_rfl) (by kernel_rfl) (fun _ _ _ h => h) rfl (by rfl) ?yc25 hS ?rc25
              case yc25 => (intro wz hz; obtain ⟨k0, k1, k2, k3, k4, k5, k6, k7, k8, k9, k10, k11⟩ := hz.1.cells; obtain ⟨e0, e1, e2, e3⟩ := hz.2.cells; go_simp <;> with_reducible rfl)
              simp only [List.setIfInBounds_toArray, List.set_cons_zero, List.set_cons_succ]
              refine takeH (i := 26) (d := 97) (v := ?vc26) rfl (by kernel_rfl) (by kernel_rfl) (by kernel_rfl) (fun _ _ _ h => h) rfl (by rfl) ?yc26 hS ?rc26
              case yc26 => (intro wz hz; obtain ⟨k0, k1, k2, k3, k4, k5, k6, k7, k8, k9, k10, k11⟩ := hz.1.cells; obtain ⟨e0, e1, e2, e3⟩ := hz.2.cells; go_simp <;> with_reducible rfl)
              simp only [List.setIfInBounds_toArray, List.set_cons_zero, List.set_cons_succ]
              refine wpAnyH_ready (rs := [24]) (by kernel_rfl) (by simp) ?_
              refine AllReadyH.cons rfl (fun K hK => ?_) AllReadyH.nil
              go_simp
              refine (meets_is HMS.out _).mono ?_
              rintro e w1 ⟨rfl, hb⟩
              refine hK.out _ _ (show _ ∧ _ from ⟨hS.1.call hb, hS.2.call hb⟩) (fun hT => ?_)
              clear hK hb hS
              have hS := hT
              clear hT
              refine wpAnyH_ready (rs := [27]) (by kernel_rfl) (by simp) ?_
              refine AllReadyH.cons rfl (fun K hK => ?_) AllReadyH.nil
              go_simp
              refine (meets_is HMS2.out _).mono ?_
              rintro e w1 ⟨rfl, hb⟩
              refine hK.out _ _ (show _ ∧ _ from ⟨hS.1.call hb, hS.2.call hb⟩) (fun hT => ?_)
              clear hK hb hS
              have hS := hT
              clear hT
              refine takeH (i := 28) (d := 99) (v := ?vc28) rfl (by kernel_rfl) (by kernel_rfl) (by kernel_rfl) (fun _ _ _ h => h) rfl (by rfl) ?yc28 hS ?rc28
              case yc28 => (intro wz hz; obtain ⟨k0, k1, k2, k3, k4, k5, k6, k7, k8, k9, k10, k11⟩ := hz.1.cells; obtain ⟨e0, e1, e2, e3⟩ := hz.2.cells; go_simp <;> with_reducible rfl)
              simp only [List.setIfInBounds_toArray, List.set_cons_zero, List.set_cons_succ]
              refine takeH (i := 29) (d := 100) (v := ?vc29) rfl (by kernel_rfl) (by kernel_rfl) (by kernel_rfl) (fun _ _ _ h => h) rfl (by rfl) ?yc29 hS ?rc29
              case yc29 => (intro wz hz; obtain ⟨k0, k1, k2, k3, k4, k5, k6, k7, k8, k9, k10, k11⟩ := hz.1.cells; obtain ⟨e0, e1, e2, e3⟩ := hz.2.cells; go_simp <;> with_reducible rfl)
              simp only [List.setIfInBounds_toArray, List.set_cons_zero, List.set_cons_succ]
              refine wpAnyH_done (by kernel_rfl) ?_ _
              have HS := Lib.hid hS.1
              clear hS
              go_wp2_with fail
              go_meet
              exact ⟨rfl, HS⟩
          · have HEB := Lib.hid heb
            have HMS := Lib.hid (meets_no (a0 := a0) (a1 := a1) (a2 := a2) (a3 := a3) heb)
            have HMS2 := Lib.hid (hsw.trans HMS.out)
            clear hms hsw heb
            refine wp_region_held_drew (S := fun z => Bx3 w z a0 a1 a2 a3 b0 b1 b2 b3 c0 c1 c2 c3 ∧ Box4 z g m0 m1 m2 m3) (by kernel_rfl) ⟨HB.out.drew, HM.out⟩ (fun hS => ?_)
            refine takeH (i := 0) (d := 71) (v := ?vb0) rfl (by kernel_rfl) (by kernel_rfl) (by kernel_rfl) (fun _ _ _ h => h) rfl (by rfl) ?yb0 hS ?rb0
            case yb0 => (intro wz hz; obtain ⟨k0, k1, k2, k3, k4, k5, k6, k7, k8, k9, k10, k11⟩ := hz.1.cells; obtain ⟨e0, e1, e2, e3⟩ := hz.2.cells; go_simp <;> with_reducible rfl)
            simp only [List.setIfInBounds_toArray, List.set_cons_zero, List.set_cons_succ]
            refine takeH (i := 1) (d := 72) (v := ?vb1) rfl (by kernel_rfl) (by kernel_rfl) (by kernel_rfl) (fun _ _ _ h => h) rfl (by rfl) ?yb1 hS ?rb1
            case yb1 => (intro wz hz; obtain ⟨k0, k1, k2, k3, k4, k5, k6, k7, k8, k9, k10, k11⟩ := hz.1.cells; obtain ⟨e0, e1, e2, e3⟩ := hz.2.cells; go_simp <;> with_reducible rfl)
            simp only [List.setIfInBounds_toArray, List.set_cons_zero, List.set_cons_succ]
            refine takeH (i := 3) (d := 74) (v := ?vb3) rfl (by kernel_rfl) (by kernel_rfl) (by kernel_rfl) (fun _ _ _ h => h) rfl (by rfl) ?yb3 hS ?rb3
            case yb3 => (intro wz hz; obtain ⟨k0, k1, k2, k3, k4, k5, k6, k7, k8, k9, k10, k11⟩ := hz.1.cells; obtain ⟨e0, e1, e2, e3⟩ := hz.2.cells; go_simp <;> with_reducible rfl)
            simp only [List.setIfInBounds_toArray, List.set_cons_zero, List.set_cons_succ]
            refine wpAnyH_ready (rs := [2]) (by kernel_rfl) (by simp) ?_
            refine AllReadyH.cons rfl (fun K hK => ?_) AllReadyH.nil
            go_simp
            refine (meets_is HMS.out _).mono ?_
            rintro e w1 ⟨rfl, hb⟩
            refine hK.out _ _ (show _ ∧ _ from ⟨hS.1.call hb, hS.2.call hb⟩) (fun hT => ?_)
            clear hK hb hS
            have hS := hT
            clear hT
            refine wpAnyH_ready (rs := [4]) (by kernel_rfl) (by simp) ?_
            refine AllReadyH.cons rfl (fun K hK => ?_) AllReadyH.nil
            go_simp
            refine (empty_is HEB.out _).mono ?_
            rintro e w1 ⟨rfl, hb⟩
            refine hK.out _ _ (show _ ∧ _ from ⟨hS.1.call hb, hS.2.call hb⟩) (fun hT => ?_)
            clear hK hb hS
            have hS := hT
            clear hT
            refine takeH (i := 5) (d := 76) (v := ?vb5) rfl (by kernel_rfl) (by kernel_rfl) (by kernel_rfl) (fun _ _ _ h => h) rfl (by rfl) ?yb5 hS ?rb5
            case yb5 => (intro wz hz; obtain ⟨k0, k1, k2, k3, k4, k5, k6, k7, k8, k9, k10, k11⟩ := hz.1.cells; obtain ⟨e0, e1, e2, e3⟩ := hz.2.cells; go_simp <;> with_reducible rfl)
            simp only [List.setIfInBounds_toArray, List.set_cons_zero, List.set_cons_succ]
            refine takeH (i := 6) (d := 77) (v := ?vb6) rfl (by kernel_rfl) (by kernel_rfl) (by kernel_rfl) (fun _ _ _ h => h) rfl (by rfl) ?yb6 hS ?rb6
            case yb6 => (intro wz hz; obtain ⟨k0, k1, k2, k3, k4, k5, k6, k7, k8, k9, k10, k11⟩ := hz.1.cells; obtain ⟨e0, e1, e2, e3⟩ := hz.2.cells; go_simp <;> with_reducible rfl)
            simp only [List.setIfInBounds_toArray, List.set_cons_zero, List.set_cons_succ]
            refine skipH (i := 7) (d := 78) rfl (by kernel_rfl) (by kernel_rfl) (by kernel_rfl) (fun _ _ _ h => h) rfl (by rfl) hS ?_
            simp only [List.setIfInBounds_toArray, List.set_cons_zero, List.set_cons_succ]
            refine skipH (i := 8) (d := 79) rfl (by kernel_rfl) (by kernel_rfl) (by kernel_rfl) (fun _ _ _ h => h) rfl (by rfl) hS ?_
            simp only [List.setIfInBounds_toArray, List.set_cons_zero, List.set_cons_succ]
            refine skipH (i := 9) (d := 80) rfl (by kernel_rfl) (by kernel_rfl) (by kernel_rfl) (fun _ _ _ h => h) rfl (by rfl) hS ?_
            simp only [List.setIfInBounds_toArray, List.set_cons_zero, List.set_cons_succ]
            refine skipH (i := 10) (d := 81) rfl (by kernel_rfl) (by kernel_rfl) (by kernel_rfl) (fun _ _ _ h => h) rfl (by rfl) hS ?_
            simp only [List.setIfInBounds_toArray, List.set_cons_zero, List.set_cons_succ]
            refine skipH (i := 11) (d := 82) rfl (by kernel_rfl) (by kernel_rfl) (by kernel_rfl) (fun _ _ _ h => h) rfl (by rfl) hS ?_
            simp only [List.setIfInBounds_toArray, List.set_cons_zero, List.set_cons_succ]
            refine takeH (i := 12) (d := 83) (v := ?vb12) rfl (by kernel_rfl) (by kernel_rfl) (by kernel_rfl) (fun _ _ _ h => h) rfl (by rfl) ?yb12 hS ?rb12
            case yb12 => (intro wz hz; obtain ⟨k0, k1, k2, k3, k4, k5, k6, k7, k8, k9, k10, k11⟩ := hz.1.cells; obtain ⟨e0, e1, e2, e3⟩ := hz.2.cells; go_simp <;> with_reducible rfl)
            simp only [List.setIfInBounds_toArray, List.set_cons_zero, List.set_cons_succ]
            refine takeH (i := 13) (d := 84) (v := ?vb13) rfl (by kernel_rfl) (by kernel_rfl) (by kernel_rfl) (fun _ _ _ h => h) rfl (by rfl) ?yb13 hS ?rb13
            case yb13 => (intro wz hz; obtain ⟨k0, k1, k2, k3, k4, k5, k6, k7, k8, k9, k10, k11⟩ := hz.1.cells; obtain ⟨e0, e1, e2, e3⟩ := hz.2.cells; go_simp <;> with_reducible rfl)
            simp only [List.setIfInBounds_toArray, List.set_cons_zero, List.set_cons_succ]
            refine skipH (i := 14) (d := 85) rfl (by kernel_rfl) (by kernel_rfl) (by kernel_rfl) (fun _ _ _ h => h) rfl (by rfl) hS ?_
            simp only [List.setIfInBounds_toArray, List.set_cons_zero, List.set_cons_succ]
            refine skipH (i := 15) (d := 86) rfl (by kernel_rfl) (by kernel_rfl) (by kernel_rfl) (fun _ _ _ h => h) rfl (by rfl) hS ?_
            simp only [List.setIfInBounds_toArray, List.set_cons_zero, List.set_cons_succ]
            refine skipH (i := 16) (d := 87) rfl (by kernel_rfl) (by kernel_rfl) (by kernel_rfl) (fun _ _ _ h => h) rfl (by rfl) hS ?_
            simp only [List.setIfInBounds_toArray, List.set_cons_zero, List.set_cons_succ]
            refine skipH (i := 17) (d := 88) rfl (by kernel_rfl) (by kernel_rfl) (by kernel_rfl) (fun _ _ _ h => h) rfl (by rfl) hS ?_
            simp only [List.setIfInBounds_toArray, List.set_cons_zero, List.set_cons_succ]
            refine skipH (i := 18) (d := 89) rfl (by kernel_rfl) (by kernel_rfl) (by kernel_rfl) (fun _ _ _ h => h) rfl (by rfl) hS ?_
            simp only [List.setIfInBounds_toArray, List.set_cons_zero, List.set_cons_succ]
            refine takeH (i := 19) (d := 90) (v := ?vb19) rfl (by kernel_rfl) (by kernel_rfl) (by kernel_rfl) (fun _ _ _ h => h) rfl (by rfl) ?yb19 hS ?rb19
            case yb19 => (intro wz hz; obtain ⟨k0, k1, k2, k3, k4, k5, k6, k7, k8, k9, k10, k11⟩ := hz.1.cells; obtain ⟨e0, e1, e2, e3⟩ := hz.2.cells; go_simp <;> with_reducible rfl)
            simp only [List.setIfInBounds_toArray, List.set_cons_zero, List.set_cons_succ]
            refine takeH (i := 20) (d := 91) (v := ?vb20) rfl (by kernel_rfl) (by kernel_rfl) (by kernel_rfl) (fun _ _ _ h => h) rfl (by rfl) ?yb20 hS ?rb20
            case yb20 => (intro wz hz; obtain ⟨k0, k1, k2, k3, k4, k5, k6, k7, k8, k9, k10, k11⟩ := hz.1.cells; obtain ⟨e0, e1, e2, e3⟩ := hz.2.cells; go_simp <;> with_reducible rfl)
            simp only [List.setIfInBounds_toArray, List.set_cons_zero, List.set_cons_succ]
            refine takeH (i := 21) (d := 92) (v := ?vb21) rfl (by kernel_rfl) (by kernel_rfl) (by kernel_rfl) (fun _ _ _ h => h) rfl (by rfl) ?yb21 hS ?rb21
            case yb21 => (intro wz hz; obtain ⟨k0, k1, k2, k3, k4, k5, k6, k7, k8, k9, k10, k11⟩ := hz.1.cells; obtain ⟨e0, e1, e2, e3⟩ := hz.2.cells; go_simp <;> with_reducible rfl)
            simp only [List.setIfInBounds_toArray, List.set_cons_zero, List.set_cons_succ]
            refine takeH (i := 22) (d := 93) (v := ?vb22) rfl (by kernel_rfl) (by kernel_rfl) (by kernel_rfl) (fun _ _ _ h => h) rfl (by rfl) ?yb22 hS ?rb22
            case yb22 => (intro wz hz; obtain ⟨k0, k1, k2, k3, k4, k5, k6, k7, k8, k9, k10, k11⟩ := hz.1.cells; obtain ⟨e0, e1, e2, e3⟩ := hz.2.cells; go_simp <;> with_reducible rfl)
            simp only [List.setIfInBounds_toArray, List.set_cons_zero, List.set_cons_succ]
            refine takeH (i := 23) (d := 94) (v := ?vb23) rfl (by kernel_rfl) (by kernel_rfl) (by kernel_rfl) (fun _ _ _ h => h) rfl (by rfl) ?yb23 hS ?rb23
            case yb23 => (intro wz hz; obtain ⟨k0, k1, k2, k3, k4, k5, k6, k7, k8, k9, k10, k11⟩ := hz.1.cells; obtain ⟨e0, e1, e2, e3⟩ := hz.2.cells; go_simp <;> with_reducible rfl)
            simp only [List.setIfInBounds_toArray, List.set_cons_zero, List.set_cons_succ]
            refine takeH (i := 25) (d := 96) (v := ?vb25) rfl (by kernel_rfl) (by kernel_rfl) (by kernel_rfl) (fun _ _ _ h => h) rfl (by rfl) ?yb25 hS ?rb25
            case yb25 => (intro wz hz; obtain ⟨k0, k1, k2, k3, k4, k5, k6, k7, k8, k9, k10, k11⟩ := hz.1.cells; obtain ⟨e0, e1, e2, e3⟩ := hz.2.cells; go_simp <;> with_reducible rfl)
            simp only [List.setIfInBounds_toArray, List.set_cons_zero, List.set_cons_succ]
            refine takeH (i := 26) (d := 97) (v := ?vb26) rfl (by kernel_rfl) (by kernel_rfl) (by kernel_rfl) (fun _ _ _ h => h) rfl (by rfl) ?yb26 hS ?rb26
            case yb26 => (intro wz hz; obtain ⟨k0, k1, k2, k3, k4, k5, k6, k7, k8, k9, k10, k11⟩ := hz.1.cells; obtain ⟨e0, e1, e2, e3⟩ := hz.2.cells; go_simp <;> with_reducible rfl)
            simp only [List.setIfInBounds_toArray, List.set_cons_zero, List.set_cons_succ]
            refine wpAnyH_ready (rs := [24]) (by kernel_rfl) (by simp) ?_
            refine AllReadyH.cons rfl (fun K hK => ?_) AllReadyH.nil
            go_simp
            refine (meets_is HMS.out _).mono ?_
            rintro e w1 ⟨rfl, hb⟩
            refine hK.out _ _ (show _ ∧ _ from ⟨hS.1.call hb, hS.2.call hb⟩) (fun hT => ?_)
            clear hK hb hS
            have hS := hT
            clear hT
            refine wpAnyH_ready (rs := [27]) (by kernel_rfl) (by simp) ?_
            refine AllReadyH.cons rfl (fun K hK => ?_) AllReadyH.nil
            go_simp
            refine (meets_is HMS2.out _).mono ?_
            rintro e w1 ⟨rfl, hb⟩
            refine hK.out _ _ (show _ ∧ _ from ⟨hS.1.call hb, hS.2.call hb⟩) (fun hT => ?_)
            clear hK hb hS
            have hS := hT
            clear hT
            refine takeH (i := 28) (d := 99) (v := ?vb28) rfl (by kernel_rfl) (by kernel_rfl) (by kernel_rfl) (fun _ _ _ h => h) rfl (by rfl) ?yb28 hS ?rb28
            case yb28 => (intro wz hz; obtain ⟨k0, k1, k2, k3, k4, k5, k6, k7, k8, k9, k10, k11⟩ := hz.1.cells; obtain ⟨e0, e1, e2, e3⟩ := hz.2.cells; go_simp <;> with_reducible rfl)
            simp only [List.setIfInBounds_toArray, List.set_cons_zero, List.set_cons_succ]
            refine takeH (i := 29) (d := 100) (v := ?vb29) rfl (by kernel_rfl) (by kernel_rfl) (by kernel_rfl) (fun _ _ _ h => h) rfl (by rfl) ?yb29 hS ?rb29
            case yb29 => (intro wz hz; obtain ⟨k0, k1, k2, k3, k4, k5, k6, k7, k8, k9, k10, k11⟩ := hz.1.cells; obtain ⟨e0, e1, e2, e3⟩ := hz.2.cells; go_simp <;> with_reducible rfl)
            simp only [List.setIfInBounds_toArray, List.set_cons_zero, List.set_cons_succ]
            refine wpAnyH_done (by kernel_rfl) ?_ _
            have HS := Lib.hid hS.1
            clear hS
            go_wp2_with fail
            go_meet
            exact ⟨rfl, HS⟩
        case rest =>
          obtain ⟨rfl, HB'⟩ := hcut
          clear k0 k1 k2 k3 k4 k5 k6 k7 k8 k9 k10 k11 HB e0 e1 e2 e3 HM HQ
          have HB := HB'
          clear HB'
          obtain ⟨k0, k1, k2, k3, k4, k5, k6, k7, k8, k9, k10, k11⟩ := HB.out.cells
          go_upto_region 10 with (first
    | (go_at_call 6; refine (refHas_any _ _ _ _ _ _ _).mono ?_; rintro e wz ⟨rfl, hb⟩; have HB2 := Lib.hid (HB.out.call hb); clear k0 k1 k2 k3 k4 k5 k6 k7 k8 k9 k10 k11; obtain ⟨k0, k1, k2, k3, k4, k5, k6, k7, k8, k9, k10, k11⟩ := HB2.out.cells; clear HB; have HB := HB2; clear HB2; clear hb)
    | (go_at_call 8; refine (meet_any _ _ _ _ _ _ _ _ _).mono ?_; rintro e wz ⟨rfl, hb⟩; have HB2 := Lib.hid (HB.out.call hb); clear k0 k1 k2 k3 k4 k5 k6 k7 k8 k9 k10 k11; obtain ⟨k0, k1, k2, k3, k4, k5, k6, k7, k8, k9, k10, k11⟩ := HB2.out.cells; clear HB; have HB := HB2; clear HB2; clear hb)
    | (go_at_call 9; refine (hull_gen _ _ _ _ _ _ _ _ _).mono ?_; rintro e wz ⟨h0, h1, h2, h3, rfl, hg, hb⟩; have HH := Lib.hid hg; clear hg; have HB2 := Lib.hid (HB.out.call hb); clear k0 k1 k2 k3 k4 k5 k6 k7 k8 k9 k10 k11; obtain ⟨k0, k1, k2, k3, k4, k5, k6, k7, k8, k9, k10, k11⟩ := HB2.out.cells; clear HB; have HB := HB2; clear HB2; clear hb)
    | (go_at_call 10; refine (empty_any _ _ _ _ _).mono ?_; rintro e wz ⟨rfl, hb⟩; have HB2 := Lib.hid (HB.out.call hb); clear k0 k1 k2 k3 k4 k5 k6 k7 k8 k9 k10 k11; obtain ⟨k0, k1, k2, k3, k4, k5, k6, k7, k8, k9, k10, k11⟩ := HB2.out.cells; clear HB; have HB := HB2; clear HB2; clear hb)
    | (go_at_call 12; refine (within_is rfl _).mono ?_; rintro e wz ⟨rfl, hb⟩; have HB2 := Lib.hid (HB.out.call hb); clear k0 k1 k2 k3 k4 k5 k6 k7 k8 k9 k10 k11; obtain ⟨k0, k1, k2, k3, k4, k5, k6, k7, k8, k9, k10, k11⟩ := HB2.out.cells; clear HB; have HB := HB2; clear HB2; clear hb)
    | (go_at_call 14; refine (works_any _).mono ?_; rintro e wz ⟨rfl, hb⟩; have HB2 := Lib.hid (HB.out.call hb); clear k0 k1 k2 k3 k4 k5 k6 k7 k8 k9 k10 k11; obtain ⟨k0, k1, k2, k3, k4, k5, k6, k7, k8, k9, k10, k11⟩ := HB2.out.cells; clear HB; have HB := HB2; clear HB2; clear hb))
          have HG := Lib.hid (Box4.new wz h0 h1 h2 h3)
          have HB' := Lib.hid (HB.out.alloc (.cells #[.int .u32 h0, .int .u32 h1, .int .u32 h2, .int .u32 h3] 24))
          clear k0 k1 k2 k3 k4 k5 k6 k7 k8 k9 k10 k11 HB
          have HB := HB'
          clear HB'
          obtain ⟨k0, k1, k2, k3, k4, k5, k6, k7, k8, k9, k10, k11⟩ := HB.out.cells
          obtain ⟨f0, f1, f2, f3⟩ := HG.out.cells
          obtain ⟨hin1, hin2⟩ := hull_in HH.out HEA.out
          have HL := Lib.hid (hull_least (c0 := c0) (c1 := c1) (c2 := c2) (c3 := c3) HH.out HEA.out)
          clear HH
          cases hv1 : withinB a0 a1 a2 a3 c0 c1 c2 c3
          · go_wp2_with (first
    | (go_at_call 6; refine (refHas_any _ _ _ _ _ _ _).mono ?_; rintro e wz ⟨rfl, hb⟩; have HB2 := Lib.hid (HB.out.call hb); clear k0 k1 k2 k3 k4 k5 k6 k7 k8 k9 k10 k11; obtain ⟨k0, k1, k2, k3, k4, k5, k6, k7, k8, k9, k10, k11⟩ := HB2.out.cells; clear HB; have HB := HB2; clear HB2; have HG2 := Lib.hid (HG.out.call hb); clear f0 f1 f2 f3; obtain ⟨f0, f1, f2, f3⟩ := HG2.out.cells; clear HG; have HG := HG2; clear HG2; clear hb)
    | (go_at_call 8; refine (meet_any _ _ _ _ _ _ _ _ _).mono ?_; rintro e wz ⟨rfl, hb⟩; have HB2 := Lib.hid (HB.out.call hb); clear k0 k1 k2 k3 k4 k5 k6 k7 k8 k9 k10 k11; obtain ⟨k0, k1, k2, k3, k4, k5, k6, k7, k8, k9, k10, k11⟩ := HB2.out.cells; clear HB; have HB := HB2; clear HB2; have HG2 := Lib.hid (HG.out.call hb); clear f0 f1 f2 f3; obtain ⟨f0, f1, f2, f3⟩ := HG2.out.cells; clear HG; have HG := HG2; clear HG2; clear hb)
    | (go_at_call 9; refine (hull_gen _ _ _ _ _ _ _ _ _).mono ?_; rintro e wz ⟨h0, h1, h2, h3, rfl, hg, hb⟩; have HH := Lib.hid hg; clear hg; have HB2 := Lib.hid (HB.out.call hb); clear k0 k1 k2 k3 k4 k5 k6 k7 k8 k9 k10 k11; obtain ⟨k0, k1, k2, k3, k4, k5, k6, k7, k8, k9, k10, k11⟩ := HB2.out.cells; clear HB; have HB := HB2; clear HB2; have HG2 := Lib.hid (HG.out.call hb); clear f0 f1 f2 f3; obtain ⟨f0, f1, f2, f3⟩ := HG2.out.cells; clear HG; have HG := HG2; clear HG2; clear hb)
    | (go_at_call 10; refine (empty_any _ _ _ _ _).mono ?_; rintro e wz ⟨rfl, hb⟩; have HB2 := Lib.hid (HB.out.call hb); clear k0 k1 k2 k3 k4 k5 k6 k7 k8 k9 k10 k11; obtain ⟨k0, k1, k2, k3, k4, k5, k6, k7, k8, k9, k10, k11⟩ := HB2.out.cells; clear HB; have HB := HB2; clear HB2; have HG2 := Lib.hid (HG.out.call hb); clear f0 f1 f2 f3; obtain ⟨f0, f1, f2, f3⟩ := HG2.out.cells; clear HG; have HG := HG2; clear HG2; clear hb)
    | (go_at_call 12; refine (within_is rfl _).mono ?_; rintro e wz ⟨rfl, hb⟩; have HB2 := Lib.hid (HB.out.call hb); clear k0 k1 k2 k3 k4 k5 k6 k7 k8 k9 k10 k11; obtain ⟨k0, k1, k2, k3, k4, k5, k6, k7, k8, k9, k10, k11⟩ := HB2.out.cells; clear HB; have HB := HB2; clear HB2; have HG2 := Lib.hid (HG.out.call hb); clear f0 f1 f2 f3; obtain ⟨f0, f1, f2, f3⟩ := HG2.out.cells; clear HG; have HG := HG2; clear HG2; clear hb)
    | (go_at_call 14; refine (works_any _).mono ?_; rintro e wz ⟨rfl, hb⟩; have HB2 := Lib.hid (HB.out.call hb); clear k0 k1 k2 k3 k4 k5 k6 k7 k8 k9 k10 k11; obtain ⟨k0, k1, k2, k3, k4, k5, k6, k7, k8, k9, k10, k11⟩ := HB2.out.cells; clear HB; have HB := HB2; clear HB2; have HG2 := Lib.hid (HG.out.call hb); clear f0 f1 f2 f3; obtain ⟨f0, f1, f2, f3⟩ := HG2.out.cells; clear HG; have HG := HG2; clear HG2; clear hb))
            go_ret
            exact ⟨rfl, HB.out.old⟩
          · cases hv2 : withinB b0 b1 b2 b3 c0 c1 c2 c3
            · go_wp2_with (first
    | (go_at_call 6; refine (refHas_any _ _ _ _ _ _ _).mono ?_; rintro e wz ⟨rfl, hb⟩; have HB2 := Lib.hid (HB.out.call hb); clear k0 k1 k2 k3 k4 k5 k6 k7 k8 k9 k10 k11; obtain ⟨k0, k1, k2, k3, k4, k5, k6, k7, k8, k9, k10, k11⟩ := HB2.out.cells; clear HB; have HB := HB2; clear HB2; have HG2 := Lib.hid (HG.out.call hb); clear f0 f1 f2 f3; obtain ⟨f0, f1, f2, f3⟩ := HG2.out.cells; clear HG; have HG := HG2; clear HG2; clear hb)
    | (go_at_call 8; refine (meet_any _ _ _ _ _ _ _ _ _).mono ?_; rintro e wz ⟨rfl, hb⟩; have HB2 := Lib.hid (HB.out.call hb); clear k0 k1 k2 k3 k4 k5 k6 k7 k8 k9 k10 k11; obtain ⟨k0, k1, k2, k3, k4, k5, k6, k7, k8, k9, k10, k11⟩ := HB2.out.cells; clear HB; have HB := HB2; clear HB2; have HG2 := Lib.hid (HG.out.call hb); clear f0 f1 f2 f3; obtain ⟨f0, f1, f2, f3⟩ := HG2.out.cells; clear HG; have HG := HG2; clear HG2; clear hb)
    | (go_at_call 9; refine (hull_gen _ _ _ _ _ _ _ _ _).mono ?_; rintro e wz ⟨h0, h1, h2, h3, rfl, hg, hb⟩; have HH := Lib.hid hg; clear hg; have HB2 := Lib.hid (HB.out.call hb); clear k0 k1 k2 k3 k4 k5 k6 k7 k8 k9 k10 k11; obtain ⟨k0, k1, k2, k3, k4, k5, k6, k7, k8, k9, k10, k11⟩ := HB2.out.cells; clear HB; have HB := HB2; clear HB2; have HG2 := Lib.hid (HG.out.call hb); clear f0 f1 f2 f3; obtain ⟨f0, f1, f2, f3⟩ := HG2.out.cells; clear HG; have HG := HG2; clear HG2; clear hb)
    | (go_at_call 10; refine (empty_any _ _ _ _ _).mono ?_; rintro e wz ⟨rfl, hb⟩; have HB2 := Lib.hid (HB.out.call hb); clear k0 k1 k2 k3 k4 k5 k6 k7 k8 k9 k10 k11; obtain ⟨k0, k1, k2, k3, k4, k5, k6, k7, k8, k9, k10, k11⟩ := HB2.out.cells; clear HB; have HB := HB2; clear HB2; have HG2 := Lib.hid (HG.out.call hb); clear f0 f1 f2 f3; obtain ⟨f0, f1, f2, f3⟩ := HG2.out.cells; clear HG; have HG := HG2; clear HG2; clear hb)
    | (go_at_call 12; refine (within_is rfl _).mono ?_; rintro e wz ⟨rfl, hb⟩; have HB2 := Lib.hid (HB.out.call hb); clear k0 k1 k2 k3 k4 k5 k6 k7 k8 k9 k10 k11; obtain ⟨k0, k1, k2, k3, k4, k5, k6, k7, k8, k9, k10, k11⟩ := HB2.out.cells; clear HB; have HB := HB2; clear HB2; have HG2 := Lib.hid (HG.out.call hb); clear f0 f1 f2 f3; obtain ⟨f0, f1, f2, f3⟩ := HG2.out.cells; clear HG; have HG := HG2; clear HG2; clear hb)
    | (go_at_call 14; refine (works_any _).mono ?_; rintro e wz ⟨rfl, hb⟩; have HB2 := Lib.hid (HB.out.call hb); clear k0 k1 k2 k3 k4 k5 k6 k7 k8 k9 k10 k11; obtain ⟨k0, k1, k2, k3, k4, k5, k6, k7, k8, k9, k10, k11⟩ := HB2.out.cells; clear HB; have HB := HB2; clear HB2; have HG2 := Lib.hid (HG.out.call hb); clear f0 f1 f2 f3; obtain ⟨f0, f1, f2, f3⟩ := HG2.out.cells; clear HG; have HG := HG2; clear HG2; clear hb))
              go_ret
              exact ⟨rfl, HB.out.old⟩
            · have hv3 := HL.out hv1 hv2
              go_wp2_with (first
    | (go_at_call 6; refine (refHas_any _ _ _ _ _ _ _).mono ?_; rintro e wz ⟨rfl, hb⟩; have HB2 := Lib.hid (HB.out.call hb); clear k0 k1 k2 k3 k4 k5 k6 k7 k8 k9 k10 k11; obtain ⟨k0, k1, k2, k3, k4, k5, k6, k7, k8, k9, k10, k11⟩ := HB2.out.cells; clear HB; have HB := HB2; clear HB2; have HG2 := Lib.hid (HG.out.call hb); clear f0 f1 f2 f3; obtain ⟨f0, f1, f2, f3⟩ := HG2.out.cells; clear HG; have HG := HG2; clear HG2; clear hb)
    | (go_at_call 8; refine (meet_any _ _ _ _ _ _ _ _ _).mono ?_; rintro e wz ⟨rfl, hb⟩; have HB2 := Lib.hid (HB.out.call hb); clear k0 k1 k2 k3 k4 k5 k6 k7 k8 k9 k10 k11; obtain ⟨k0, k1, k2, k3, k4, k5, k6, k7, k8, k9, k10, k11⟩ := HB2.out.cells; clear HB; have HB := HB2; clear HB2; have HG2 := Lib.hid (HG.out.call hb); clear f0 f1 f2 f3; obtain ⟨f0, f1, f2, f3⟩ := HG2.out.cells; clear HG; have HG := HG2; clear HG2; clear hb)
    | (go_at_call 9; refine (hull_gen _ _ _ _ _ _ _ _ _).mono ?_; rintro e wz ⟨h0, h1, h2, h3, rfl, hg, hb⟩; have HH := Lib.hid hg; clear hg; have HB2 := Lib.hid (HB.out.call hb); clear k0 k1 k2 k3 k4 k5 k6 k7 k8 k9 k10 k11; obtain ⟨k0, k1, k2, k3, k4, k5, k6, k7, k8, k9, k10, k11⟩ := HB2.out.cells; clear HB; have HB := HB2; clear HB2; have HG2 := Lib.hid (HG.out.call hb); clear f0 f1 f2 f3; obtain ⟨f0, f1, f2, f3⟩ := HG2.out.cells; clear HG; have HG := HG2; clear HG2; clear hb)
    | (go_at_call 10; refine (empty_any _ _ _ _ _).mono ?_; rintro e wz ⟨rfl, hb⟩; have HB2 := Lib.hid (HB.out.call hb); clear k0 k1 k2 k3 k4 k5 k6 k7 k8 k9 k10 k11; obtain ⟨k0, k1, k2, k3, k4, k5, k6, k7, k8, k9, k10, k11⟩ := HB2.out.cells; clear HB; have HB := HB2; clear HB2; have HG2 := Lib.hid (HG.out.call hb); clear f0 f1 f2 f3; obtain ⟨f0, f1, f2, f3⟩ := HG2.out.cells; clear HG; have HG := HG2; clear HG2; clear hb)
    | (go_at_call 12; refine (within_is rfl _).mono ?_; rintro e wz ⟨rfl, hb⟩; have HB2 := Lib.hid (HB.out.call hb); clear k0 k1 k2 k3 k4 k5 k6 k7 k8 k9 k10 k11; obtain ⟨k0, k1, k2, k3, k4, k5, k6, k7, k8, k9, k10, k11⟩ := HB2.out.cells; clear HB; have HB := HB2; clear HB2; have HG2 := Lib.hid (HG.out.call hb); clear f0 f1 f2 f3; obtain ⟨f0, f1, f2, f3⟩ := HG2.out.cells; clear HG; have HG := HG2; clear HG2; clear hb)
    | (go_at_call 14; refine (works_any _).mono ?_; rintro e wz ⟨rfl, hb⟩; have HB2 := Lib.hid (HB.out.call hb); clear k0 k1 k2 k3 k4 k5 k6 k7 k8 k9 k10 k11; obtain ⟨k0, k1, k2, k3, k4, k5, k6, k7, k8, k9, k10, k11⟩ := HB2.out.cells; clear HB; have HB := HB2; clear HB2; have HG2 := Lib.hid (HG.out.call hb); clear f0 f1 f2 f3; obtain ⟨f0, f1, f2, f3⟩ := HG2.out.cells; clear HG; have HG := HG2; clear HG2; clear hb))
              go_ret
              exact ⟨rfl, HB.out.old⟩

set_option linter.unusedVariables false in
theorem whole_law (a0 a1 a2 a3 b0 b1 b2 b3 c0 c1 c2 c3 : Int) (w : World) (g0 : (Lit.int .u32 a0).wf = true) (g1 : (Lit.int .u32 a1).wf = true) (g2 : (Lit.int .u32 a2).wf = true) (g3 : (Lit.int .u32 a3).wf = true) (g4 : (Lit.int .u32 b0).wf = true) (g5 : (Lit.int .u32 b1).wf = true) (g6 : (Lit.int .u32 b2).wf = true) (g7 : (Lit.int .u32 b3).wf = true) (g8 : (Lit.int .u32 c0).wf = true) (g9 : (Lit.int .u32 c1).wf = true) (g10 : (Lit.int .u32 c2).wf = true) (g11 : (Lit.int .u32 c3).wf = true) :
    Calls Try.prog 4 #[.agg #[.int .u32 a0, .int .u32 a1, .int .u32 a2, .int .u32 a3], .agg #[.int .u32 b0, .int .u32 b1, .int .u32 b2, .int .u32 b3], .agg #[.int .u32 c0, .int .u32 c1, .int .u32 c2, .int .u32 c3]] w fun e w' => e = .returned (.bool true) ∧ Below w.heap.size w w' := by
  cases h : emptyB a0 a1 a2 a3 with
  | true => exact whole_empty a0 a1 a2 a3 b0 b1 b2 b3 c0 c1 c2 c3 w h
  | false => exact whole_full a0 a1 a2 a3 b0 b1 b2 b3 c0 c1 c2 c3 w h
end Go.Proofs.Ytiapllplhjhliaa
