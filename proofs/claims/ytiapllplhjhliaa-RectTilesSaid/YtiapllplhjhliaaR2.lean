/-
  The walk of rect.Within, over every two rectangles.
  Conditions: none.
-/
import Derived.Test.YtiapllplhjhliaaHeld
import Derived.Test.YtiapllplhjhliaaR1
namespace Go.Proofs.Ytiapllplhjhliaa
open Go.RowKit

theorem if4 {p q r s : Prop} [Decidable p] [Decidable q] [Decidable r] [Decidable s] (wz : World) :
    (if p then if q then if r then if s then Result.ok (Next.value (Value.bool true)) wz else Result.ok (Next.value (Value.bool false)) wz else Result.ok (Next.value (Value.bool false)) wz
      else Result.ok (Next.value (Value.bool false)) wz else Result.ok (Next.value (Value.bool false)) wz) = Result.ok (Next.value (Value.bool (decide p && decide q && decide r && decide s))) wz := by
  by_cases hp : p <;> by_cases hq : q <;> by_cases hr : r <;> by_cases hs : s <;> simp [hp, hq, hr, hs]

set_option maxHeartbeats 1000000 in
theorem within_empty (x0 y0 x1 y1 u0 v0 u1 v1 : Int) (w : World) (ha : emptyB x0 y0 x1 y1 = true) :
    Calls Try.prog 12 #[.agg #[.int .u32 x0, .int .u32 y0, .int .u32 x1, .int .u32 y1], .agg #[.int .u32 u0, .int .u32 v0, .int .u32 u1, .int .u32 v1]] w
      fun e w' => e = .returned (.bool true) ∧ Below w.heap.size w w' := by
  have HA := Lib.hid ha
  clear ha
  go_enter Try.func12, Try.ntmps12
  go_wp2_with fail
  refine wp_region_held_drew (S := fun z => Below ((w.alloc (.cells #[.int .u32 x0, .int .u32 y0, .int .u32 x1, .int .u32 y1] 24)).alloc (.cells #[.int .u32 u0, .int .u32 v0, .int .u32 u1, .int .u32 v1] 24)).heap.size ((w.alloc (.cells #[.int .u32 x0, .int .u32 y0, .int .u32 x1, .int .u32 y1] 24)).alloc (.cells #[.int .u32 u0, .int .u32 v0, .int .u32 u1, .int .u32 v1] 24)) z) (by kernel_rfl) (Below.refl _ _).drew (fun hS => ?_)
  refine takeH (i := 0) (d := 5) (v := ?va0) rfl (by kernel_rfl) (by kernel_rfl) (by kernel_rfl) (fun _ _ _ h => h) rfl (by rfl) ?ya0 hS ?ra0
  case ya0 => (intro wz hz; obtain ⟨hcz, hfz⟩ := keep (N := w.heap.size + 2) hz (by simp); go_simp <;> with_reducible rfl)
  simp only [List.setIfInBounds_toArray, List.set_cons_zero, List.set_cons_succ]
  refine wpAnyH_ready (rs := [1]) (by kernel_rfl) (by simp) ?_
  refine AllReadyH.cons rfl (fun K hK => ?_) AllReadyH.nil
  go_simp
  refine (empty_is HA.out _).mono ?_
  rintro e w1 ⟨rfl, hb⟩
  refine hK.out _ _ (chain hS hb (Nat.le_refl _)) (fun hS => ?_)
  clear hK
  refine takeH (i := 2) (d := 7) (v := ?va2) rfl (by kernel_rfl) (by kernel_rfl) (by kernel_rfl) (fun _ _ _ h => h) rfl (by rfl) ?ya2 hS ?ra2
  case ya2 => (intro wz hz; obtain ⟨hcz, hfz⟩ := keep (N := w.heap.size + 2) hz (by simp); go_simp <;> with_reducible rfl)
  simp only [List.setIfInBounds_toArray, List.set_cons_zero, List.set_cons_succ]
  refine skipH (i := 3) (d := 8) rfl (by kernel_rfl) (by kernel_rfl) (by kernel_rfl) (fun _ _ _ h => h) rfl (by rfl) hS ?_
  simp only [List.setIfInBounds_toArray, List.set_cons_zero, List.set_cons_succ]
  refine skipH (i := 4) (d := 9) rfl (by kernel_rfl) (by kernel_rfl) (by kernel_rfl) (fun _ _ _ h => h) rfl (by rfl) hS ?_
  simp only [List.setIfInBounds_toArray, List.set_cons_zero, List.set_cons_succ]
  refine skipH (i := 5) (d := 10) rfl (by kernel_rfl) (by kernel_rfl) (by kernel_rfl) (fun _ _ _ h => h) rfl (by rfl) hS ?_
  simp only [List.setIfInBounds_toArray, List.set_cons_zero, List.set_cons_succ]
  refine skipH (i := 6) (d := 11) rfl (by kernel_rfl) (by kernel_rfl) (by kernel_rfl) (fun _ _ _ h => h) rfl (by rfl) hS ?_
  simp only [List.setIfInBounds_toArray, List.set_cons_zero, List.set_cons_succ]
  refine skipH (i := 7) (d := 12) rfl (by kernel_rfl) (by kernel_rfl) (by kernel_rfl) (fun _ _ _ h => h) rfl (by rfl) hS ?_
  simp only [List.setIfInBounds_toArray, List.set_cons_zero, List.set_cons_succ]
  refine takeH (i := 8) (d := 13) (v := ?va8) rfl (by kernel_rfl) (by kernel_rfl) (by kernel_rfl) (fun _ _ _ h => h) rfl (by rfl) ?ya8 hS ?ra8
  case ya8 => (intro wz hz; obtain ⟨hcz, hfz⟩ := keep (N := w.heap.size + 2) hz (by simp); go_simp <;> with_reducible rfl)
  simp only [List.setIfInBounds_toArray, List.set_cons_zero, List.set_cons_succ]
  refine takeH (i := 9) (d := 4) (v := ?va9) rfl (by kernel_rfl) (by kernel_rfl) (by kernel_rfl) (fun _ _ _ h => h) rfl (by rfl) ?ya9 hS ?ra9
  case ya9 => (intro wz hz; obtain ⟨hcz, hfz⟩ := keep (N := w.heap.size + 2) hz (by simp); go_simp <;> with_reducible rfl)
  simp only [List.setIfInBounds_toArray, List.set_cons_zero, List.set_cons_succ]
  refine wpAnyH_done (by kernel_rfl) ?_ _
  clear hb
  have HS := Lib.hid hS
  clear hS
  go_wp2_with fail
  go_ret
  exact ⟨rfl, chain (((Below.refl w.heap.size w).alloc (Nat.le_refl _) _).alloc (by simp) _) HS.out (Nat.le_refl _)⟩

set_option maxHeartbeats 1000000 in
theorem within_full (x0 y0 x1 y1 u0 v0 u1 v1 : Int) (w : World) (ha : emptyB x0 y0 x1 y1 = false) :
    Calls Try.prog 12 #[.agg #[.int .u32 x0, .int .u32 y0, .int .u32 x1, .int .u32 y1], .agg #[.int .u32 u0, .int .u32 v0, .int .u32 u1, .int .u32 v1]] w
      fun e w' => e = .returned (.bool (decide (u0 ≤ x0) && decide (v0 ≤ y0) && decide (x1 ≤ u1) && decide (y1 ≤ v1))) ∧ Below w.heap.size w w' := by
  have HA := Lib.hid ha
  clear ha
  go_enter Try.func12, Try.ntmps12
  go_wp2_with fail
  refine wp_region_held_drew (S := fun z => Below ((w.alloc (.cells #[.int .u32 x0, .int .u32 y0, .int .u32 x1, .int .u32 y1] 24)).alloc (.cells #[.int .u32 u0, .int .u32 v0, .int .u32 u1, .int .u32 v1] 24)).heap.size ((w.alloc (.cells #[.int .u32 x0, .int .u32 y0, .int .u32 x1, .int .u32 y1] 24)).alloc (.cells #[.int .u32 u0, .int .u32 v0, .int .u32 u1, .int .u32 v1] 24)) z) (by kernel_rfl) (Below.refl _ _).drew (fun hS => ?_)
  refine takeH (i := 0) (d := 5) (v := ?vb0) rfl (by kernel_rfl) (by kernel_rfl) (by kernel_rfl) (fun _ _ _ h => h) rfl (by rfl) ?yb0 hS ?rb0
  case yb0 => (intro wz hz; obtain ⟨hcz, hfz⟩ := keep (N := w.heap.size + 2) hz (by simp); go_simp <;> with_reducible rfl)
  simp only [List.setIfInBounds_toArray, List.set_cons_zero, List.set_cons_succ]
  refine wpAnyH_ready (rs := [1]) (by kernel_rfl) (by simp) ?_
  refine AllReadyH.cons rfl (fun K hK => ?_) AllReadyH.nil
  go_simp
  refine (empty_is HA.out _).mono ?_
  rintro e w1 ⟨rfl, hb⟩
  refine hK.out _ _ (chain hS hb (Nat.le_refl _)) (fun hS => ?_)
  clear hK
  refine takeH (i := 2) (d := 7) (v := ?vb2) rfl (by kernel_rfl) (by kernel_rfl) (by kernel_rfl) (fun _ _ _ h => h) rfl (by rfl) ?yb2 hS ?rb2
  case yb2 => (intro wz hz; obtain ⟨hcz, hfz⟩ := keep (N := w.heap.size + 2) hz (by simp); go_simp <;> with_reducible rfl)
  simp only [List.setIfInBounds_toArray, List.set_cons_zero, List.set_cons_succ]
  refine takeH (i := 3) (d := 8) (v := ?vb3) rfl (by kernel_rfl) (by kernel_rfl) (by kernel_rfl) (fun _ _ _ h => h) rfl (by rfl) ?yb3 hS ?rb3
  case yb3 => (intro wz hz; obtain ⟨hcz, hfz⟩ := keep (N := w.heap.size + 2) hz (by simp); go_simp <;> with_reducible rfl)
  simp only [List.setIfInBounds_toArray, List.set_cons_zero, List.set_cons_succ]
  refine takeH (i := 4) (d := 9) (v := ?vb4) rfl (by kernel_rfl) (by kernel_rfl) (by kernel_rfl) (fun _ _ _ h => h) rfl (by rfl) ?yb4 hS ?rb4
  case yb4 => (intro wz hz; obtain ⟨hcz, hfz⟩ := keep (N := w.heap.size + 2) hz (by simp); go_simp <;> with_reducible rfl)
  simp only [List.setIfInBounds_toArray, List.set_cons_zero, List.set_cons_succ]
  refine takeH (i := 6) (d := 11) (v := ?vb6) rfl (by kernel_rfl) (by kernel_rfl) (by kernel_rfl) (fun _ _ _ h => h) rfl (by rfl) ?yb6 hS ?rb6
  case yb6 => (intro wz hz; obtain ⟨hcz, hfz⟩ := keep (N := w.heap.size + 2) hz (by simp); go_simp <;> with_reducible rfl)
  simp only [List.setIfInBounds_toArray, List.set_cons_zero, List.set_cons_succ]
  refine wpAnyH_ready (rs := [5]) (by kernel_rfl) (by simp) ?_
  refine AllReadyH.cons rfl (fun K hK => ?_) AllReadyH.nil
  go_simp
  refine (meet_any _ _ _ _ _ _ _ _ _).mono ?_
  rintro e w2 ⟨rfl, hb⟩
  refine hK.out _ _ (chain hS hb (Nat.le_refl _)) (fun hS => ?_)
  clear hK
  refine takeH (i := 7) (d := 12) (v := ?vb7) rfl (by kernel_rfl) (by kernel_rfl) (by kernel_rfl) (fun _ _ _ h => h) rfl (by rfl) ?yb7 hS ?rb7
  case yb7 => (intro wz hz; obtain ⟨hcz, hfz⟩ := keep (N := w.heap.size + 2) hz (by simp); go_simp; rw [if4])
  simp only [List.setIfInBounds_toArray, List.set_cons_zero, List.set_cons_succ]
  refine takeH (i := 8) (d := 13) (v := ?vb8) rfl (by kernel_rfl) (by kernel_rfl) (by kernel_rfl) (fun _ _ _ h => h) rfl (by rfl) ?yb8 hS ?rb8
  case yb8 => (intro wz hz; obtain ⟨hcz, hfz⟩ := keep (N := w.heap.size + 2) hz (by simp); go_simp <;> with_reducible rfl)
  simp only [List.setIfInBounds_toArray, List.set_cons_zero, List.set_cons_succ]
  refine takeH (i := 9) (d := 4) (v := ?vb9) rfl (by kernel_rfl) (by kernel_rfl) (by kernel_rfl) (fun _ _ _ h => h) rfl (by rfl) ?yb9 hS ?rb9
  case yb9 => (intro wz hz; obtain ⟨hcz, hfz⟩ := keep (N := w.heap.size + 2) hz (by simp); go_simp <;> with_reducible rfl)
  simp only [List.setIfInBounds_toArray, List.set_cons_zero, List.set_cons_succ]
  refine wpAnyH_done (by kernel_rfl) ?_ _
  clear hb
  have HS := Lib.hid hS
  clear hS
  go_wp2_with fail
  go_ret
  exact ⟨ret_bool (by rw [Bool.eq_iff_iff]; simp; omega), chain (((Below.refl w.heap.size w).alloc (Nat.le_refl _) _).alloc (by simp) _) HS.out (Nat.le_refl _)⟩

theorem within_is {x0 y0 x1 y1 u0 v0 u1 v1 : Int} {b : Bool} (h : withinB x0 y0 x1 y1 u0 v0 u1 v1 = b) (w : World) :
    Calls Try.prog 12 #[.agg #[.int .u32 x0, .int .u32 y0, .int .u32 x1, .int .u32 y1], .agg #[.int .u32 u0, .int .u32 v0, .int .u32 u1, .int .u32 v1]] w
      fun e w' => e = .returned (.bool b) ∧ Below w.heap.size w w' := by
  subst h
  unfold withinB
  cases he : emptyB x0 y0 x1 y1 with
  | true => exact within_empty _ _ _ _ _ _ _ _ _ he
  | false => rw [Bool.false_or]; exact within_full _ _ _ _ _ _ _ _ _ he
end Go.Proofs.Ytiapllplhjhliaa
