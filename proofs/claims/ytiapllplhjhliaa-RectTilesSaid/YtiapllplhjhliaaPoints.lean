/-
  The law RectPoints: whatever the two rectangles and the point, it returns true.
  Conditions: the point's coordinates are those of a uint32.
-/
import Derived.Test.YtiapllplhjhliaaR7
namespace Go.Proofs.Ytiapllplhjhliaa
open Go.RowKit

/-- What Hull gives. -/
def HullQ (a0 a1 a2 a3 b0 b1 b2 b3 h0 h1 h2 h3 : Int) : Prop :=
  (emptyB a0 a1 a2 a3 = true ∧ h0 = b0 ∧ h1 = b1 ∧ h2 = b2 ∧ h3 = b3) ∨
  (emptyB a0 a1 a2 a3 = false ∧ emptyB b0 b1 b2 b3 = true ∧ h0 = a0 ∧ h1 = a1 ∧ h2 = a2 ∧ h3 = a3) ∨
  (emptyB a0 a1 a2 a3 = false ∧ emptyB b0 b1 b2 b3 = false ∧ h0 = min a0 b0 ∧ h1 = min a1 b1 ∧ h2 = max a2 b2 ∧ h3 = max a3 b3)
def HullE (a0 a1 a2 a3 b0 b1 b2 b3 : Int) (w : World) (e : Ending) (w' : World) : Prop :=
  ∃ h0 h1 h2 h3, e = .returned (.agg #[.int .u32 h0, .int .u32 h1, .int .u32 h2, .int .u32 h3]) ∧ HullQ a0 a1 a2 a3 b0 b1 b2 b3 h0 h1 h2 h3 ∧ Below w.heap.size w w'
theorem hull_gen (a0 a1 a2 a3 b0 b1 b2 b3 : Int) (w : World) :
    Calls Try.prog 9 #[.agg #[.int .u32 a0, .int .u32 a1, .int .u32 a2, .int .u32 a3], .agg #[.int .u32 b0, .int .u32 b1, .int .u32 b2, .int .u32 b3]] w (HullE a0 a1 a2 a3 b0 b1 b2 b3 w) := by
  cases ha : emptyB a0 a1 a2 a3 with
  | true => exact (hull_left a0 a1 a2 a3 b0 b1 b2 b3 w ha).mono fun e w' ⟨h, hb⟩ => ⟨_, _, _, _, h, .inl ⟨ha, rfl, rfl, rfl, rfl⟩, hb⟩
  | false =>
    cases hb : emptyB b0 b1 b2 b3 with
    | true => exact (hull_right a0 a1 a2 a3 b0 b1 b2 b3 w ha hb).mono fun e w' ⟨h, hl⟩ => ⟨_, _, _, _, h, .inr (.inl ⟨ha, hb, rfl, rfl, rfl, rfl⟩), hl⟩
    | false => exact (hull_any a0 a1 a2 a3 b0 b1 b2 b3 w ha hb).mono fun e w' ⟨h, hl⟩ => ⟨_, _, _, _, h, .inr (.inr ⟨ha, hb, rfl, rfl, rfl, rfl⟩), hl⟩

section
variable {a0 a1 a2 a3 b0 b1 b2 b3 h0 h1 h2 h3 x y : Int}
theorem has_iff : hasB a0 a1 a2 a3 x y = true ↔ a0 ≤ x ∧ x ≤ a2 ∧ a1 ≤ y ∧ y ≤ a3 := by unfold hasB; simp; omega
theorem empty_iff : emptyB a0 a1 a2 a3 = false ↔ a0 ≤ a2 ∧ a1 ≤ a3 := by unfold emptyB; simp
theorem empty_iff' : emptyB a0 a1 a2 a3 = true ↔ ¬ (a0 ≤ a2 ∧ a1 ≤ a3) := by unfold emptyB; simp; omega
theorem hull_has (hg : HullQ a0 a1 a2 a3 b0 b1 b2 b3 h0 h1 h2 h3) (h : hasB a0 a1 a2 a3 x y = true ∨ hasB b0 b1 b2 b3 x y = true) : hasB h0 h1 h2 h3 x y = true := by
  rw [has_iff, has_iff] at h
  rw [has_iff]
  rcases hg with ⟨e, rfl, rfl, rfl, rfl⟩ | ⟨e, e2, rfl, rfl, rfl, rfl⟩ | ⟨e, e2, rfl, rfl, rfl, rfl⟩
  · rw [empty_iff'] at e; omega
  · rw [empty_iff'] at e2; omega
  · omega
theorem meet_has : hasB (max a0 b0) (max a1 b1) (min a2 b2) (min a3 b3) x y = (hasB a0 a1 a2 a3 x y && hasB b0 b1 b2 b3 x y) := by
  rw [Bool.eq_iff_iff, Bool.and_eq_true, has_iff, has_iff, has_iff]; omega
theorem has_not_empty (h : hasB a0 a1 a2 a3 x y = true) : emptyB a0 a1 a2 a3 = false := by rw [has_iff] at h; rw [empty_iff]; omega
theorem has_meets (h : hasB a0 a1 a2 a3 x y = true) (h' : hasB b0 b1 b2 b3 x y = true) : meetsB a0 a1 a2 a3 b0 b1 b2 b3 = true := by
  unfold meetsB
  rw [has_iff] at h h'
  rw [Bool.not_eq_true', empty_iff]
  omega
theorem within_has (h : withinB a0 a1 a2 a3 b0 b1 b2 b3 = true) (hp : hasB a0 a1 a2 a3 x y = true) : hasB b0 b1 b2 b3 x y = true := by
  unfold withinB at h
  rw [has_not_empty hp] at h
  simp at h
  rw [has_iff] at hp ⊢
  omega
end

set_option maxRecDepth 100000 in
set_option maxHeartbeats 4000000 in
theorem points_core (a0 a1 a2 a3 b0 b1 b2 b3 x y : Int) (w : World) (p q v : Bool) (hp : hasB a0 a1 a2 a3 x y = p) (hq : hasB b0 b1 b2 b3 x y = q) (hv : withinB a0 a1 a2 a3 b0 b1 b2 b3 = v)
    (hall : hasB 0 0 4294967295 4294967295 x y = true) :
    Calls Try.prog 3 #[.agg #[.int .u32 a0, .int .u32 a1, .int .u32 a2, .int .u32 a3], .agg #[.int .u32 b0, .int .u32 b1, .int .u32 b2, .int .u32 b3], .int .u32 x, .int .u32 y] w fun e w' => e = .returned (.bool true) ∧ Below w.heap.size w w' := by
  have hm := meet_has (a0 := a0) (a1 := a1) (a2 := a2) (a3 := a3) (b0 := b0) (b1 := b1) (b2 := b2) (b3 := b3) (x := x) (y := y)
  rw [hp, hq] at hm
  have HP := Lib.hid hp
  have HQ := Lib.hid hq
  have HV := Lib.hid hv
  have HM := Lib.hid hm
  have HA := Lib.hid hall
  clear hp hq hv hm hall
  go_enter Try.func3, Try.ntmps3
  go_wp2_with fail
  refine wp_region_held_drew (S := fun z => Below ((w.alloc (.cells #[.int .u32 a0, .int .u32 a1, .int .u32 a2, .int .u32 a3] 24)).alloc (.cells #[.int .u32 b0, .int .u32 b1, .int .u32 b2, .int .u32 b3] 24)).heap.size ((w.alloc (.cells #[.int .u32 a0, .int .u32 a1, .int .u32 a2, .int .u32 a3] 24)).alloc (.cells #[.int .u32 b0, .int .u32 b1, .int .u32 b2, .int .u32 b3] 24)) z) (by kernel_rfl) (Below.refl _ _).drew (fun hS => ?_)
  refine takeH (i := 0) (d := 11) (v := ?vg0) rfl (by kernel_rfl) (by kernel_rfl) (by kernel_rfl) (fun _ _ _ h => h) rfl (by rfl) ?yg0 hS ?rg0
  case yg0 => (intro wz hz; obtain ⟨hcz, hfz⟩ := keep (N := w.heap.size + 2) hz (by simp); go_simp <;> with_reducible rfl)
  simp only [List.setIfInBounds_toArray, List.set_cons_zero, List.set_cons_succ]
  refine takeH (i := 1) (d := 12) (v := ?vg1) rfl (by kernel_rfl) (by kernel_rfl) (by kernel_rfl) (fun _ _ _ h => h) rfl (by rfl) ?yg1 hS ?rg1
  case yg1 => (intro wz hz; obtain ⟨hcz, hfz⟩ := keep (N := w.heap.size + 2) hz (by simp); go_simp <;> with_reducible rfl)
  simp only [List.setIfInBounds_toArray, List.set_cons_zero, List.set_cons_succ]
  refine takeH (i := 2) (d := 13) (v := ?vg2) rfl (by kernel_rfl) (by kernel_rfl) (by kernel_rfl) (fun _ _ _ h => h) rfl (by rfl) ?yg2 hS ?rg2
  case yg2 => (intro wz hz; obtain ⟨hcz, hfz⟩ := keep (N := w.heap.size + 2) hz (by simp); go_simp <;> with_reducible rfl)
  simp only [List.setIfInBounds_toArray, List.set_cons_zero, List.set_cons_succ]
  refine takeH (i := 4) (d := 15) (v := ?vg4) rfl (by kernel_rfl) (by kernel_rfl) (by kernel_rfl) (fun _ _ _ h => h) rfl (by rfl) ?yg4 hS ?rg4
  case yg4 => (intro wz hz; obtain ⟨hcz, hfz⟩ := keep (N := w.heap.size + 2) hz (by simp); go_simp <;> with_reducible rfl)
  simp only [List.setIfInBounds_toArray, List.set_cons_zero, List.set_cons_succ]
  refine takeH (i := 5) (d := 16) (v := ?vg5) rfl (by kernel_rfl) (by kernel_rfl) (by kernel_rfl) (fun _ _ _ h => h) rfl (by rfl) ?yg5 hS ?rg5
  case yg5 => (intro wz hz; obtain ⟨hcz, hfz⟩ := keep (N := w.heap.size + 2) hz (by simp); go_simp <;> with_reducible rfl)
  simp only [List.setIfInBounds_toArray, List.set_cons_zero, List.set_cons_succ]
  refine takeH (i := 6) (d := 17) (v := ?vg6) rfl (by kernel_rfl) (by kernel_rfl) (by kernel_rfl) (fun _ _ _ h => h) rfl (by rfl) ?yg6 hS ?rg6
  case yg6 => (intro wz hz; obtain ⟨hcz, hfz⟩ := keep (N := w.heap.size + 2) hz (by simp); go_simp <;> with_reducible rfl)
  simp only [List.setIfInBounds_toArray, List.set_cons_zero, List.set_cons_succ]
  refine wpAnyH_ready (rs := [3]) (by kernel_rfl) (by simp) ?_
  refine AllReadyH.cons rfl (fun K hK => ?_) AllReadyH.nil
  go_simp
  refine (refHas_is HP.out _).mono ?_
  rintro e w1 ⟨rfl, hb⟩
  refine hK.out _ _ (chain hS hb (Nat.le_refl _)) (fun hT => ?_)
  clear hK hb hS
  have hS := hT
  clear hT
  refine wpAnyH_ready (rs := [7]) (by kernel_rfl) (by simp) ?_
  refine AllReadyH.cons rfl (fun K hK => ?_) AllReadyH.nil
  go_simp
  refine (refHas_is HQ.out _).mono ?_
  rintro e w1 ⟨rfl, hb⟩
  refine hK.out _ _ (chain hS hb (Nat.le_refl _)) (fun hT => ?_)
  clear hK hb hS
  have hS := hT
  clear hT
  refine takeH (i := 8) (d := 9) (v := ?vg8) rfl (by kernel_rfl) (by kernel_rfl) (by kernel_rfl) (fun _ _ _ h => h) rfl (by rfl) ?yg8 hS ?rg8
  case yg8 => (intro wz hz; obtain ⟨hcz, hfz⟩ := keep (N := w.heap.size + 2) hz (by simp); go_simp <;> with_reducible rfl)
  simp only [List.setIfInBounds_toArray, List.set_cons_zero, List.set_cons_succ]
  refine takeH (i := 9) (d := 10) (v := ?vg9) rfl (by kernel_rfl) (by kernel_rfl) (by kernel_rfl) (fun _ _ _ h => h) rfl (by rfl) ?yg9 hS ?rg9
  case yg9 => (intro wz hz; obtain ⟨hcz, hfz⟩ := keep (N := w.heap.size + 2) hz (by simp); go_simp <;> with_reducible rfl)
  simp only [List.setIfInBounds_toArray, List.set_cons_zero, List.set_cons_succ]
  refine wpAnyH_done (by kernel_rfl) ?_ _

  have HB := Lib.hid hS
  clear hS
  obtain ⟨hc, hf⟩ := keep (N := w.heap.size + 2) HB.out (by simp)
  have hp := HP.out
  have hm := HM.out
  have hall := HA.out
  have hv := HV.out
  cases p <;> cases q
  · simp only [Bool.false_and] at hm

    cases v
    all_goals
      go_wp2_with (first
    | (go_at_call 7; refine (has_any _ _ _ _ _ _ _).mono ?_; rintro e wz ⟨rfl, hb⟩; have HB2 := Lib.hid (chain HB.out hb (Nat.le_refl _)); clear HB hc hf hb; have HB := HB2; clear HB2; obtain ⟨hc, hf⟩ := keep (N := w.heap.size + 2) HB.out (by simp))
    | (go_at_call 8; refine (meet_any _ _ _ _ _ _ _ _ _).mono ?_; rintro e wz ⟨rfl, hb⟩; have HB2 := Lib.hid (chain HB.out hb (Nat.le_refl _)); clear HB hc hf hb; have HB := HB2; clear HB2; obtain ⟨hc, hf⟩ := keep (N := w.heap.size + 2) HB.out (by simp))
    | (go_at_call 9; refine (hull_gen _ _ _ _ _ _ _ _ _).mono ?_; rintro e wz ⟨h0, h1, h2, h3, rfl, hg, hb⟩; have hh := hull_has hg HPQ.out; have HG := Lib.hid hg; clear hg; have HB2 := Lib.hid (chain HB.out hb (Nat.le_refl _)); clear HB hc hf hb; have HB := HB2; clear HB2; obtain ⟨hc, hf⟩ := keep (N := w.heap.size + 2) HB.out (by simp))
    | (go_at_call 10; refine (empty_any _ _ _ _ _).mono ?_; rintro e wz ⟨rfl, hb⟩; have HB2 := Lib.hid (chain HB.out hb (Nat.le_refl _)); clear HB hc hf hb; have HB := HB2; clear HB2; obtain ⟨hc, hf⟩ := keep (N := w.heap.size + 2) HB.out (by simp))
    | (go_at_call 11; refine (meets_any _ _ _ _ _ _ _ _ _).mono ?_; rintro e wz ⟨rfl, hb⟩; have HB2 := Lib.hid (chain HB.out hb (Nat.le_refl _)); clear HB hc hf hb; have HB := HB2; clear HB2; obtain ⟨hc, hf⟩ := keep (N := w.heap.size + 2) HB.out (by simp))
    | (go_at_call 12; refine (within_is rfl _).mono ?_; rintro e wz ⟨rfl, hb⟩; have HB2 := Lib.hid (chain HB.out hb (Nat.le_refl _)); clear HB hc hf hb; have HB := HB2; clear HB2; obtain ⟨hc, hf⟩ := keep (N := w.heap.size + 2) HB.out (by simp))
    | (go_at_call 13; refine (all_any _).mono ?_; rintro e wz ⟨rfl, hb⟩; have HB2 := Lib.hid (chain HB.out hb (Nat.le_refl _)); clear HB hc hf hb; have HB := HB2; clear HB2; obtain ⟨hc, hf⟩ := keep (N := w.heap.size + 2) HB.out (by simp))
    | (go_at_call 14; refine (works_any _).mono ?_; rintro e wz ⟨rfl, hb⟩; have HB2 := Lib.hid (chain HB.out hb (Nat.le_refl _)); clear HB hc hf hb; have HB := HB2; clear HB2; obtain ⟨hc, hf⟩ := keep (N := w.heap.size + 2) HB.out (by simp)))
      go_ret
      exact ⟨rfl, chain (((Below.refl w.heap.size w).alloc (Nat.le_refl _) _).alloc (by simp) _) HB.out (Nat.le_refl _)⟩
  · simp only [Bool.false_and] at hm
    have HPQ : Hid (hasB a0 a1 a2 a3 x y = true ∨ hasB b0 b1 b2 b3 x y = true) := .inr HQ.out
    cases v
    all_goals
      go_wp2_with (first
    | (go_at_call 7; refine (has_any _ _ _ _ _ _ _).mono ?_; rintro e wz ⟨rfl, hb⟩; have HB2 := Lib.hid (chain HB.out hb (Nat.le_refl _)); clear HB hc hf hb; have HB := HB2; clear HB2; obtain ⟨hc, hf⟩ := keep (N := w.heap.size + 2) HB.out (by simp))
    | (go_at_call 8; refine (meet_any _ _ _ _ _ _ _ _ _).mono ?_; rintro e wz ⟨rfl, hb⟩; have HB2 := Lib.hid (chain HB.out hb (Nat.le_refl _)); clear HB hc hf hb; have HB := HB2; clear HB2; obtain ⟨hc, hf⟩ := keep (N := w.heap.size + 2) HB.out (by simp))
    | (go_at_call 9; refine (hull_gen _ _ _ _ _ _ _ _ _).mono ?_; rintro e wz ⟨h0, h1, h2, h3, rfl, hg, hb⟩; have hh := hull_has hg HPQ.out; have HG := Lib.hid hg; clear hg; have HB2 := Lib.hid (chain HB.out hb (Nat.le_refl _)); clear HB hc hf hb; have HB := HB2; clear HB2; obtain ⟨hc, hf⟩ := keep (N := w.heap.size + 2) HB.out (by simp))
    | (go_at_call 10; refine (empty_any _ _ _ _ _).mono ?_; rintro e wz ⟨rfl, hb⟩; have HB2 := Lib.hid (chain HB.out hb (Nat.le_refl _)); clear HB hc hf hb; have HB := HB2; clear HB2; obtain ⟨hc, hf⟩ := keep (N := w.heap.size + 2) HB.out (by simp))
    | (go_at_call 11; refine (meets_any _ _ _ _ _ _ _ _ _).mono ?_; rintro e wz ⟨rfl, hb⟩; have HB2 := Lib.hid (chain HB.out hb (Nat.le_refl _)); clear HB hc hf hb; have HB := HB2; clear HB2; obtain ⟨hc, hf⟩ := keep (N := w.heap.size + 2) HB.out (by simp))
    | (go_at_call 12; refine (within_is rfl _).mono ?_; rintro e wz ⟨rfl, hb⟩; have HB2 := Lib.hid (chain HB.out hb (Nat.le_refl _)); clear HB hc hf hb; have HB := HB2; clear HB2; obtain ⟨hc, hf⟩ := keep (N := w.heap.size + 2) HB.out (by simp))
    | (go_at_call 13; refine (all_any _).mono ?_; rintro e wz ⟨rfl, hb⟩; have HB2 := Lib.hid (chain HB.out hb (Nat.le_refl _)); clear HB hc hf hb; have HB := HB2; clear HB2; obtain ⟨hc, hf⟩ := keep (N := w.heap.size + 2) HB.out (by simp))
    | (go_at_call 14; refine (works_any _).mono ?_; rintro e wz ⟨rfl, hb⟩; have HB2 := Lib.hid (chain HB.out hb (Nat.le_refl _)); clear HB hc hf hb; have HB := HB2; clear HB2; obtain ⟨hc, hf⟩ := keep (N := w.heap.size + 2) HB.out (by simp)))
      go_ret
      exact ⟨rfl, chain (((Below.refl w.heap.size w).alloc (Nat.le_refl _) _).alloc (by simp) _) HB.out (Nat.le_refl _)⟩
  · simp only [Bool.and_false] at hm
    have HPQ : Hid (hasB a0 a1 a2 a3 x y = true ∨ hasB b0 b1 b2 b3 x y = true) := .inl HP.out
    have he := has_not_empty HP.out
    cases v
    · go_wp2_with (first
    | (go_at_call 7; refine (has_any _ _ _ _ _ _ _).mono ?_; rintro e wz ⟨rfl, hb⟩; have HB2 := Lib.hid (chain HB.out hb (Nat.le_refl _)); clear HB hc hf hb; have HB := HB2; clear HB2; obtain ⟨hc, hf⟩ := keep (N := w.heap.size + 2) HB.out (by simp))
    | (go_at_call 8; refine (meet_any _ _ _ _ _ _ _ _ _).mono ?_; rintro e wz ⟨rfl, hb⟩; have HB2 := Lib.hid (chain HB.out hb (Nat.le_refl _)); clear HB hc hf hb; have HB := HB2; clear HB2; obtain ⟨hc, hf⟩ := keep (N := w.heap.size + 2) HB.out (by simp))
    | (go_at_call 9; refine (hull_gen _ _ _ _ _ _ _ _ _).mono ?_; rintro e wz ⟨h0, h1, h2, h3, rfl, hg, hb⟩; have hh := hull_has hg HPQ.out; have HG := Lib.hid hg; clear hg; have HB2 := Lib.hid (chain HB.out hb (Nat.le_refl _)); clear HB hc hf hb; have HB := HB2; clear HB2; obtain ⟨hc, hf⟩ := keep (N := w.heap.size + 2) HB.out (by simp))
    | (go_at_call 10; refine (empty_any _ _ _ _ _).mono ?_; rintro e wz ⟨rfl, hb⟩; have HB2 := Lib.hid (chain HB.out hb (Nat.le_refl _)); clear HB hc hf hb; have HB := HB2; clear HB2; obtain ⟨hc, hf⟩ := keep (N := w.heap.size + 2) HB.out (by simp))
    | (go_at_call 11; refine (meets_any _ _ _ _ _ _ _ _ _).mono ?_; rintro e wz ⟨rfl, hb⟩; have HB2 := Lib.hid (chain HB.out hb (Nat.le_refl _)); clear HB hc hf hb; have HB := HB2; clear HB2; obtain ⟨hc, hf⟩ := keep (N := w.heap.size + 2) HB.out (by simp))
    | (go_at_call 12; refine (within_is rfl _).mono ?_; rintro e wz ⟨rfl, hb⟩; have HB2 := Lib.hid (chain HB.out hb (Nat.le_refl _)); clear HB hc hf hb; have HB := HB2; clear HB2; obtain ⟨hc, hf⟩ := keep (N := w.heap.size + 2) HB.out (by simp))
    | (go_at_call 13; refine (all_any _).mono ?_; rintro e wz ⟨rfl, hb⟩; have HB2 := Lib.hid (chain HB.out hb (Nat.le_refl _)); clear HB hc hf hb; have HB := HB2; clear HB2; obtain ⟨hc, hf⟩ := keep (N := w.heap.size + 2) HB.out (by simp))
    | (go_at_call 14; refine (works_any _).mono ?_; rintro e wz ⟨rfl, hb⟩; have HB2 := Lib.hid (chain HB.out hb (Nat.le_refl _)); clear HB hc hf hb; have HB := HB2; clear HB2; obtain ⟨hc, hf⟩ := keep (N := w.heap.size + 2) HB.out (by simp)))
      go_ret
      exact ⟨rfl, chain (((Below.refl w.heap.size w).alloc (Nat.le_refl _) _).alloc (by simp) _) HB.out (Nat.le_refl _)⟩
    · exact absurd (within_has hv HP.out) (by rw [HQ.out]; decide)
  · simp only [Bool.and_true] at hm
    have HPQ : Hid (hasB a0 a1 a2 a3 x y = true ∨ hasB b0 b1 b2 b3 x y = true) := .inl HP.out
    have he := has_not_empty HP.out
    have hms := has_meets HP.out HQ.out
    cases v
    all_goals
      go_wp2_with (first
    | (go_at_call 7; refine (has_any _ _ _ _ _ _ _).mono ?_; rintro e wz ⟨rfl, hb⟩; have HB2 := Lib.hid (chain HB.out hb (Nat.le_refl _)); clear HB hc hf hb; have HB := HB2; clear HB2; obtain ⟨hc, hf⟩ := keep (N := w.heap.size + 2) HB.out (by simp))
    | (go_at_call 8; refine (meet_any _ _ _ _ _ _ _ _ _).mono ?_; rintro e wz ⟨rfl, hb⟩; have HB2 := Lib.hid (chain HB.out hb (Nat.le_refl _)); clear HB hc hf hb; have HB := HB2; clear HB2; obtain ⟨hc, hf⟩ := keep (N := w.heap.size + 2) HB.out (by simp))
    | (go_at_call 9; refine (hull_gen _ _ _ _ _ _ _ _ _).mono ?_; rintro e wz ⟨h0, h1, h2, h3, rfl, hg, hb⟩; have hh := hull_has hg HPQ.out; have HG := Lib.hid hg; clear hg; have HB2 := Lib.hid (chain HB.out hb (Nat.le_refl _)); clear HB hc hf hb; have HB := HB2; clear HB2; obtain ⟨hc, hf⟩ := keep (N := w.heap.size + 2) HB.out (by simp))
    | (go_at_call 10; refine (empty_any _ _ _ _ _).mono ?_; rintro e wz ⟨rfl, hb⟩; have HB2 := Lib.hid (chain HB.out hb (Nat.le_refl _)); clear HB hc hf hb; have HB := HB2; clear HB2; obtain ⟨hc, hf⟩ := keep (N := w.heap.size + 2) HB.out (by simp))
    | (go_at_call 11; refine (meets_any _ _ _ _ _ _ _ _ _).mono ?_; rintro e wz ⟨rfl, hb⟩; have HB2 := Lib.hid (chain HB.out hb (Nat.le_refl _)); clear HB hc hf hb; have HB := HB2; clear HB2; obtain ⟨hc, hf⟩ := keep (N := w.heap.size + 2) HB.out (by simp))
    | (go_at_call 12; refine (within_is rfl _).mono ?_; rintro e wz ⟨rfl, hb⟩; have HB2 := Lib.hid (chain HB.out hb (Nat.le_refl _)); clear HB hc hf hb; have HB := HB2; clear HB2; obtain ⟨hc, hf⟩ := keep (N := w.heap.size + 2) HB.out (by simp))
    | (go_at_call 13; refine (all_any _).mono ?_; rintro e wz ⟨rfl, hb⟩; have HB2 := Lib.hid (chain HB.out hb (Nat.le_refl _)); clear HB hc hf hb; have HB := HB2; clear HB2; obtain ⟨hc, hf⟩ := keep (N := w.heap.size + 2) HB.out (by simp))
    | (go_at_call 14; refine (works_any _).mono ?_; rintro e wz ⟨rfl, hb⟩; have HB2 := Lib.hid (chain HB.out hb (Nat.le_refl _)); clear HB hc hf hb; have HB := HB2; clear HB2; obtain ⟨hc, hf⟩ := keep (N := w.heap.size + 2) HB.out (by simp)))
      go_ret
      exact ⟨rfl, chain (((Below.refl w.heap.size w).alloc (Nat.le_refl _) _).alloc (by simp) _) HB.out (Nat.le_refl _)⟩

theorem points_any (a0 a1 a2 a3 b0 b1 b2 b3 x y : Int) (w : World) (hx : 0 ≤ x ∧ x < 4294967296) (hy : 0 ≤ y ∧ y < 4294967296) :
    Calls Try.prog 3 #[.agg #[.int .u32 a0, .int .u32 a1, .int .u32 a2, .int .u32 a3], .agg #[.int .u32 b0, .int .u32 b1, .int .u32 b2, .int .u32 b3], .int .u32 x, .int .u32 y] w fun e w' => e = .returned (.bool true) ∧ Below w.heap.size w w' :=
  points_core a0 a1 a2 a3 b0 b1 b2 b3 x y w _ _ _ rfl rfl rfl (by rw [has_iff]; omega)
theorem u32_wf {n : Int} (h : (Lit.int .u32 n).wf = true) : 0 ≤ n ∧ n < 4294967296 := by
  have h2 : decide (IntKind.u32.min ≤ n) = true ∧ decide (n ≤ IntKind.u32.max) = true := by
    unfold Lit.wf at h
    simpa using h
  have e1 : IntKind.u32.min = 0 := by decide
  have e2 : IntKind.u32.max = 4294967295 := by decide
  rw [e1, e2] at h2
  simp at h2
  omega
set_option linter.unusedVariables false in
theorem points_law (a0 a1 a2 a3 b0 b1 b2 b3 x y : Int) (w : World) (g0 : (Lit.int .u32 a0).wf = true) (g1 : (Lit.int .u32 a1).wf = true) (g2 : (Lit.int .u32 a2).wf = true) (g3 : (Lit.int .u32 a3).wf = true) (g4 : (Lit.int .u32 b0).wf = true) (g5 : (Lit.int .u32 b1).wf = true) (g6 : (Lit.int .u32 b2).wf = true) (g7 : (Lit.int .u32 b3).wf = true) (g8 : (Lit.int .u32 x).wf = true) (g9 : (Lit.int .u32 y).wf = true) :
    Calls Try.prog 3 #[.agg #[.int .u32 a0, .int .u32 a1, .int .u32 a2, .int .u32 a3], .agg #[.int .u32 b0, .int .u32 b1, .int .u32 b2, .int .u32 b3], .int .u32 x, .int .u32 y] w fun e w' => e = .returned (.bool true) ∧ Below w.heap.size w w' :=
  points_any a0 a1 a2 a3 b0 b1 b2 b3 x y w (u32_wf g8) (u32_wf g9)
end Go.Proofs.Ytiapllplhjhliaa
