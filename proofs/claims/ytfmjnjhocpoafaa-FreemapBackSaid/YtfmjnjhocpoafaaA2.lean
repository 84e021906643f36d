/-
  The walk of Set, over every map.
  Conditions: maps of at most 120 pages.
-/
import Derived.Test.YtfmjnjhocpoafaaA1
import Derived.Test.YtfmjnjhocpoafaaHeld
namespace Go.Proofs.Ytfmjnjhocpoafaa
open Go.RowKit

set_option maxHeartbeats 800000 in
theorem set_out (l : List Bool) (i : Int) (t : Bool) (hib : inB l i = false) (w : World) :
    Calls Try.prog 8 #[.agg #[.int .i64 (l.length : Nat), .int .u64 (lo l : Nat), .int .u64 (hi l : Nat)], .int .i64 i, .bool t] w fun e w' => e = .returned (.tuple #[.agg #[.int .i64 (l.length : Nat), .int .u64 (lo l : Nat), .int .u64 (hi l : Nat)], .bool false]) ∧ Below w.heap.size w w' := by
  have HI := Lib.hid hib
  clear hib
  go_enter Try.func8, Try.ntmps8
  go_wp2_with fail
  refine (has_is HI.out _).mono ?_
  rintro e w1 ⟨rfl, h1⟩
  obtain ⟨hc1, hf1⟩ := keep (N := w.heap.size + 2) h1 (by simp)
  have z1 : w.heap.size + 2 ≤ w1.heap.size := by have := h1.size; simp at this; omega
  have B1 := Lib.hid (chain (((Below.refl w.heap.size w).alloc (Nat.le_refl _) _).alloc (by simp) _) h1 (Nat.le_refl _))
  clear h1
  go_wp2_with fail
  exact bodyPost_ret (v := .tuple #[.agg #[.int .i64 (l.length : Nat), .int .u64 (lo l : Nat), .int .u64 (hi l : Nat)], .bool false]) (by simp [results, Try.results8, go_sem, hc1]) rfl
    ⟨rfl, ((B1.out.setCell (by simp) _).setCell (by simp) _).setCell (by simp) _⟩
set_option maxHeartbeats 800000 in
theorem set_same (l : List Bool) (i : Int) (t : Bool) (hib : inB l i = true) (ht : tk l i = t) (hn : l.length ≤ 120) (w : World) :
    Calls Try.prog 8 #[.agg #[.int .i64 (l.length : Nat), .int .u64 (lo l : Nat), .int .u64 (hi l : Nat)], .int .i64 i, .bool t] w fun e w' => e = .returned (.tuple #[.agg #[.int .i64 (l.length : Nat), .int .u64 (lo l : Nat), .int .u64 (hi l : Nat)], .bool false]) ∧ Below w.heap.size w w' := by
  have HI := Lib.hid hib
  have HT := Lib.hid ht
  clear hib ht
  go_enter Try.func8, Try.ntmps8
  go_wp2_with fail
  refine (has_is HI.out _).mono ?_
  rintro e w1 ⟨rfl, h1⟩
  obtain ⟨hc1, hf1⟩ := keep (N := w.heap.size + 2) h1 (by simp)
  have z1 : w.heap.size + 2 ≤ w1.heap.size := by have := h1.size; simp at this; omega
  have B1 := Lib.hid (chain (((Below.refl w.heap.size w).alloc (Nat.le_refl _) _).alloc (by simp) _) h1 (Nat.le_refl _))
  clear h1
  go_wp2_with fail
  refine (taken_is HT.out hn _).mono ?_
  rintro e w2 ⟨rfl, h2⟩
  obtain ⟨hc2, hf2⟩ := keep (N := w.heap.size + 2) h2 z1
  have B2 := Lib.hid (chain B1.out h2 (Nat.le_refl _))
  clear h2 B1
  have dt : (t == t) = true := by simp
  go_wp2_with fail
  exact bodyPost_ret (v := .tuple #[.agg #[.int .i64 (l.length : Nat), .int .u64 (lo l : Nat), .int .u64 (hi l : Nat)], .bool false]) (by simp [results, Try.results8, go_sem, hc1, hc2]) rfl
    ⟨rfl, ((B2.out.setCell (by simp) _).setCell (by simp) _).setCell (by simp) _⟩
theorem xor_w (m i : Nat) (hm : m < 2 ^ 64) (hi : i < 64) : bits .xor .u64 (m : Int) (IntKind.u64.wrap (2 ^ i)) = ((m ^^^ 2 ^ i : Nat) : Int) := by
  have h2 : 2 ^ i < 2 ^ 64 := Nat.pow_lt_pow_right (by decide) hi
  rw [show IntKind.u64.wrap (2 ^ i) = ((2 ^ i : Nat) : Int) from by
    rw [IntKind.wrap_u64, show ((2 : Int) ^ i) = ((2 ^ i : Nat) : Int) from by push_cast; rfl]
    generalize 2 ^ i = p at *
    omega]
  exact bits_xor_u64_nat m _ hm h2
set_option maxHeartbeats 800000 in
theorem set_lo (l : List Bool) (i : Nat) (t : Bool) (hl : i < l.length) (ht : tk l i = !t) (hn : l.length ≤ 120) (h64 : i < 64) (w : World) :
    Calls Try.prog 8 #[.agg #[.int .i64 (l.length : Nat), .int .u64 (lo l : Nat), .int .u64 (hi l : Nat)], .int .i64 i, .bool t] w fun e w' => e = .returned (.tuple #[.agg #[.int .i64 ((l.set i t).length : Nat), .int .u64 (lo (l.set i t) : Nat), .int .u64 (hi (l.set i t) : Nat)], .bool true]) ∧ Below w.heap.size w w' := by
  have HI := Lib.hid (show inB l i = true by unfold inB; simp; omega)
  have d : (i : Int) / 64 = 0 := by omega
  have m : (i : Int) % 64 = (i : Int) := by omega
  have HT := Lib.hid ht
  clear ht
  go_enter Try.func8, Try.ntmps8
  go_wp2_with fail
  refine (has_is HI.out _).mono ?_
  rintro e w1 ⟨rfl, h1⟩
  obtain ⟨hc1, hf1⟩ := keep (N := w.heap.size + 2) h1 (by simp)
  have z1 : w.heap.size + 2 ≤ w1.heap.size := by have := h1.size; simp at this; omega
  have B1 := Lib.hid (chain (((Below.refl w.heap.size w).alloc (Nat.le_refl _) _).alloc (by simp) _) h1 (Nat.le_refl _))
  clear h1
  go_wp2_with fail
  refine (taken_is HT.out hn _).mono ?_
  rintro e w2 ⟨rfl, h2⟩
  obtain ⟨hc2, hf2⟩ := keep (N := w.heap.size + 2) h2 z1
  have B2 := Lib.hid (chain B1.out h2 (Nat.le_refl _))
  clear h2 B1
  have dt : ((!t) == t) = false := by cases t <;> rfl
  have q0 : IntKind.i64.wrap 0 = 0 := rfl
  have qi : IntKind.i64.wrap (i : Int) = (i : Int) := by rw [IntKind.wrap_i64]; omega
  have tm : (i : Int).tmod 64 = (i : Int) := by rw [Int.tmod_eq_emod_of_nonneg (by omega)]; exact m
  go_wp2_with fail
  refine wp_region_held_drew (S := fun _ => True) (by kernel_rfl) trivial (fun hS => ?_)
  refine takeH (i := 0) (d := 20) (v := ?va0) rfl (by kernel_rfl) (by kernel_rfl) (by kernel_rfl) (fun _ _ _ h => h) rfl (by rfl) ?ya0 hS ?ra0
  case ya0 => (intro wz hz; go_simp <;> with_reducible rfl)
  simp only [List.setIfInBounds_toArray, List.set_cons_zero, List.set_cons_succ]
  refine takeH (i := 1) (d := 21) (v := ?va1) rfl (by kernel_rfl) (by kernel_rfl) (by kernel_rfl) (fun _ _ _ h => h) rfl (by rfl) ?ya1 hS ?ra1
  case ya1 => (intro wz hz; go_simp <;> with_reducible rfl)
  simp only [List.setIfInBounds_toArray, List.set_cons_zero, List.set_cons_succ]
  refine takeH (i := 2) (d := 22) (v := ?va2) rfl (by kernel_rfl) (by kernel_rfl) (by kernel_rfl) (fun _ _ _ h => h) rfl (by rfl) ?ya2 hS ?ra2
  case ya2 => (intro wz hz; go_simp <;> with_reducible rfl)
  simp only [List.setIfInBounds_toArray, List.set_cons_zero, List.set_cons_succ]
  refine takeH (i := 3) (d := 23) (v := ?va3) rfl (by kernel_rfl) (by kernel_rfl) (by kernel_rfl) (fun _ _ _ h => h) rfl (by rfl) ?ya3 hS ?ra3
  case ya3 => (intro wz hz; go_simp <;> with_reducible rfl)
  simp only [List.setIfInBounds_toArray, List.set_cons_zero, List.set_cons_succ]
  refine takeH (i := 5) (d := 25) (v := ?va5) rfl (by kernel_rfl) (by kernel_rfl) (by kernel_rfl) (fun _ _ _ h => h) rfl (by rfl) ?ya5 hS ?ra5
  case ya5 => (intro wz hz; go_simp <;> with_reducible rfl)
  simp only [List.setIfInBounds_toArray, List.set_cons_zero, List.set_cons_succ]
  refine takeH (i := 6) (d := 26) (v := ?va6) rfl (by kernel_rfl) (by kernel_rfl) (by kernel_rfl) (fun _ _ _ h => h) rfl (by rfl) ?ya6 hS ?ra6
  case ya6 => (intro wz hz; go_simp <;> with_reducible rfl)
  simp only [List.setIfInBounds_toArray, List.set_cons_zero, List.set_cons_succ]
  refine takeH (i := 7) (d := 27) (v := ?va7) rfl (by kernel_rfl) (by kernel_rfl) (by kernel_rfl) (fun _ _ _ h => h) rfl (by rfl) ?ya7 hS ?ra7
  case ya7 => (intro wz hz; go_simp <;> with_reducible rfl)
  simp only [List.setIfInBounds_toArray, List.set_cons_zero, List.set_cons_succ]
  refine takeH (i := 9) (d := 29) (v := ?va9) rfl (by kernel_rfl) (by kernel_rfl) (by kernel_rfl) (fun _ _ _ h => h) rfl (by rfl) ?ya9 hS ?ra9
  case ya9 => (intro wz hz; go_simp <;> with_reducible rfl)
  simp only [List.setIfInBounds_toArray, List.set_cons_zero, List.set_cons_succ]
  refine wpAnyH_ready (rs := [4]) (by kernel_rfl) (by simp) ?_
  refine AllReadyH.cons rfl (fun K hK => ?_) AllReadyH.nil
  go_simp
  skip
  refine hK.out _ _ (trivial) (fun hT => ?_)
  clear hK  hS
  have hS := hT
  clear hT
  refine takeH (i := 8) (d := 28) (v := ?va8) rfl (by kernel_rfl) (by kernel_rfl) (by kernel_rfl) (fun _ _ _ h => h) rfl (by rfl) ?ya8 hS ?ra8
  case ya8 => (intro wz hz; go_simp <;> with_reducible rfl)
  simp only [List.setIfInBounds_toArray, List.set_cons_zero, List.set_cons_succ]
  refine takeH (i := 10) (d := 30) (v := ?va10) rfl (by kernel_rfl) (by kernel_rfl) (by kernel_rfl) (fun _ _ _ h => h) rfl (by rfl) ?ya10 hS ?ra10
  case ya10 => (intro wz hz; go_simp <;> with_reducible rfl)
  simp only [List.setIfInBounds_toArray, List.set_cons_zero, List.set_cons_succ]
  refine wpAnyH_ready (rs := [11]) (by kernel_rfl) (by simp) ?_
  refine AllReadyH.cons rfl (fun K hK => ?_) AllReadyH.nil
  go_simp
  skip
  refine hK.out _ _ (trivial) (fun hT => ?_)
  clear hK  hS
  have hS := hT
  clear hT
  refine wpAnyH_done (by kernel_rfl) ?_ _
  have HX := Lib.hid (show bits .xor .u64 (lo l : Int) (IntKind.u64.wrap (2 ^ i)) = (lo (l.set i t) : Nat) by rw [xor_w _ _ (lo_lt l) h64, lo_set l i t hl (by have := HT.out; rwa [tk_nat] at this) h64])
  have HY := Lib.hid (hi_set' l i t h64)
  go_wp2_with fail
  exact bodyPost_ret (v := .tuple #[.agg #[.int .i64 ((l.set i t).length : Nat), .int .u64 (lo (l.set i t) : Nat), .int .u64 (hi (l.set i t) : Nat)], .bool true]) (by simp [results, Try.results8, go_sem, hc1, hc2, HX.out, HY.out]) rfl
    ⟨rfl, (((B2.out.setCell (by simp) _).drew.setCell (by simp) _).setCell (by simp) _).setCell (by simp) _⟩
set_option maxHeartbeats 800000 in
theorem set_hi (l : List Bool) (i j : Nat) (t : Bool) (hl : i < l.length) (ht : tk l i = !t) (hn : l.length ≤ 120) (hj : i = 64 + j) (w : World) :
    Calls Try.prog 8 #[.agg #[.int .i64 (l.length : Nat), .int .u64 (lo l : Nat), .int .u64 (hi l : Nat)], .int .i64 i, .bool t] w fun e w' => e = .returned (.tuple #[.agg #[.int .i64 ((l.set i t).length : Nat), .int .u64 (lo (l.set i t) : Nat), .int .u64 (hi (l.set i t) : Nat)], .bool true]) ∧ Below w.heap.size w w' := by
  have HI := Lib.hid (show inB l i = true by unfold inB; simp; omega)
  have d : (i : Int) / 64 = 1 := by omega
  have m : (i : Int) % 64 = (j : Int) := by omega
  have hj2 : j < 64 := by omega
  have HJ := Lib.hid hj
  clear hj
  have HT := Lib.hid ht
  clear ht
  go_enter Try.func8, Try.ntmps8
  go_wp2_with fail
  refine (has_is HI.out _).mono ?_
  rintro e w1 ⟨rfl, h1⟩
  obtain ⟨hc1, hf1⟩ := keep (N := w.heap.size + 2) h1 (by simp)
  have z1 : w.heap.size + 2 ≤ w1.heap.size := by have := h1.size; simp at this; omega
  have B1 := Lib.hid (chain (((Below.refl w.heap.size w).alloc (Nat.le_refl _) _).alloc (by simp) _) h1 (Nat.le_refl _))
  clear h1
  go_wp2_with fail
  refine (taken_is HT.out hn _).mono ?_
  rintro e w2 ⟨rfl, h2⟩
  obtain ⟨hc2, hf2⟩ := keep (N := w.heap.size + 2) h2 z1
  have B2 := Lib.hid (chain B1.out h2 (Nat.le_refl _))
  clear h2 B1
  have dt : ((!t) == t) = false := by cases t <;> rfl
  have q0 : IntKind.i64.wrap 1 = 1 := rfl
  have qi : IntKind.i64.wrap (j : Int) = (j : Int) := by rw [IntKind.wrap_i64]; omega
  have tm : (i : Int).tmod 64 = (j : Int) := by rw [Int.tmod_eq_emod_of_nonneg (by omega)]; exact m
  go_wp2_with fail
  refine wp_region_held_drew (S := fun _ => True) (by kernel_rfl) trivial (fun hS => ?_)
  refine takeH (i := 0) (d := 20) (v := ?vb0) rfl (by kernel_rfl) (by kernel_rfl) (by kernel_rfl) (fun _ _ _ h => h) rfl (by rfl) ?yb0 hS ?rb0
  case yb0 => (intro wz hz; go_simp <;> with_reducible rfl)
  simp only [List.setIfInBounds_toArray, List.set_cons_zero, List.set_cons_succ]
  refine takeH (i := 1) (d := 21) (v := ?vb1) rfl (by kernel_rfl) (by kernel_rfl) (by kernel_rfl) (fun _ _ _ h => h) rfl (by rfl) ?yb1 hS ?rb1
  case yb1 => (intro wz hz; go_simp <;> with_reducible rfl)
  simp only [List.setIfInBounds_toArray, List.set_cons_zero, List.set_cons_succ]
  refine takeH (i := 2) (d := 22) (v := ?vb2) rfl (by kernel_rfl) (by kernel_rfl) (by kernel_rfl) (fun _ _ _ h => h) rfl (by rfl) ?yb2 hS ?rb2
  case yb2 => (intro wz hz; go_simp <;> with_reducible rfl)
  simp only [List.setIfInBounds_toArray, List.set_cons_zero, List.set_cons_succ]
  refine takeH (i := 3) (d := 23) (v := ?vb3) rfl (by kernel_rfl) (by kernel_rfl) (by kernel_rfl) (fun _ _ _ h => h) rfl (by rfl) ?yb3 hS ?rb3
  case yb3 => (intro wz hz; go_simp <;> with_reducible rfl)
  simp only [List.setIfInBounds_toArray, List.set_cons_zero, List.set_cons_succ]
  refine takeH (i := 5) (d := 25) (v := ?vb5) rfl (by kernel_rfl) (by kernel_rfl) (by kernel_rfl) (fun _ _ _ h => h) rfl (by rfl) ?yb5 hS ?rb5
  case yb5 => (intro wz hz; go_simp <;> with_reducible rfl)
  simp only [List.setIfInBounds_toArray, List.set_cons_zero, List.set_cons_succ]
  refine takeH (i := 6) (d := 26) (v := ?vb6) rfl (by kernel_rfl) (by kernel_rfl) (by kernel_rfl) (fun _ _ _ h => h) rfl (by rfl) ?yb6 hS ?rb6
  case yb6 => (intro wz hz; go_simp <;> with_reducible rfl)
  simp only [List.setIfInBounds_toArray, List.set_cons_zero, List.set_cons_succ]
  refine takeH (i := 7) (d := 27) (v := ?vb7) rfl (by kernel_rfl) (by kernel_rfl) (by kernel_rfl) (fun _ _ _ h => h) rfl (by rfl) ?yb7 hS ?rb7
  case yb7 => (intro wz hz; go_simp <;> with_reducible rfl)
  simp only [List.setIfInBounds_toArray, List.set_cons_zero, List.set_cons_succ]
  refine takeH (i := 9) (d := 29) (v := ?vb9) rfl (by kernel_rfl) (by kernel_rfl) (by kernel_rfl) (fun _ _ _ h => h) rfl (by rfl) ?yb9 hS ?rb9
  case yb9 => (intro wz hz; go_simp <;> with_reducible rfl)
  simp only [List.setIfInBounds_toArray, List.set_cons_zero, List.set_cons_succ]
  refine wpAnyH_ready (rs := [4]) (by kernel_rfl) (by simp) ?_
  refine AllReadyH.cons rfl (fun K hK => ?_) AllReadyH.nil
  go_simp
  skip
  refine hK.out _ _ (trivial) (fun hT => ?_)
  clear hK  hS
  have hS := hT
  clear hT
  refine takeH (i := 8) (d := 28) (v := ?vb8) rfl (by kernel_rfl) (by kernel_rfl) (by kernel_rfl) (fun _ _ _ h => h) rfl (by rfl) ?yb8 hS ?rb8
  case yb8 => (intro wz hz; go_simp <;> with_reducible rfl)
  simp only [List.setIfInBounds_toArray, List.set_cons_zero, List.set_cons_succ]
  refine takeH (i := 10) (d := 30) (v := ?vb10) rfl (by kernel_rfl) (by kernel_rfl) (by kernel_rfl) (fun _ _ _ h => h) rfl (by rfl) ?yb10 hS ?rb10
  case yb10 => (intro wz hz; go_simp <;> with_reducible rfl)
  simp only [List.setIfInBounds_toArray, List.set_cons_zero, List.set_cons_succ]
  refine wpAnyH_ready (rs := [11]) (by kernel_rfl) (by simp) ?_
  refine AllReadyH.cons rfl (fun K hK => ?_) AllReadyH.nil
  go_simp
  skip
  refine hK.out _ _ (trivial) (fun hT => ?_)
  clear hK  hS
  have hS := hT
  clear hT
  refine wpAnyH_done (by kernel_rfl) ?_ _
  have h64 : 64 ≤ i := by have := HJ.out; omega
  have HX := Lib.hid (show bits .xor .u64 (hi l : Int) (IntKind.u64.wrap (2 ^ j)) = (hi (l.set i t) : Nat) by rw [xor_w _ _ (hi_lt l hn) hj2, hi_set l i t hl (by have := HT.out; rwa [tk_nat] at this) h64, show i - 64 = j from by have := HJ.out; omega])
  have HY := Lib.hid (lo_set' l i t h64)
  go_wp2_with fail
  exact bodyPost_ret (v := .tuple #[.agg #[.int .i64 ((l.set i t).length : Nat), .int .u64 (lo (l.set i t) : Nat), .int .u64 (hi (l.set i t) : Nat)], .bool true]) (by simp [results, Try.results8, go_sem, hc1, hc2, HX.out, HY.out]) rfl
    ⟨rfl, (((B2.out.setCell (by simp) _).drew.setCell (by simp) _).setCell (by simp) _).setCell (by simp) _⟩
/-- The map behind Set, and whether it is another one. -/
def setL (l : List Bool) (i : Int) (t : Bool) : List Bool := if inB l i && (tk l i != t) then l.set i.toNat t else l
def setB (l : List Bool) (i : Int) (t : Bool) : Bool := inB l i && (tk l i != t)
theorem setL_length (l : List Bool) (i : Int) (t : Bool) : (setL l i t).length = l.length := by
  unfold setL
  split
  · exact List.length_set
  · rfl
theorem set_any (l : List Bool) (i : Int) (t : Bool) (hn : l.length ≤ 120) (w : World) :
    Calls Try.prog 8 #[.agg #[.int .i64 (l.length : Nat), .int .u64 (lo l : Nat), .int .u64 (hi l : Nat)], .int .i64 i, .bool t] w fun e w' => e = .returned (.tuple #[.agg #[.int .i64 ((setL l i t).length : Nat), .int .u64 (lo (setL l i t) : Nat), .int .u64 (hi (setL l i t) : Nat)], .bool (setB l i t)]) ∧ Below w.heap.size w w' := by
  unfold setL setB
  cases hb : inB l i
  · exact set_out l i t hb w
  · by_cases ht : tk l i = t
    · rw [show (tk l i != t) = false from by simp [ht]]
      exact set_same l i t hb ht hn w
    · have ht' : tk l i = !t := by
        cases h : tk l i <;> cases t <;> simp_all
      rw [show (tk l i != t) = true from by simp [ht]]
      unfold inB at hb
      simp at hb
      obtain ⟨k, rfl⟩ : ∃ k : Nat, i = (k : Int) := ⟨i.toNat, by omega⟩
      by_cases h : k < 64
      · exact set_lo l k t (by omega) ht' hn h w
      · exact set_hi l k (k - 64) t (by omega) ht' hn (by omega) w
/-- A page that is free is taken. -/
theorem set_yes {l l' : List Bool} {i : Int} {t b : Bool} (hl : setL l i t = l') (hb : setB l i t = b) (hn : l.length ≤ 120) (w : World) :
    Calls Try.prog 8 #[.agg #[.int .i64 (l.length : Nat), .int .u64 (lo l : Nat), .int .u64 (hi l : Nat)], .int .i64 i, .bool t] w fun e w' => e = .returned (.tuple #[.agg #[.int .i64 (l'.length : Nat), .int .u64 (lo l' : Nat), .int .u64 (hi l' : Nat)], .bool b]) ∧ Below w.heap.size w w' := by
  subst hl
  subst hb
  exact set_any l i t hn w
end Go.Proofs.Ytfmjnjhocpoafaa
