/-
  The reference's disk, and the walks of its inside, kept, Read, Fuse and Up.
  Conditions: disks of at most 100000 sectors.
-/
import Derived.Test.YtggcfbglfmcdmaaB5
namespace Go.Proofs.Ytggcfbglfmcdmaa
open Go.RowKit

/-- The reference's disk, a value. -/
abbrev refW (A : Option Addr) (n c : Nat) (nw fu : Int) (K : Option Addr) (k kc : Nat) (dn : Bool) : Value := .agg #[.slice A n c, .int .i64 nw, .int .i64 fu, .slice K k kc, .bool dn]
structure RefAt (X : Nat → Prop) (w : World) (A : Option Addr) (c : Nat) (K : Option Addr) (kc : Nat) (S : List Int) (kl : List Bool) : Prop where
  sect : Lz X w 64 A S.length (flat S)
  keep : Lz X w 1 K kl.length (BL kl)
  c1 : S.length ≤ c
  c2 : c ≤ maxLen
  k1 : kl.length ≤ kc
  k2 : kc ≤ maxLen
theorem RefAt.kept {X : Nat → Prop} {w w' : World} {A : Option Addr} {c : Nat} {K : Option Addr} {kc : Nat} {S : List Int} {kl : List Bool} (h : RefAt X w A c K kc S kl) (hm : Mod X w w') : RefAt X w' A c K kc S kl :=
  ⟨h.sect.kept hm, h.keep.kept hm, h.c1, h.c2, h.k1, h.k2⟩
theorem RefAt.below {X : Nat → Prop} {w w' : World} {A : Option Addr} {c : Nat} {K : Option Addr} {kc : Nat} {S : List Int} {kl : List Bool} (h : RefAt X w A c K kc S kl) (hb : Below w.heap.size w w') : RefAt X w' A c K kc S kl := h.kept (Mod.of_below hb X)

section
variable (A : Option Addr) (s c : Nat) (nw fu : Int) (K : Option Addr) (k kc : Nat) (dn : Bool) (w : World)
set_option maxHeartbeats 800000 in
theorem inside_yes (p n : Int) (hs : s ≤ 100000) (hi : Inside s p n) :
    Calls Try.prog 31 #[.agg #[.slice A s c, .int .i64 nw, .int .i64 fu, .slice K k kc, .bool dn], .int .i64 p, .int .i64 n] w fun e w' => e = .returned (.bool true) ∧ Below w.heap.size w w' := by
  obtain ⟨i1, i2, i3, i4⟩ := hi
  have d1 : decide (0 ≤ p) = true := by simpa using i1
  have d2 : decide (p < (s : Int)) = true := by simpa using i2
  have d3 : decide (0 ≤ n) = true := by simpa using i3
  have d4 : decide (n ≤ (s : Int) - p) = true := by simpa using i4
  go_enter Try.func31, Try.ntmps31
  go_wp2_with fail
  go_ret
  exact ⟨rfl, (Below.refl _ _).alloc (Nat.le_refl _) _⟩
set_option maxHeartbeats 800000 in
theorem inside_no (p n : Int) (hs : s ≤ 100000) (hi : ¬ Inside s p n) :
    Calls Try.prog 31 #[.agg #[.slice A s c, .int .i64 nw, .int .i64 fu, .slice K k kc, .bool dn], .int .i64 p, .int .i64 n] w fun e w' => e = .returned (.bool false) ∧ Below w.heap.size w w' := by
  unfold Inside at hi
  by_cases h1 : 0 ≤ p
  · have d1 : decide (0 ≤ p) = true := by simpa using h1
    by_cases h2 : p < (s : Int)
    · have d2 : decide (p < (s : Int)) = true := by simpa using h2
      by_cases h3 : 0 ≤ n
      · have d3 : decide (0 ≤ n) = true := by simpa using h3
        have h4 : ¬ n ≤ (s : Int) - p := fun h => hi ⟨h1, h2, h3, h⟩
        have d4 : decide (n ≤ (s : Int) - p) = false := by simpa using h4
        clear hi h4
        go_enter Try.func31, Try.ntmps31
        go_wp2_with fail
        go_ret
        exact ⟨rfl, (Below.refl _ _).alloc (Nat.le_refl _) _⟩
      · have d3 : decide (0 ≤ n) = false := by simpa using h3
        clear hi
        go_enter Try.func31, Try.ntmps31
        go_wp2_with fail
        go_ret
        exact ⟨rfl, (Below.refl _ _).alloc (Nat.le_refl _) _⟩
    · have d2 : decide (p < (s : Int)) = false := by simpa using h2
      clear hi
      go_enter Try.func31, Try.ntmps31
      go_wp2_with fail
      go_ret
      exact ⟨rfl, (Below.refl _ _).alloc (Nat.le_refl _) _⟩
  · have d1 : decide (0 ≤ p) = false := by simpa using h1
    clear hi
    go_enter Try.func31, Try.ntmps31
    go_wp2_with fail
    go_ret
    exact ⟨rfl, (Below.refl _ _).alloc (Nat.le_refl _) _⟩

/-- Is the sector in place j kept? -/
def keptB (fu : Int) (kl : List Bool) (j : Nat) : Bool := !(fu == 0) || kl.getD j false
set_option maxHeartbeats 800000 in
theorem kept_any (X : Nat → Prop) (kl : List Bool) (j : Nat) (hk : Lz X w 1 K kl.length (BL kl)) :
    Calls Try.prog 32 #[.agg #[.slice A s c, .int .i64 nw, .int .i64 fu, .slice K kl.length kc, .bool dn], .int .i64 j] w fun e w' => e = .returned (.bool (keptB fu kl j)) ∧ Below w.heap.size w w' := by
  have HK := Lib.hid hk
  clear hk
  unfold keptB
  by_cases h0 : fu = 0
  · subst h0
    by_cases h1 : j < kl.length
    · obtain ⟨b, o, u, rfl, hx, hb, hu, hc⟩ := HK.out.get h1
      rw [BL_get kl j h1] at hu
      injection hu with hu
      subst hu
      have hgd : kl.getD j false = kl[j] := by simp [List.getD, h1]
      rw [hgd]
      generalize kl[j] = v at *
      clear hgd
      go_enter Try.func32, Try.ntmps32
      go_wp2_with fail
      go_ret
      exact ⟨by simp, (Below.refl _ _).alloc (Nat.le_refl _) _⟩
    · have hgd : kl.getD j false = false := by rw [List.getD_eq_getElem?_getD, List.getElem?_eq_none (by omega)]; rfl
      rw [hgd]
      clear hgd
      go_enter Try.func32, Try.ntmps32
      go_wp2_with fail
      go_ret
      exact ⟨by simp, (Below.refl _ _).alloc (Nat.le_refl _) _⟩
  · have q0 : (fu == 0) = false := by simpa using h0
    have q1 : (fu != 0) = true := by simpa using h0
    go_enter Try.func32, Try.ntmps32
    go_wp2_with fail
    go_ret
    exact ⟨by simp [h0], (Below.refl _ _).alloc (Nat.le_refl _) _⟩

set_option maxHeartbeats 800000 in
theorem refFuse_any (n : Int) (K2 : Option Addr) (k2 kc2 : Nat) :
    Calls Try.prog 27 #[.agg #[.slice A s c, .int .i64 nw, .int .i64 fu, .slice K k kc, .bool dn], .int .i64 n, .slice K2 k2 kc2] w fun e w' =>
      e = .returned (.agg #[.slice A s c, .int .i64 nw, .int .i64 (if n < 0 then -1 else n), .slice K2 k2 kc2, .bool dn]) ∧ Below w.heap.size w w' := by
  by_cases h : n < 0
  · rw [if_pos h]
    go_enter Try.func27, Try.ntmps27
    go_wp2_with fail
    refine bodyPost_ret (v := .agg #[.slice A s c, .int .i64 nw, .int .i64 (-1), .slice K2 k2 kc2, .bool dn]) (by simp [results, Try.results27, go_sem]) rfl ⟨rfl, ?_⟩
    exact (((Below.refl _ _).alloc (Nat.le_refl _) _).alloc (by simp) _).alloc (by simp; omega) _
  · rw [if_neg h]
    go_enter Try.func27, Try.ntmps27
    go_wp2_with fail
    refine bodyPost_ret (v := .agg #[.slice A s c, .int .i64 nw, .int .i64 n, .slice K2 k2 kc2, .bool dn]) (by simp [results, Try.results27, go_sem]) rfl ⟨rfl, ?_⟩
    exact (((Below.refl _ _).alloc (Nat.le_refl _) _).alloc (by simp) _).alloc (by simp; omega) _
set_option maxHeartbeats 800000 in
theorem refUp_any :
    Calls Try.prog 28 #[.agg #[.slice A s c, .int .i64 nw, .int .i64 fu, .slice K k kc, .bool dn]] w fun e w' =>
      e = .returned (.agg #[.slice A s c, .int .i64 nw, .int .i64 (-1), .slice none 0 0, .bool false]) ∧ Below w.heap.size w w' := by
  go_enter Try.func28, Try.ntmps28
  go_wp2_with fail
  refine bodyPost_ret (v := .agg #[.slice A s c, .int .i64 nw, .int .i64 (-1), .slice none 0 0, .bool false]) (by simp [results, Try.results28, go_sem]) rfl ⟨rfl, ?_⟩
  exact (((Below.refl _ _).alloc (Nat.le_refl _) _).alloc (by simp) _).alloc (by simp; omega) _
set_option maxHeartbeats 800000 in
theorem refRead_bad (p n : Int) (hs : s ≤ 100000) (hi : ¬ Inside s p n) :
    Calls Try.prog 26 #[.agg #[.slice A s c, .int .i64 nw, .int .i64 fu, .slice K k kc, .bool dn], .int .i64 p, .int .i64 n] w fun e w' => e = .returned (.tuple #[.slice none 0 0, .int .i64 2]) ∧ Below w.heap.size w w' := by
  have IN := Lib.hid (fun W => inside_no A s c nw fu K k kc dn W p n hs hi)
  clear hi
  go_enter Try.func26, Try.ntmps26
  go_wp2_with (go_at_call 31; refine (IN.out _).mono ?_; rintro e w1 ⟨rfl, hb⟩)
  go_ret2
  exact ⟨rfl, ((Below.refl _ _).alloc (Nat.le_refl _) _).trans (hb.mono (by simp))⟩
set_option maxHeartbeats 800000 in
theorem refRead_down (p n : Int) (hs : s ≤ 100000) (hi : Inside s p n) :
    Calls Try.prog 26 #[.agg #[.slice A s c, .int .i64 nw, .int .i64 fu, .slice K k kc, .bool true], .int .i64 p, .int .i64 n] w fun e w' => e = .returned (.tuple #[.slice none 0 0, .int .i64 4]) ∧ Below w.heap.size w w' := by
  have IN := Lib.hid (fun W => inside_yes A s c nw fu K k kc true W p n hs hi)
  clear hi
  go_enter Try.func26, Try.ntmps26
  go_wp2_with (go_at_call 31; refine (IN.out _).mono ?_; rintro e w1 ⟨rfl, hb⟩; have c4 := (hb.cell (p := ⟨w.heap.size, 4, none⟩) (by simp)).trans (cell_of_row _ _ 4 _ _ _ (heap_alloc_new w _)); have HB := Lib.hid hb; clear hb)
  go_ret2
  exact ⟨rfl, ((Below.refl _ _).alloc (Nat.le_refl _) _).trans (HB.out.mono (by simp))⟩
/-- What the reference's Read returns. -/
def RefRead (X : Nat → Prop) (w : World) (L : List Int) (n : Nat) (e : Ending) (w' : World) : Prop :=
  ∃ A c, e = .returned (.tuple #[.slice A n c, .int .i64 0]) ∧ Lz X w 64 A n (flat L) ∧ Below w.heap.size w w'
set_option maxHeartbeats 800000 in
theorem refRead_ok (X : Nat → Prop) (S : List Int) (p n : Nat) (hA : Lz X w 64 A S.length (flat S)) (hc : S.length ≤ c) (hs : S.length ≤ 100000) (hp : p < S.length) (hi : p + n ≤ S.length) :
    Calls Try.prog 26 #[.agg #[.slice A S.length c, .int .i64 nw, .int .i64 fu, .slice K k kc, .bool false], .int .i64 p, .int .i64 n] w (RefRead X w ((S.drop p).take n) n) := by
  have IN := Lib.hid (fun W => inside_yes A S.length c nw fu K k kc false W p n hs (by unfold Inside; omega))
  obtain ⟨b, o, rfl, hx, hb0, hr⟩ := hA.spot (by omega)
  have HA := Lib.hid hA
  clear hA hr
  go_enter Try.func26, Try.ntmps26
  go_wp2_with (go_at_call 31; refine (IN.out _).mono ?_; rintro e w1 ⟨rfl, hb⟩; have c4 := (hb.cell (p := ⟨w.heap.size, 4, none⟩) (by simp)).trans (cell_of_row _ _ 4 _ _ _ (heap_alloc_new w _)); have c0 := (hb.cell (p := ⟨w.heap.size, 0, none⟩) (by simp)).trans (cell_of_row _ _ 0 _ _ _ (heap_alloc_new w _)); have HB := Lib.hid hb; clear hb)
  all_goals
    rw [Nat.add_sub_cancel_left]
    go_ret2
    refine ⟨_, _, rfl, ?_, ((Below.refl _ _).alloc (Nat.le_refl _) _).trans (HB.out.mono (by simp))⟩
    have h1 := HA.out.tail (k := p) (by omega) (some ⟨b, o + p * 64, none⟩) (fun _ => by simp [add_plain])
    have h2 := h1.head (k := n) (by omega)
    rw [flat_drop, flat_take] at h2
    exact h2
end
end Go.Proofs.Ytggcfbglfmcdmaa
