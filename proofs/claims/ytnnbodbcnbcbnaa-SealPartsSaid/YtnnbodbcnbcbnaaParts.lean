/-
  The walk of the law SealParts.
  Conditions: none.
-/
import Derived.Test.YtnnbodbcnbcbnaaFrame
namespace Go.Proofs.Ytnnbodbcnbcbnaa
open Go.RowKit
open Crc (regI)

theorem parts_big (A : Option Addr) (n c : Nat) (x : Int) (w : World) (hb : 2000 < n) (hm : n ≤ 9223372036854775807) :
    Calls Try.prog 4 #[.slice A n c, .int .u16 x] w fun e w' => e = .returned (.bool true) ∧ Below w.heap.size w w' := by
  go_enter Try.func4, Try.ntmps4
  go_wp2_with (go_at_call 7; refine (works_any _).mono ?_; rintro e w' ⟨rfl, hb⟩)
  go_ret
  exact ⟨rfl, hb⟩

theorem parts_eq (l : List UInt8) (k : Nat) : goN (Crc.sumN (l.take k)) (l.drop k) = Crc.sumN l := by
  unfold goN Crc.sumN
  rw [Crc.ones_xor_self, ← Crc.reg_append, List.take_append_drop]
theorem goN_nil (s : Nat) : goN s [] = s := Crc.ones_xor_self s
theorem go_nil (s : Nat) (w : World) (hs : s < 2 ^ 32) : Calls Try.prog 10 #[.int .u32 (regI s), .slice none 0 0] w fun e w' => e = .returned (.int .u32 (regI s)) ∧ Below w.heap.size w w' := by
  have h := go_any w.heap.size 0 0 s none [] w hs Lies.empty (Nat.le_refl _) (by omega)
  rw [goN_nil] at h
  exact h

set_option maxHeartbeats 2000000 in
theorem parts_in (A : Option Addr) (n c x k : Nat) (l : List UInt8) (w : World) (h : Lies w w.heap.size 1 A n (BC l)) (hn : n ≤ 2000) (hc : n ≤ c) (hx : x < 65536) (hk : x % (n + 1) = k) :
    Calls Try.prog 4 #[.slice A n c, .int .u16 (x : Int)] w fun e w' => e = .returned (.bool true) ∧ Below w.heap.size w w' := by
  have hkn : k ≤ n := by have := Nat.mod_lt x (show n + 1 > 0 by omega); omega
  have H := Lib.hid h
  have HM := Lib.hid (show Lies w w.heap.size 1 A k (BC (l.take k)) by rw [← BC_take]; exact h.head (by omega))
  have HT := Lib.hid (show Lies w w.heap.size 1 (tailA A c k) (n - k) (BC (l.drop k)) by rw [← BC_drop]; exact h.tailA (k := k) (by omega) hc)
  have rt := fun W => run_tail (P := Try.prog) 22 5 Try.underlying22 u8_size A n c k (by omega) W
  have rh := fun W => run_head (P := Try.prog) 22 5 Try.underlying22 u8_size A n c k (by omega) W
  have hk1 : (x : Int) % ((n : Int) + 1) = k := by rw [← hk]; exact (Int.natCast_emod x (n + 1)).symm
  have d1 : decide ((2000 : Int) < (n : Int)) = false := by simp; omega
  have hbeq : (regI (Crc.sumN l) == regI (Crc.sumN l)) = true := beq_self_eq_true _
  clear h hk
  go_enter Try.func4, Try.ntmps4
  go_wp2_with fail
  refine wp_region_held_drew (S := fun _ => True) (by kernel_rfl) trivial (fun hS => ?_)
  refine takeH (i := 0) (d := 16) (v := ?vb0) rfl (by kernel_rfl) (by kernel_rfl) (by kernel_rfl) (fun _ _ _ h => h) rfl (by rfl) ?yb0 hS ?rb0
  case yb0 => (intro wz _; go_simp <;> with_reducible rfl)
  simp only [List.setIfInBounds_toArray, List.set_cons_zero, List.set_cons_succ]
  refine takeH (i := 1) (d := 17) (v := ?vb1) rfl (by kernel_rfl) (by kernel_rfl) (by kernel_rfl) (fun _ _ _ h => h) rfl (by rfl) ?yb1 hS ?rb1
  case yb1 => (intro wz _; go_simp <;> with_reducible rfl)
  simp only [List.setIfInBounds_toArray, List.set_cons_zero, List.set_cons_succ]
  refine takeH (i := 2) (d := 18) (v := ?vb2) rfl (by kernel_rfl) (by kernel_rfl) (by kernel_rfl) (fun _ _ _ h => h) rfl (by rfl) ?yb2 hS ?rb2
  case yb2 => (intro wz _; go_simp <;> with_reducible rfl)
  simp only [List.setIfInBounds_toArray, List.set_cons_zero, List.set_cons_succ]
  refine takeH (i := 4) (d := 20) (v := ?vb4) rfl (by kernel_rfl) (by kernel_rfl) (by kernel_rfl) (fun _ _ _ h => h) rfl (by rfl) ?yb4 hS ?rb4
  case yb4 => (intro wz _; go_simp <;> with_reducible rfl)
  simp only [List.setIfInBounds_toArray, List.set_cons_zero, List.set_cons_succ]
  refine takeH (i := 5) (d := 21) (v := ?vb5) rfl (by kernel_rfl) (by kernel_rfl) (by kernel_rfl) (fun _ _ _ h => h) rfl (by rfl) ?yb5 hS ?rb5
  case yb5 => (intro wz _; go_simp <;> with_reducible rfl)
  simp only [List.setIfInBounds_toArray, List.set_cons_zero, List.set_cons_succ]
  refine takeH (i := 6) (d := 22) (v := ?vb6) rfl (by kernel_rfl) (by kernel_rfl) (by kernel_rfl) (fun _ _ _ h => h) rfl (by rfl) ?yb6 hS ?rb6
  case yb6 => (intro wz _; go_simp <;> with_reducible rfl)
  simp only [List.setIfInBounds_toArray, List.set_cons_zero, List.set_cons_succ]
  refine takeH (i := 8) (d := 24) (v := ?vb8) rfl (by kernel_rfl) (by kernel_rfl) (by kernel_rfl) (fun _ _ _ h => h) rfl (by rfl) ?yb8 hS ?rb8
  case yb8 => (intro wz _; go_simp <;> with_reducible rfl)
  simp only [List.setIfInBounds_toArray, List.set_cons_zero, List.set_cons_succ]
  refine wpAnyH_ready (rs := [3]) (by kernel_rfl) (by simp) ?_
  refine AllReadyH.cons rfl (fun K hK => ?_) AllReadyH.nil
  go_simp
  refine (sum_any w.heap.size k c A (l.take k) _ (HM.out.under (Below.refl _ _).drew) (Nat.le_refl _) (by omega)).mono ?_
  rintro e w1 ⟨rfl, hb1⟩
  have B1 := Lib.hid ((Below.refl w.heap.size w).drew.trans hb1)
  clear hb1
  refine hK.out _ _ trivial (fun hS => ?_)
  clear hK
  refine wpAnyH_ready (rs := [7]) (by kernel_rfl) (by simp) ?_
  refine AllReadyH.cons rfl (fun K hK => ?_) AllReadyH.nil
  go_simp
  refine (go_any w.heap.size (n - k) (c - k) (Crc.sumN (l.take k)) _ (l.drop k) w1 (Crc.sumN_lt _) (HT.out.under B1.out) B1.out.size (by omega)).mono ?_
  rintro e w2 ⟨rfl, hb2⟩
  rw [parts_eq]
  have B2 := Lib.hid (B1.out.trans (hb2.mono B1.out.size))
  clear hb2
  refine hK.out _ _ trivial (fun hS => ?_)
  clear hK
  refine wpAnyH_ready (rs := [9]) (by kernel_rfl) (by simp) ?_
  refine AllReadyH.cons rfl (fun K hK => ?_) AllReadyH.nil
  go_simp
  refine (sum_any w.heap.size n c A l w2 (H.out.under B2.out) B2.out.size (by omega)).mono ?_
  rintro e w3 ⟨rfl, hb3⟩
  have B3 := Lib.hid (B2.out.trans (hb3.mono B2.out.size))
  clear hb3
  refine hK.out _ _ trivial (fun hS => ?_)
  clear hK
  refine takeH (i := 10) (d := 26) (v := ?vb10) rfl (by kernel_rfl) (by kernel_rfl) (by kernel_rfl) (fun _ _ _ h => h) rfl (by rfl) ?yb10 hS ?rb10
  case yb10 => (intro wz _; go_simp <;> with_reducible rfl)
  simp only [List.setIfInBounds_toArray, List.set_cons_zero, List.set_cons_succ]
  refine takeH (i := 11) (d := 27) (v := ?vb11) rfl (by kernel_rfl) (by kernel_rfl) (by kernel_rfl) (fun _ _ _ h => h) rfl (by rfl) ?yb11 hS ?rb11
  case yb11 => (intro wz _; go_simp <;> with_reducible rfl)
  simp only [List.setIfInBounds_toArray, List.set_cons_zero, List.set_cons_succ]
  refine takeH (i := 12) (d := 28) (v := ?vb12) rfl (by kernel_rfl) (by kernel_rfl) (by kernel_rfl) (fun _ _ _ h => h) rfl (by rfl) ?yb12 hS ?rb12
  case yb12 => (intro wz _; go_simp <;> with_reducible rfl)
  simp only [List.setIfInBounds_toArray, List.set_cons_zero, List.set_cons_succ]
  refine takeH (i := 15) (d := 31) (v := ?vb15) rfl (by kernel_rfl) (by kernel_rfl) (by kernel_rfl) (fun _ _ _ h => h) rfl (by rfl) ?yb15 hS ?rb15
  case yb15 => (intro wz _; go_simp <;> with_reducible rfl)
  simp only [List.setIfInBounds_toArray, List.set_cons_zero, List.set_cons_succ]
  refine wpAnyH_ready (rs := [13]) (by kernel_rfl) (by simp) ?_
  refine AllReadyH.cons rfl (fun K hK => ?_) AllReadyH.nil
  go_simp
  refine (sum_any w.heap.size n c A l w3 (H.out.under B3.out) B3.out.size (by omega)).mono ?_
  rintro e w4 ⟨rfl, hb4⟩
  have B4 := Lib.hid (B3.out.trans (hb4.mono B3.out.size))
  clear hb4
  refine hK.out _ _ trivial (fun hS => ?_)
  clear hK
  refine wpAnyH_ready (rs := [14]) (by kernel_rfl) (by simp) ?_
  refine AllReadyH.cons rfl (fun K hK => ?_) AllReadyH.nil
  go_simp
  refine (go_nil (Crc.sumN l) w4 (Crc.sumN_lt _)).mono ?_
  rintro e w5 ⟨rfl, hb5⟩
  have B5 := Lib.hid (B4.out.trans (hb5.mono B4.out.size))
  clear hb5
  refine hK.out _ _ trivial (fun hS => ?_)
  clear hK
  refine wpAnyH_ready (rs := [16]) (by kernel_rfl) (by simp) ?_
  refine AllReadyH.cons rfl (fun K hK => ?_) AllReadyH.nil
  go_simp
  refine (sum_any w.heap.size n c A l w5 (H.out.under B5.out) B5.out.size (by omega)).mono ?_
  rintro e w6 ⟨rfl, hb6⟩
  have B6 := Lib.hid (B5.out.trans (hb6.mono B5.out.size))
  clear hb6
  refine hK.out _ _ trivial (fun hS => ?_)
  clear hK
  refine takeH (i := 17) (d := 33) (v := ?vb17) rfl (by kernel_rfl) (by kernel_rfl) (by kernel_rfl) (fun _ _ _ h => h) rfl (by rfl) ?yb17 hS ?rb17
  case yb17 => (intro wz _; go_simp <;> with_reducible rfl)
  simp only [List.setIfInBounds_toArray, List.set_cons_zero, List.set_cons_succ]
  refine takeH (i := 18) (d := 34) (v := ?vb18) rfl (by kernel_rfl) (by kernel_rfl) (by kernel_rfl) (fun _ _ _ h => h) rfl (by rfl) ?yb18 hS ?rb18
  case yb18 => (intro wz _; go_simp <;> with_reducible rfl)
  simp only [List.setIfInBounds_toArray, List.set_cons_zero, List.set_cons_succ]
  refine takeH (i := 19) (d := 35) (v := ?vb19) rfl (by kernel_rfl) (by kernel_rfl) (by kernel_rfl) (fun _ _ _ h => h) rfl (by rfl) ?yb19 hS ?rb19
  case yb19 => (intro wz _; go_simp <;> with_reducible rfl)
  simp only [List.setIfInBounds_toArray, List.set_cons_zero, List.set_cons_succ]
  refine wpAnyH_ready (rs := [20]) (by kernel_rfl) (by simp) ?_
  refine AllReadyH.cons rfl (fun K hK => ?_) AllReadyH.nil
  go_simp
  refine (works_any w6).mono ?_
  rintro e w7 ⟨rfl, hb7⟩
  have B7 := Lib.hid (B6.out.trans (hb7.mono B6.out.size))
  clear hb7
  refine hK.out _ _ trivial (fun hS => ?_)
  clear hK
  refine takeH (i := 21) (d := 37) (v := ?vb21) rfl (by kernel_rfl) (by kernel_rfl) (by kernel_rfl) (fun _ _ _ h => h) rfl (by rfl) ?yb21 hS ?rb21
  case yb21 => (intro wz _; go_simp <;> with_reducible rfl)
  simp only [List.setIfInBounds_toArray, List.set_cons_zero, List.set_cons_succ]
  refine takeH (i := 22) (d := 4) (v := ?vb22) rfl (by kernel_rfl) (by kernel_rfl) (by kernel_rfl) (fun _ _ _ h => h) rfl (by rfl) ?yb22 hS ?rb22
  case yb22 => (intro wz _; go_simp <;> with_reducible rfl)
  simp only [List.setIfInBounds_toArray, List.set_cons_zero, List.set_cons_succ]
  refine wpAnyH_done (by kernel_rfl) ?_ _
  go_wp2_with fail
  go_ret
  exact ⟨rfl, B7.out⟩

theorem parts_any (A : Option Addr) (n c : Nat) (z : List Int) (x : Int) (w : World) (w0 : IsRow .u8 w A n c z) (w1 : (Lit.int .u16 x).wf = true) :
    Calls Try.prog 4 #[.slice A n c, .int .u16 x] w fun e w' => e = .returned (.bool true) ∧ Below w.heap.size w w' := by
  obtain ⟨l, h, hc, hm⟩ := bytes_of_row w0
  unfold maxLen at hm
  by_cases hb : 2000 < n
  · exact parts_big A n c x w hb (by omega)
  · simp [Lit.wf, IntKind.min, IntKind.max, IntKind.bits, IntKind.signed] at w1
    obtain ⟨y, rfl⟩ : ∃ y : Nat, x = y := ⟨x.toNat, by omega⟩
    exact parts_in A n c y _ l w h (by omega) hc (by omega) rfl
end Go.Proofs.Ytnnbodbcnbcbnaa
