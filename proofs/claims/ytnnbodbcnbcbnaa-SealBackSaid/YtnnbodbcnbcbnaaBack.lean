/-
  The walk of the law SealBack.
  Conditions: none.
-/
import Derived.Test.YtnnbodbcnbcbnaaFrame
namespace Go.Proofs.Ytnnbodbcnbcbnaa
open Go.RowKit
open Crc (regI)

theorem back_big (A : Option Addr) (n c : Nat) (w : World) (hb : 2000 < n) (hm : n ≤ 9223372036854775807) :
    Calls Try.prog 5 #[.slice A n c] w fun e w' => e = .returned (.bool true) ∧ Below w.heap.size w w' := by
  go_enter Try.func5, Try.ntmps5
  go_wp2_with (go_at_call 7; refine (works_any _).mono ?_; rintro e w' ⟨rfl, hb⟩)
  go_ret
  exact ⟨rfl, hb⟩

theorem sealL_take (l : List UInt8) : (sealL l).take l.length = l := by simp [sealL]
theorem sealL_drop (l : List UInt8) : (sealL l).drop l.length = Crc.le4 (Crc.sumN l) := by simp [sealL]
theorem sealL_is (l : List UInt8) (m : Nat) (hm : m ≤ l.length) : (sealL (l.take m) == l) = (l.drop m == Crc.le4 (Crc.sumN (l.take m))) := by
  rw [Bool.eq_iff_iff, beq_iff_eq, beq_iff_eq]
  unfold sealL
  constructor
  · intro h
    have := congrArg (List.drop (l.take m).length) h
    rw [List.drop_left, List.length_take, Nat.min_eq_left hm] at this
    exact this.symm
  · intro h
    rw [← h, List.take_append_drop]

set_option maxHeartbeats 2000000 in
theorem back_short (A : Option Addr) (n c : Nat) (l : List UInt8) (w : World) (h : Lies w w.heap.size 1 A n (BC l)) (hn : n < 4) :
    Calls Try.prog 5 #[.slice A n c] w fun e w' => e = .returned (.bool true) ∧ Below w.heap.size w w' := by
  have hl : l.length = n := by have := h.len; rw [BC_length] at this; omega
  have HL := Lib.hid hl
  have H := Lib.hid h
  have d1 : decide ((2000 : Int) < (n : Int)) = false := by simp; omega
  have d2 : decide ((4 : Int) ≤ (n : Int)) = false := by simp; omega
  have d3 : decide (4 ≤ n) = false := by simp; omega
  clear h hl
  go_enter Try.func5, Try.ntmps5
  go_wp2_with fail
  refine (put_any w.heap.size n c A l w H.out (Nat.le_refl _) (by omega)).mono ?_
  rintro e w1 ⟨A1, c1, rfl, ho1, hb1⟩
  rw [sealL_length, HL.out] at ho1 ⊢
  have L1 := Lib.hid (Lies.of_own ho1)
  have k1 := (own_cap ho1).1
  have s1 := hb1.size
  clear ho1
  go_wp2_with fail
  refine (get_long n c1 A1 (sealL l) w1 true L1.out (by omega) k1 (by rw [← HL.out, sealL_take, sealL_drop, beq_self_eq_true])).mono ?_
  rintro e w2 ⟨A2, c2, rfl, ho2, hb2⟩
  have e2 : (sealL l).take n = l := by rw [← HL.out]; exact sealL_take l
  rw [e2, HL.out] at ho2 ⊢
  clear e2
  have L2 := Lib.hid (Lies.of_own ho2)
  have M1 := Lib.hid (L1.out.under hb2)
  have B2 := hb1.trans (hb2.mono s1)
  have s2 := hb2.size
  clear ho2 hb1 hb2 L1
  go_wp2_with fail
  refine (refPut_any w.heap.size n c A l w2 (H.out.under B2) B2.size (by omega)).mono ?_
  rintro e w3 ⟨A3, c3, rfl, ho3, hb3⟩
  rw [sealL_length, HL.out] at ho3 ⊢
  have L3 := Lib.hid (Lies.of_own ho3)
  have M3 := Lib.hid (M1.out.under (hb3.mono s2))
  have N3 := Lib.hid (L2.out.under hb3)
  have B3 := B2.trans (hb3.mono B2.size)
  have s3 := hb3.size
  clear ho3 hb3 M1 L2 B2
  go_wp2_with fail
  refine (same_any _ _ _ _ _ _ _ _ _ _ w3 M3.out L3.out).mono ?_
  rintro e w' ⟨rfl, rfl⟩
  rw [beq_self_eq_true]
  go_wp2_with fail
  refine (same_any _ _ _ _ _ _ _ _ _ _ w3 N3.out (H.out.under B3)).mono ?_
  rintro e w' ⟨rfl, rfl⟩
  rw [beq_self_eq_true]
  clear M3 N3 L3
  go_wp2_with fail
  refine (get_short n c A w3 hn).mono ?_
  rintro e w4 ⟨rfl, hb4⟩
  have B4 := B3.trans (hb4.mono B3.size)
  clear hb4 B3
  go_wp2_with fail
  refine (works_any _).mono ?_
  rintro e w5 ⟨rfl, hb5⟩
  go_wp2_with fail
  go_ret
  exact ⟨rfl, B4.trans (hb5.mono B4.size)⟩
set_option maxHeartbeats 2000000 in
theorem back_long (A : Option Addr) (m c : Nat) (l : List UInt8) (w : World) (z : Bool) (h : Lies w w.heap.size 1 A (m + 4) (BC l)) (hn : m + 4 ≤ 2000) (hc : m + 4 ≤ c)
    (hz : (l.drop m == Crc.le4 (Crc.sumN (l.take m))) = z) :
    Calls Try.prog 5 #[.slice A (m + 4) c] w fun e w' => e = .returned (.bool true) ∧ Below w.heap.size w w' := by
  have hl : l.length = m + 4 := by have := h.len; rw [BC_length] at this; omega
  have HL := Lib.hid hl
  have H := Lib.hid h
  have HZ := Lib.hid hz
  have HS := Lib.hid ((sealL_is l m (by omega)).trans hz)
  have LT := Lib.hid (show (l.take m).length = m by rw [List.length_take]; omega)
  have HM := Lib.hid (show Lies w w.heap.size 1 A m (BC (l.take m)) by rw [← BC_take]; exact h.head (by omega))
  have rh := fun W => run_head (P := Try.prog) 22 5 Try.underlying22 u8_size A (m + 4) c m (by omega) W
  have d1 : decide ((2000 : Int) < ((m + 4 : Nat) : Int)) = false := by simp; omega
  have d2 : decide ((2000 : Int) < (m : Int) + 4) = false := by simp; omega
  have d3 : (max (m : Int) 0) = m := by omega
  clear h hl hz
  go_enter Try.func5, Try.ntmps5
  go_wp2_with fail
  refine (put_any w.heap.size (m + 4) c A l w H.out (Nat.le_refl _) (by omega)).mono ?_
  rintro e w1 ⟨A1, c1, rfl, ho1, hb1⟩
  rw [sealL_length, HL.out] at ho1 ⊢
  have L1 := Lib.hid (Lies.of_own ho1)
  have k1 := (own_cap ho1).1
  have s1 := hb1.size
  clear ho1
  go_wp2_with fail
  refine (get_long (m + 4) c1 A1 (sealL l) w1 true L1.out (by omega) k1 (by rw [← HL.out, sealL_take, sealL_drop, beq_self_eq_true])).mono ?_
  rintro e w2 ⟨A2, c2, rfl, ho2, hb2⟩
  have e2 : (sealL l).take (m + 4) = l := by rw [← HL.out]; exact sealL_take l
  rw [e2, HL.out] at ho2 ⊢
  clear e2
  have L2 := Lib.hid (Lies.of_own ho2)
  have M1 := Lib.hid (L1.out.under hb2)
  have B2 := hb1.trans (hb2.mono s1)
  have s2 := hb2.size
  clear ho2 hb1 hb2 L1
  go_wp2_with fail
  refine (refPut_any w.heap.size (m + 4) c A l w2 (H.out.under B2) B2.size (by omega)).mono ?_
  rintro e w3 ⟨A3, c3, rfl, ho3, hb3⟩
  rw [sealL_length, HL.out] at ho3 ⊢
  have L3 := Lib.hid (Lies.of_own ho3)
  have M3 := Lib.hid (M1.out.under (hb3.mono s2))
  have N3 := Lib.hid (L2.out.under hb3)
  have B3 := B2.trans (hb3.mono B2.size)
  have s3 := hb3.size
  clear ho3 hb3 M1 L2 B2
  go_wp2_with fail
  refine (same_any _ _ _ _ _ _ _ _ _ _ w3 M3.out L3.out).mono ?_
  rintro e w' ⟨rfl, rfl⟩
  rw [beq_self_eq_true]
  go_wp2_with fail
  refine (same_any _ _ _ _ _ _ _ _ _ _ w3 N3.out (H.out.under B3)).mono ?_
  rintro e w' ⟨rfl, rfl⟩
  rw [beq_self_eq_true]
  clear M3 N3 L3
  go_wp2_with fail
  refine (get_long m c A l w3 z (Lies.up (H.out.under B3) B3.size) (by omega) hc HZ.out).mono ?_
  cases z with
  | false =>
    rintro e w4 ⟨rfl, hb4⟩
    have B4 := B3.trans (hb4.mono B3.size)
    clear hb4 B3
    go_wp2_with fail
    refine (refPut_any w.heap.size m c A (l.take m) w4 (HM.out.under B4) B4.size (by omega)).mono ?_
    rintro e w5 ⟨A5, c5, rfl, ho5, hb5⟩
    rw [sealL_length, LT.out] at ho5 ⊢
    have L5 := Lib.hid (Lies.of_own ho5)
    have B5 := B4.trans (hb5.mono B4.size)
    clear ho5 hb5 B4
    go_wp2_with fail
    refine (same_any _ _ _ _ _ _ _ _ _ _ w5 L5.out (H.out.under B5)).mono ?_
    rintro e w' ⟨rfl, rfl⟩
    rw [HS.out]
    go_wp2_with fail
    refine (works_any _).mono ?_
    rintro e w6 ⟨rfl, hb6⟩
    go_wp2_with fail
    go_ret
    exact ⟨rfl, B5.trans (hb6.mono B5.size)⟩
  | true =>
    rintro e w4 ⟨A4, c4, rfl, ho4, hb4⟩
    rw [LT.out] at ho4 ⊢
    have L4 := Lib.hid (Lies.of_own ho4)
    have B4 := B3.trans (hb4.mono B3.size)
    clear ho4 hb4 B3
    go_wp2_with fail
    refine (refPut_any w.heap.size m c A (l.take m) w4 (HM.out.under B4) B4.size (by omega)).mono ?_
    rintro e w5 ⟨A5, c5, rfl, ho5, hb5⟩
    rw [sealL_length, LT.out] at ho5 ⊢
    have L5 := Lib.hid (Lies.of_own ho5)
    have M5 := Lib.hid (L4.out.under hb5)
    have B5 := B4.trans (hb5.mono B4.size)
    clear ho5 hb5 B4 L4
    go_wp2_with fail
    refine (same_any _ _ _ _ _ _ _ _ _ _ w5 L5.out (H.out.under B5)).mono ?_
    rintro e w' ⟨rfl, rfl⟩
    rw [HS.out]
    go_wp2_with fail
    refine (same_any _ _ _ _ _ _ _ _ _ _ w5 M5.out (HM.out.under B5)).mono ?_
    rintro e w' ⟨rfl, rfl⟩
    rw [beq_self_eq_true]
    go_wp2_with fail
    refine (works_any _).mono ?_
    rintro e w6 ⟨rfl, hb6⟩
    go_wp2_with fail
    go_ret
    exact ⟨rfl, B5.trans (hb6.mono B5.size)⟩

theorem back_any (A : Option Addr) (n c : Nat) (z : List Int) (w : World) (w0 : IsRow .u8 w A n c z) :
    Calls Try.prog 5 #[.slice A n c] w fun e w' => e = .returned (.bool true) ∧ Below w.heap.size w w' := by
  obtain ⟨l, h, hc, hm⟩ := bytes_of_row w0
  unfold maxLen at hm
  by_cases hb : 2000 < n
  · exact back_big A n c w hb (by omega)
  · by_cases h4 : n < 4
    · exact back_short A n c l w h h4
    · obtain ⟨m, rfl⟩ : ∃ m, n = m + 4 := ⟨n - 4, by omega⟩
      exact back_long A m c l w _ h (by omega) hc rfl
end Go.Proofs.Ytnnbodbcnbcbnaa
