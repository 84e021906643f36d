/-
  The walk of the law WordStops: it returns true, and writes nothing that was there.
  Conditions: none.
-/
import Derived.Test.YtblamegncbkjmaaFrame
namespace Go.Proofs.Ytblamegncbkjmaa
open Go.RowKit

set_option maxHeartbeats 400000 in
theorem stops_out (A0 A2 : Option Addr) (n0 c0 n2 c2 : Nat) (far : Int) (w : World) (h : 300 < n0 ∨ 30 < n2 ∨ (0 ≤ far ∧ far ≤ n0)) (hn0 : n0 ≤ 9223372036854775807) (hn2 : n2 ≤ 9223372036854775807) :
    Calls Try.prog 6 #[.slice A0 n0 c0, .int .i64 far, .slice A2 n2 c2] w fun e w' => e = .returned (.bool true) ∧ Below w.heap.size w w' := by
  by_cases h0 : 300 < n0
  · have d0 : decide ((300 : Int) < (n0 : Int)) = true := by simp; omega
    clear h
    go_enter Try.func6, Try.ntmps6
    go_wp2_with (go_at_call 7; refine (works_any _).mono ?_; rintro e w' ⟨rfl, hb⟩)
    go_ret
    exact ⟨rfl, hb⟩
  · have d0 : decide ((300 : Int) < (n0 : Int)) = false := by simp; omega
    by_cases h1 : 30 < n2
    · have d1 : decide ((30 : Int) < (n2 : Int)) = true := by simp; omega
      clear h
      go_enter Try.func6, Try.ntmps6
      go_wp2_with (go_at_call 7; refine (works_any _).mono ?_; rintro e w' ⟨rfl, hb⟩)
      go_ret
      exact ⟨rfl, hb⟩
    · have d1 : decide ((30 : Int) < (n2 : Int)) = false := by simp; omega
      have h2 : 0 ≤ far := by omega
      have h3 : far ≤ n0 := by omega
      clear h
      go_enter Try.func6, Try.ntmps6
      go_wp2_with (go_at_call 7; refine (works_any _).mono ?_; rintro e w' ⟨rfl, hb⟩)
      go_ret
      exact ⟨rfl, hb⟩

def StopR (w : World) (g : Nat) (l0 : List UInt8) (n2 : Nat) (i : Value) (wr : World) : Prop :=
  ∃ k : Nat, i = .int .i64 k ∧ k ≤ n2 ∧ Hid (Rdr wr g l0 true) ∧ Hid (Below w.heap.size w wr)

set_option maxHeartbeats 1000000 in
theorem stops_in (A0 A2 : Option Addr) (n0 c0 n2 c2 : Nat) (far : Int) (l0 l2 : List UInt8) (w : World) (h0 : Lies w w.heap.size 1 A0 n0 (BC l0)) (h2 : Lies w w.heap.size 1 A2 n2 (BC l2))
    (hn0 : n0 ≤ 300) (hn2 : n2 ≤ 30) (hf : far < 0 ∨ (n0 : Int) < far) :
    Calls Try.prog 6 #[.slice A0 n0 c0, .int .i64 far, .slice A2 n2 c2] w fun e w' => e = .returned (.bool true) ∧ Below w.heap.size w w' := by
  have H0 := Lib.hid h0
  have H2 := Lib.hid h2
  clear h0 h2
  have hl0 : l0.length = n0 := by have := H0.out.len; rw [BC_length] at this; omega
  have hl2 : l2.length = n2 := by have := H2.out.len; rw [BC_length] at this; omega
  have HL0 := Lib.hid hl0
  have HL2 := Lib.hid hl2
  have hs0 : l0.length ≤ 300 := by omega
  clear hl0 hl2
  have d0 : decide ((300 : Int) < (n0 : Int)) = false := by simp; omega
  have d1 : decide ((30 : Int) < (n2 : Int)) = false := by simp; omega
  rcases hf with hf | hf
  all_goals
    go_enter Try.func6, Try.ntmps6
    go_wp2_with fail
    refine (read_any w.heap.size n0 c0 A0 l0 w H0.out (Nat.le_refl _) (by omega)).mono ?_
    rintro e w1 ⟨g, rfl, hg, hr, hb⟩
    have R1 := Lib.hid hr
    have B1 := Lib.hid hb
    have s1 := hb.size
    clear hr hb
    go_wp2_with fail
    refine (take_fail g l0 false far w1 R1.out (by omega) (.inr (by have := HL0.out; omega))).mono ?_
    rintro e w2 ⟨rfl, hr2, hg2⟩
    have R2 := Lib.hid hr2
    have B2 := Lib.hid (below_grown B1.out hg2 s1 hg)
    have s2 := B2.out.size
    clear hr2 hg2 R1 B1
    go_wp2_with (go_at_call 18; refine (right_any g l0 true w2 R2.out).mono ?_; rintro e w' ⟨rfl, rfl⟩)
    go_loopw [8] (fun i wr => StopR w g l0 n2 i wr) (fun i wr => n2 - (intOf i).toNat)
    case atStart => exact ⟨0, rfl, Nat.zero_le _, R2, B2⟩
    case round =>
      obtain ⟨k, rfl, hk, hR, hB⟩ := hrel
      by_cases hlt : k < n2
      · obtain ⟨a, u, rfl, hbl, hx, hc⟩ := (H2.out.under hB.out).get hlt
        have hkl : k < l2.length := by rw [HL2.out]; exact hlt
        rw [BC_get l2 k hkl] at hx
        injection hx with hx
        subst hx
        have hu := u8_lt l2[k]
        have hsB := hB.out.size
        go_wp2_with fail
        refine (num_fail g l0 true _ wr hR.out (by omega) (.inl rfl)).mono ?_
        rintro e w3 ⟨rfl, hr3, hg3⟩
        have R3 := Lib.hid hr3
        have B3 := Lib.hid (below_grown hB.out hg3 hsB hg)
        have s3 := B3.out.size
        clear hr3 hg3 hR hB
        go_wp2_with fail
        refine (rtext_fail g l0 true _ w3 R3.out (by omega) (.inl rfl)).mono ?_
        rintro e w4 ⟨rfl, hr4, hg4⟩
        have R4 := Lib.hid hr4
        have B4 := Lib.hid (below_grown B3.out hg4 s3 hg)
        have s4 := B4.out.size
        clear hr4 hg4 R3 B3
        have st : (strOf []).toList = [] := by rw [ByteArray.toList_eq]; rfl
        have st2 : (strOf []).toList.isEmpty = true := by rw [st]; rfl
        go_wp2_with fail
        refine (take_fail g l0 true _ w4 R4.out (by omega) (.inl rfl)).mono ?_
        rintro e w5 ⟨rfl, hr5, hg5⟩
        have R5 := Lib.hid hr5
        have B5 := Lib.hid (below_grown B4.out hg5 s4 hg)
        clear hr5 hg5 R4 B4 st st2
        have LE := Lib.hid (show ((l0.length : Int) != (n0 : Int)) = false by rw [HL0.out]; simp)
        go_wp2_with (first
          | (go_at_call 18; refine (right_any g l0 true w5 R5.out).mono ?_; rintro e w' ⟨rfl, rfl⟩)
          | (go_at_call 21; refine (noughts_any g l0 true w5 R5.out (by omega)).mono ?_; rintro e w' ⟨rfl, rfl⟩)
          | (go_at_call 20; refine (left_any g l0 true w5 R5.out).mono ?_; rintro e w' ⟨rfl, rfl⟩; have le := LE.out; clear LE))
        exact ⟨⟨k + 1, by go_num, by omega, R5, B5⟩, by simp [intOf]; omega⟩
      · go_wp2_with (go_at_call 7; refine (works_any _).mono ?_; rintro e w' ⟨rfl, hb⟩)
        go_ret
        exact ⟨rfl, hB.out.trans (hb.mono hB.out.size)⟩

/-- The law's call, at whatever came in. -/
theorem stops_any (A0 A2 : Option Addr) (n0 c0 n2 c2 : Nat) (far : Int) (z0 z2 : List Int) (w : World) (w0 : IsRow .u8 w A0 n0 c0 z0) (w2 : IsRow .u8 w A2 n2 c2 z2) :
    Calls Try.prog 6 #[.slice A0 n0 c0, .int .i64 far, .slice A2 n2 c2] w fun e w' => e = .returned (.bool true) ∧ Below w.heap.size w w' := by
  obtain ⟨l0, h0, hc0, hm0⟩ := bytes_of_row w0
  obtain ⟨l2, h2, hc2, hm2⟩ := bytes_of_row w2
  unfold maxLen at hm0 hm2
  by_cases h : 300 < n0 ∨ 30 < n2 ∨ (0 ≤ far ∧ far ≤ n0)
  · exact stops_out A0 A2 n0 c0 n2 c2 far w h (by omega) (by omega)
  · exact stops_in A0 A2 n0 c0 n2 c2 far l0 l2 w h0 h2 (by omega) (by omega) (by omega)
end Go.Proofs.Ytblamegncbkjmaa
