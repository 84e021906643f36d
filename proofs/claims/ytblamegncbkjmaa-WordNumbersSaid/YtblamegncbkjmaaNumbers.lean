/-
  The walk of the law WordNumbers: it returns true, and writes nothing that was there.
  Conditions: none.
-/
import Derived.Test.YtblamegncbkjmaaFrame
namespace Go.Proofs.Ytblamegncbkjmaa
open Go.RowKit

set_option maxHeartbeats 400000 in
theorem numbers_big (A0 A3 : Option Addr) (n0 c0 n3 c3 : Nat) (n s : Int) (w : World) (h : 300 < n0 ∨ 100 < s ∨ 300 < n3) (hn0 : n0 ≤ 9223372036854775807) (hn3 : n3 ≤ 9223372036854775807) :
    Calls Try.prog 3 #[.slice A0 n0 c0, .int .u64 n, .int .i64 s, .slice A3 n3 c3] w fun e w' => e = .returned (.bool true) ∧ Below w.heap.size w w' := by
  by_cases h0 : 300 < n0
  · have d0 : decide (300 < n0) = true := by simpa using h0
    clear h
    go_enter Try.func3, Try.ntmps3
    go_wp2_with (go_at_call 7; refine (works_any _).mono ?_; rintro e w' ⟨rfl, hb⟩)
    go_ret
    exact ⟨rfl, hb⟩
  · have d0 : decide (300 < n0) = false := by simpa using h0
    by_cases h1 : 100 < s
    · clear h
      go_enter Try.func3, Try.ntmps3
      go_wp2_with (go_at_call 7; refine (works_any _).mono ?_; rintro e w' ⟨rfl, hb⟩)
      go_ret
      exact ⟨rfl, hb⟩
    · have h2 : 300 < n3 := by omega
      have d2 : decide (300 < n3) = true := by simpa using h2
      clear h
      go_enter Try.func3, Try.ntmps3
      go_wp2_with (go_at_call 7; refine (works_any _).mono ?_; rintro e w' ⟨rfl, hb⟩)
      go_ret
      exact ⟨rfl, hb⟩

set_option maxHeartbeats 1000000 in
theorem numbers_ok (A0 A3 : Option Addr) (n0 c0 n3 c3 n : Nat) (s : Int) (l0 l3 : List UInt8) (w : World) (h0 : Lies w w.heap.size 1 A0 n0 (BC l0)) (h3 : Lies w w.heap.size 1 A3 n3 (BC l3))
    (hn0 : n0 ≤ 300) (hs : s ≤ 100) (hlo : -9223372036854775808 ≤ s) (hn3 : n3 ≤ 300) (hn : n < 18446744073709551616) :
    Calls Try.prog 3 #[.slice A0 n0 c0, .int .u64 n, .int .i64 s, .slice A3 n3 c3] w fun e w' => e = .returned (.bool true) ∧ Below w.heap.size w w' := by
  obtain ⟨i0, hi0, hz0, hz1, hz2⟩ := info_parts u8_info
  have H0 := Lib.hid h0
  have H3 := Lib.hid h3
  clear h0 h3
  have d0 : decide ((300 : Int) < (n0 : Int)) = false := by simp; omega
  have d1 : decide (100 < s) = false := by simp; omega
  have d2 : decide ((300 : Int) < (n3 : Int)) = false := by simp; omega
  have hl0 : l0.length = n0 := by have := H0.out.len; rw [BC_length] at this; omega
  have HL0 := Lib.hid hl0
  clear hl0
  go_enter Try.func3, Try.ntmps3
  go_wp2_with (first
    | (at_builtin; refine wpList_app _ rfl (.tmp 23) (.tmp 24) _ rfl w.heap.size 5 i0 _ 1 1 Try.underlying22 hi0 hz0 hz1 hz2 rfl (by omega) _ 0 [] rfl (World.ownsRow_nil w _ _ _) w.heap.size _ _ _ (BC l0) rfl H0.out (BC_one l0) (by simp only [maxLen]; omega) (by omega) (Nat.le_refl _) ?_
       intro v1 w1 ho1 hg1; have O1 := Lib.hid ho1; clear ho1; have B1 := below_own (Below.refl w.heap.size w) (World.ownsRow_nil w w.heap.size 5 1) hg1 (Nat.le_refl _) (Nat.le_refl _); have s1 := B1.size; clear hg1))
  refine (refPut_any 100 n s w1 hs hlo (Nat.le_refl _) hn).mono ?_
  rintro e w2 ⟨A2, c2, rfl, ho2, hb2⟩
  have hlen := putL_length s.toNat n
  rw [hlen] at ho2 ⊢
  clear hlen
  have L2 := Lib.hid (Lies.of_own ho2)
  have O2 := Lib.hid (own_under O1.out hb2 (Nat.le_refl _))
  have B2 := B1.trans (hb2.mono s1)
  have s2 := B2.size
  clear ho2 hb2 O1 B1
  go_wp2_with (at_builtin; refine wpList_app _ rfl (.tmp 25) (.tmp 28) _ rfl w.heap.size 5 i0 _ 1 1 Try.underlying22 hi0 hz0 hz1 hz2 rfl (by omega) _ _ _ rfl O2.out w2.heap.size _ _ _ _ rfl L2.out (BC_one _) (by simp only [maxLen]; omega) (by omega) s2 ?_; intro v3 w3 ho3 hg3; obtain ⟨A3', c3', rfl, _, _⟩ := own_slice ho3; have L3 := Lib.hid (Lies.of_own ho3); have B3 := below_own B2 O2.out hg3 (Nat.le_refl _) s2; have s3 := B3.size; clear hg3 ho3 O2 B2 L2)
  refine (put_any w.heap.size n0 c0 n A0 l0 s w3 (H0.out.under B3) s3 (by omega) hn hs hlo).mono ?_
  rintro e w4 ⟨A4, c4, rfl, ho4, hb4⟩
  have e4 : (l0 ++ putL n s.toNat).length = n0 + s.toNat := by rw [List.length_append, putL_length, HL0.out]
  rw [e4] at ho4 ⊢
  clear e4
  have L4 := Lib.hid (Lies.of_own ho4)
  have M4 := Lib.hid (L3.out.under hb4)
  have B4 := B3.trans (hb4.mono s3)
  have s4 := B4.size
  clear ho4 hb4 L3 B3
  go_wp2_with fail
  have M5 : Lies w4 w3.heap.size 1 A3' (n0 + s.toNat) (BC (l0 ++ putL n s.toNat)) := by
    rw [BC_append]
    have := M4.out
    rwa [Nat.zero_add, List.nil_append] at this
  refine (same_any _ _ _ _ _ _ _ _ _ _ w4 L4.out M5).mono ?_
  rintro e w5 ⟨rfl, rfl⟩
  rw [beq_self_eq_true]
  clear M5 M4 L4
  go_wp2_with (first
    | (go_at_call 11; refine (get_any w.heap.size n3 c3 A3 l3 w4 (H3.out.under B4) (by omega)).mono ?_; rintro e w' ⟨rfl, rfl⟩)
    | (go_at_call 12; refine (refGet_any w.heap.size n3 c3 A3 l3 w4 (H3.out.under B4) (by omega)).mono ?_; rintro e w' ⟨rfl, rfl⟩)
    | (go_at_call 7; refine (works_any w4).mono ?_; rintro e w6 ⟨rfl, hb6⟩))
  go_ret
  exact ⟨rfl, B4.trans (hb6.mono s4)⟩

/-- The law's call, at whatever came in. -/
theorem numbers_any (A0 A3 : Option Addr) (n0 c0 n3 c3 : Nat) (n s : Int) (z0 z3 : List Int) (w : World) (w0 : IsRow .u8 w A0 n0 c0 z0) (w1 : (Lit.int .u64 n).wf = true) (w2 : (Lit.int .i64 s).wf = true) (w3 : IsRow .u8 w A3 n3 c3 z3) :
    Calls Try.prog 3 #[.slice A0 n0 c0, .int .u64 n, .int .i64 s, .slice A3 n3 c3] w fun e w' => e = .returned (.bool true) ∧ Below w.heap.size w w' := by
  obtain ⟨l0, h0, hc0, hm0⟩ := bytes_of_row w0
  obtain ⟨l3, h3, hc3, hm3⟩ := bytes_of_row w3
  unfold maxLen at hm0 hm3
  by_cases h : 300 < n0 ∨ 100 < s ∨ 300 < n3
  · exact numbers_big A0 A3 n0 c0 n3 c3 n s w h (by omega) (by omega)
  · simp [Lit.wf, IntKind.min, IntKind.max, IntKind.bits, IntKind.signed] at w1 w2
    obtain ⟨k, rfl⟩ : ∃ k : Nat, n = k := ⟨n.toNat, by omega⟩
    exact numbers_ok A0 A3 n0 c0 n3 c3 k s l0 l3 w h0 h3 (by omega) (by omega) (by omega) (by omega) (by omega)
end Go.Proofs.Ytblamegncbkjmaa
