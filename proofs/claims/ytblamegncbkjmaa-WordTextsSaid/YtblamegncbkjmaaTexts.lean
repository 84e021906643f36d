/-
  The walk of the law WordTexts: it returns true, and writes nothing that was there.
  Conditions: none.
-/
import Derived.Test.YtblamegncbkjmaaFrame
import Derived.Test.YtblamegncbkjmaaIsText
namespace Go.Proofs.Ytblamegncbkjmaa
open Go.RowKit

set_option maxHeartbeats 400000 in
theorem texts_big (A0 A3 : Option Addr) (n0 c0 n3 c3 : Nat) (s : ByteArray) (k : Int) (w : World) (h : 300 < n0 ∨ 600 < s.size ∨ 300 < n3) (hn0 : n0 ≤ 9223372036854775807) (hn3 : n3 ≤ 9223372036854775807) (hs : s.size ≤ 9223372036854775807) :
    Calls Try.prog 4 #[.slice A0 n0 c0, .string s, .int .i64 k, .slice A3 n3 c3] w fun e w' => e = .returned (.bool true) ∧ Below w.heap.size w w' := by
  by_cases h0 : 300 < n0
  · have d0 : decide ((300 : Int) < (n0 : Int)) = true := by simp; omega
    clear h
    go_enter Try.func4, Try.ntmps4
    go_wp2_with (go_at_call 7; refine (works_any _).mono ?_; rintro e w' ⟨rfl, hb⟩)
    go_ret
    exact ⟨rfl, hb⟩
  · have d0 : decide ((300 : Int) < (n0 : Int)) = false := by simp; omega
    by_cases h1 : 600 < s.size
    · have d1 : decide ((600 : Int) < (s.size : Int)) = true := by simp; omega
      clear h
      go_enter Try.func4, Try.ntmps4
      go_wp2_with (go_at_call 7; refine (works_any _).mono ?_; rintro e w' ⟨rfl, hb⟩)
      go_ret
      exact ⟨rfl, hb⟩
    · have d1 : decide ((600 : Int) < (s.size : Int)) = false := by simp; omega
      have d2 : decide ((300 : Int) < (n3 : Int)) = true := by simp; omega
      clear h
      go_enter Try.func4, Try.ntmps4
      go_wp2_with (go_at_call 7; refine (works_any _).mono ?_; rintro e w' ⟨rfl, hb⟩)
      go_ret
      exact ⟨rfl, hb⟩

/-- The reader's Text over all bytes: what the field is, or an error. -/
theorem rtext_all (g : Nat) (l : List UInt8) (k : Nat) (w : World) (h : Rdr w g l false) (hl : l.length ≤ 1000) (hk : k = l.length) :
    Calls Try.prog 16 #[.pointer (some ⟨g, 0, none⟩), .int .i64 k] w (ReadText w g (fldS l) [] (!fldB l)) := by
  subst hk
  have e1 : l.take l.length = l := List.take_of_length_le (Nat.le_refl _)
  have e2 : l.drop l.length = [] := List.drop_of_length_le (Nat.le_refl _)
  cases hp : parseF l with
  | none =>
    have h1 := rtext_no g l l.length w h hl (Nat.le_refl _) (by rw [e1]; exact hp)
    rw [e2] at h1
    rw [fldS, fldB, hp]
    exact h1
  | some t =>
    have h1 := rtext_yes g l t l.length w h hl (Nat.le_refl _) (by rw [e1]; exact hp)
    rw [e2] at h1
    rw [fldS, fldB, hp]
    exact h1

set_option maxHeartbeats 1000000 in
theorem texts_err (A0 A3 : Option Addr) (n0 c0 n3 c3 : Nat) (s : ByteArray) (k code : Int) (l3 : List UInt8) (w : World) (h3 : Lies w w.heap.size 1 A3 n3 (BC l3)) (hc3 : n3 ≤ c3) (hm3 : c3 ≤ maxLen)
    (hn0 : n0 ≤ 300) (hs : s.size ≤ 600) (hn3 : n3 ≤ 300) (hcode : (code == 0) = false)
    (t1 : ∀ W : World, Calls Try.prog 13 #[.slice A0 n0 c0, .string s, .int .i64 k] W fun e w' => e = .returned (.tuple #[.slice none 0 0, .int .i64 code]) ∧ W = w')
    (t2 : ∀ W : World, Calls Try.prog 14 #[.string s, .int .i64 k] W fun e w' => e = .returned (.tuple #[.slice none 0 0, .int .i64 code]) ∧ W = w') :
    Calls Try.prog 4 #[.slice A0 n0 c0, .string s, .int .i64 k, .slice A3 n3 c3] w fun e w' => e = .returned (.bool true) ∧ Below w.heap.size w w' := by
  have H3 := Lib.hid h3
  have T1 := Lib.hid t1
  have T2 := Lib.hid t2
  clear h3 t1 t2
  have hl3 : l3.length = n3 := by have := H3.out.len; rw [BC_length] at this; omega
  have HL3 := Lib.hid hl3
  have hs3 : l3.length ≤ 1000 := by omega
  clear hl3
  have d0 : decide ((300 : Int) < (n0 : Int)) = false := by simp; omega
  have d1 : decide ((600 : Int) < (s.size : Int)) = false := by simp; omega
  have d2 : decide ((300 : Int) < (n3 : Int)) = false := by simp; omega
  go_enter Try.func4, Try.ntmps4
  go_wp2_with (first
    | (go_at_call 13; refine (T1.out _).mono ?_; rintro e w' ⟨rfl, rfl⟩)
    | (go_at_call 14; refine (T2.out _).mono ?_; rintro e w' ⟨rfl, rfl⟩))
  refine (read_any w.heap.size n3 c3 A3 l3 w H3.out (Nat.le_refl _) (by omega)).mono ?_
  rintro e w1 ⟨g, rfl, hg, hr, hb⟩
  have R1 := Lib.hid hr
  have B1 := Lib.hid hb
  have s1 := hb.size
  clear hr hb
  go_wp2_with fail
  refine (rtext_all g l3 n3 w1 R1.out hs3 HL3.out.symm).mono ?_
  rintro e w2 ⟨rfl, hr2, hg2⟩
  have R2 := Lib.hid hr2
  have B2 := Lib.hid (below_grown B1.out hg2 s1 hg)
  have s2 := B2.out.size
  clear hr2 hg2 R1 B1
  have SM := Lib.hid (same_any 0 0 0 0 0 0 none none [] [] w2 Lies.empty Lies.empty)
  go_wp2_with (first
    | (go_at_call 17; refine (isText_any w.heap.size n3 c3 A3 l3 w2 (H3.out.under B2.out) (by omega) hc3 hm3).mono ?_; rintro e w' ⟨rfl, rfl⟩)
    | (go_at_call 9; refine SM.out.mono ?_; rintro e w' ⟨rfl, rfl⟩; rw [beq_self_eq_true])
    | (go_at_call 18; refine (right_any g [] _ w2 R2.out).mono ?_; rintro e w' ⟨rfl, rfl⟩)
    | (go_at_call 7; refine (works_any w2).mono ?_; rintro e w3 ⟨rfl, hb3⟩))
  go_ret
  exact ⟨rfl, B2.out.trans (hb3.mono s2)⟩

set_option maxHeartbeats 1000000 in
theorem texts_ok (A0 A3 : Option Addr) (n0 c0 n3 c3 : Nat) (s : ByteArray) (k : Int) (l0 l3 : List UInt8) (w : World) (h0 : Lies w w.heap.size 1 A0 n0 (BC l0)) (h3 : Lies w w.heap.size 1 A3 n3 (BC l3)) (hc3 : n3 ≤ c3) (hm3 : c3 ≤ maxLen)
    (hn0 : n0 ≤ 300) (hn3 : n3 ≤ 300) (hk1 : 1 ≤ k) (hk2 : k ≤ 256) (hs : (s.size : Int) < k) :
    Calls Try.prog 4 #[.slice A0 n0 c0, .string s, .int .i64 k, .slice A3 n3 c3] w fun e w' => e = .returned (.bool true) ∧ Below w.heap.size w w' := by
  obtain ⟨i0, hi0, hz0, hz1, hz2⟩ := info_parts u8_info
  have H0 := Lib.hid h0
  have H3 := Lib.hid h3
  clear h0 h3
  have hl0 : l0.length = n0 := by have := H0.out.len; rw [BC_length] at this; omega
  have HL0 := Lib.hid hl0
  clear hl0
  have hl3 : l3.length = n3 := by have := H3.out.len; rw [BC_length] at this; omega
  have HL3 := Lib.hid hl3
  have hs3 : l3.length ≤ 1000 := by omega
  clear hl3
  have d0 : decide ((300 : Int) < (n0 : Int)) = false := by simp; omega
  have d1 : decide ((600 : Int) < (s.size : Int)) = false := by simp; omega
  have d2 : decide ((300 : Int) < (n3 : Int)) = false := by simp; omega
  have hfl : (fieldL s.data.toList k.toNat).length = k.toNat := fieldL_length _ _ (by rw [Array.length_toList]; show s.size < _; omega)
  have HF := Lib.hid hfl
  clear hfl
  have T1 := Lib.hid (text_ok w.heap.size n0 c0 A0 l0 s k w H0.out (Nat.le_refl _) (by omega) hk1 hk2 hs)
  have T2 := Lib.hid (fun W => refText_ok s k W hk1 hk2 hs)
  generalize fieldL s.data.toList k.toNat = f at HF T1 T2
  go_enter Try.func4, Try.ntmps4
  go_wp2_with fail
  refine T1.out.mono ?_
  rintro e w1 ⟨A1, n1, c1, rfl, ho1, B1⟩
  obtain rfl : n1 = n0 + k.toNat := by have := ho1.1; rw [BC_length, List.length_append, HF.out, HL0.out] at this; omega
  have L1 := Lib.hid (Lies.of_own ho1)
  have s1 := B1.size
  clear ho1 T1
  go_wp2_with fail
  refine (T2.out w1).mono ?_
  rintro e w2 ⟨A2, n2, c2, rfl, ho2, hb2⟩
  obtain rfl : n2 = k.toNat := by have := ho2.1; rw [BC_length, HF.out] at this; omega
  have L2 := Lib.hid (Lies.of_own ho2)
  have M2 := Lib.hid (L1.out.under hb2)
  have B2 := B1.trans (hb2.mono s1)
  have s2 := B2.size
  have s12 := hb2.size
  clear ho2 hb2 L1 B1 T2
  go_wp2_with (first
    | (at_builtin; refine wpList_app _ rfl (.tmp 47) (.tmp 48) _ rfl w2.heap.size 5 i0 _ 1 1 Try.underlying22 hi0 hz0 hz1 hz2 rfl (by omega) _ 0 [] rfl (World.ownsRow_nil w2 _ _ _) w.heap.size _ _ _ (BC l0) rfl (H0.out.under B2) (BC_one l0) (by simp only [maxLen]; omega) (by omega) (Nat.le_refl _) ?_
       intro v3 w3 ho3 hg3; have O3 := Lib.hid ho3; clear ho3; have b3 := below_own (Below.refl w2.heap.size w2) (World.ownsRow_nil w2 w2.heap.size 5 1) hg3 (Nat.le_refl _) (Nat.le_refl _); have s3 := b3.size; clear hg3)
    | (at_builtin; refine wpList_app _ rfl (.tmp 49) (.tmp 50) _ rfl w2.heap.size 5 i0 _ 1 1 Try.underlying22 hi0 hz0 hz1 hz2 rfl (by omega) _ _ _ rfl O3.out w2.heap.size _ _ _ _ rfl (L2.out.under b3) (BC_one f) (by simp only [maxLen]; omega) (by omega) s3 ?_
       intro v4 w4 ho4 hg4; obtain ⟨A4, c4, rfl, _, _⟩ := own_slice ho4; have L4 := Lib.hid (Lies.of_own ho4); have b4 := below_own b3 O3.out hg4 (Nat.le_refl _) s3; have s4 := b4.size; clear hg4 ho4 O3 b3 L2))
  have B4 := B2.trans (b4.mono s2)
  have M4 := Lib.hid (M2.out.under (b4.mono s12))
  have sw4 := B4.size
  clear M2 B2 b4
  refine (read_any w.heap.size n3 c3 A3 l3 w4 (H3.out.under B4) sw4 (by omega)).mono ?_
  rintro e w5 ⟨g, rfl, hg, hr, hb⟩
  have R5 := Lib.hid hr
  have B5 := B4.trans (hb.mono sw4)
  have L5 := Lib.hid (L4.out.under hb)
  have M5 := Lib.hid (M4.out.under (hb.mono (by omega)))
  have s5 := hb.size
  clear hr hb L4 M4 B4
  go_wp2_with fail
  refine (rtext_all g l3 n3 w5 R5.out hs3 HL3.out.symm).mono ?_
  rintro e w6 ⟨rfl, hr6, hg6⟩
  have R6 := Lib.hid hr6
  have B6 := below_grown B5 hg6 B5.size (by omega)
  have L6 := Lib.hid (L5.out.under (below_grown (Below.refl _ _) hg6 s5 hg))
  have M6 := Lib.hid (M5.out.under (below_grown (Below.refl _ _) hg6 (by omega) (by omega)))
  have s6 := B6.size
  clear hr6 hg6 L5 M5 B5 R5
  have SM : Hid (Calls Try.prog 9 #[.slice A1 (n0 + k.toNat) c1, .slice A4 (n0 + k.toNat) c4] w6 fun e w' => e = .returned (.bool true) ∧ w6 = w') := by
    have h1 := L6.out
    rw [Nat.zero_add, List.nil_append, ← BC_append] at h1
    have h2 := same_any _ (n0 + k.toNat) c1 _ (n0 + k.toNat) c4 _ _ _ _ w6 M6.out h1
    rw [beq_self_eq_true] at h2
    exact h2
  clear L6 M6
  go_wp2_with (first
    | (go_at_call 17; refine (isText_any w.heap.size n3 c3 A3 l3 w6 (H3.out.under B6) (by omega) hc3 hm3).mono ?_; rintro e w' ⟨rfl, rfl⟩)
    | (go_at_call 9; refine SM.out.mono ?_; rintro e w' ⟨rfl, rfl⟩)
    | (go_at_call 18; refine (right_any g [] _ w6 R6.out).mono ?_; rintro e w' ⟨rfl, rfl⟩)
    | (go_at_call 7; refine (works_any w6).mono ?_; rintro e w7 ⟨rfl, hb7⟩))
  go_ret
  exact ⟨rfl, B6.trans (hb7.mono s6)⟩

/-- The law's call, at whatever came in. -/
theorem texts_any (A0 A3 : Option Addr) (n0 c0 n3 c3 : Nat) (s : ByteArray) (k : Int) (z0 z3 : List Int) (w : World) (w0 : IsRow .u8 w A0 n0 c0 z0) (w1 : s.size ≤ maxLen) (w3 : IsRow .u8 w A3 n3 c3 z3) :
    Calls Try.prog 4 #[.slice A0 n0 c0, .string s, .int .i64 k, .slice A3 n3 c3] w fun e w' => e = .returned (.bool true) ∧ Below w.heap.size w w' := by
  obtain ⟨l0, h0, hc0, hm0⟩ := bytes_of_row w0
  obtain ⟨l3, h3, hc3, hm3⟩ := bytes_of_row w3
  by_cases h : 300 < n0 ∨ 600 < s.size ∨ 300 < n3
  · unfold maxLen at hm0 hm3 w1
    exact texts_big A0 A3 n0 c0 n3 c3 s k w h (by omega) (by omega) (by omega)
  · by_cases hr : k < 1 ∨ 256 < k
    · exact texts_err A0 A3 n0 c0 n3 c3 s k 2 l3 w h3 hc3 hm3 (by omega) (by omega) (by omega) rfl (fun W => text_range n0 c0 A0 s k W hr) (fun W => refText_range s k W hr)
    · by_cases hs : k ≤ s.size
      · exact texts_err A0 A3 n0 c0 n3 c3 s k 9 l3 w h3 hc3 hm3 (by omega) (by omega) (by omega) rfl (fun W => text_size n0 c0 A0 s k W (by omega) (by omega) hs) (fun W => refText_size s k W (by omega) (by omega) hs)
      · exact texts_ok A0 A3 n0 c0 n3 c3 s k l0 l3 w h0 h3 hc3 hm3 (by omega) (by omega) (by omega) (by omega) (by omega)
end Go.Proofs.Ytblamegncbkjmaa
