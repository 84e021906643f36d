/-
  Walks: the reference's Put (by recursion) and the program's two Put functions.
  Conditions: at most 100 bytes are put, behind at most 10000.
-/
import Derived.Test.YtgjkbnplpioloaaWGet
namespace Go.Proofs.Ytgjkbnplpioloaa
open Go.RowKit
set_option maxRecDepth 8000

set_option maxHeartbeats 400000 in
theorem wrefPut_any (k : Nat) : ∀ (n : Nat) (s : Int) (w : World), s ≤ k → -9223372036854775808 ≤ s → k ≤ 100 → n < 18446744073709551616 →
    Calls Try.prog 43 #[.int .u64 n, .int .i64 s] w (RetB w (putL n s.toNat)) := by
  induction k with
  | zero =>
    intro n s w hs hlo hk hn
    have h0 : s ≤ 0 := by omega
    have e : s.toNat = 0 := by omega
    rw [e]
    go_enter Try.func43, Try.ntmps43
    go_wp2_with fail
    go_ret
    exact RetB.mk (World.ownsRow_nil w w.heap.size 5 1) (Below.refl _ _)
  | succ k ih =>
    intro n s w hs hlo hk hn
    by_cases h0 : s ≤ 0
    · have e : s.toNat = 0 := by omega
      rw [e]
      go_enter Try.func43, Try.ntmps43
      go_wp2_with fail
      go_ret
      exact RetB.mk (World.ownsRow_nil w w.heap.size 5 1) (Below.refl _ _)
    · obtain ⟨i0, hi0, hz0, hz1, hz2⟩ := info_parts u8_info
      have IH := Lib.hid ih
      clear ih
      have hn0 : 0 ≤ (n : Int) := by omega
      go_enter Try.func43, Try.ntmps43
      go_wp2_with fail
      rw [show ((n : Int) / 256) = ((n / 256 : Nat) : Int) from by omega]
      refine (IH.out (n / 256) (s - 1) _ (by omega) (by omega) (by omega) (by omega)).mono ?_
      rintro e w1 ⟨A, c, rfl, ho, hb⟩
      have hl := putL_length (s - 1).toNat (n / 256)
      have e1 : (s - 1).toNat + 1 = s.toNat := by omega
      have e2 : (s - 1).toNat = s.toNat - 1 := by omega
      rw [hl] at ho ⊢
      rw [e2] at ho ⊢
      have E1 := Lib.hid e1
      have E2 := Lib.hid e2
      clear hl e1 e2
      have HO := Lib.hid ho
      clear ho
      go_wp2_with (at_builtin; refine wpList_app _ rfl (.tmp 11) (.tmp 15) _ rfl w.heap.size 5 i0 _ 1 1 Try.underlying79 hi0 hz0 hz1 hz2 rfl (by omega) _ _ _ rfl (HO.out.alloc _) _ _ _ _ _ rfl (lies_new _ _ _) (by intro u hu; rw [List.mem_singleton.1 hu]; rfl) (by simp only [maxLen]; omega) (by omega) (by have := hb.size; simp; omega) ?_; intro v2 w2 hown hg)
      go_ret
      refine RetB.mk (n := s.toNat - 1 + 1) (own_len hown ?_) (below_own (hb.alloc hb.size _) (HO.out.alloc _) hg (Nat.le_refl _) (by have := hb.size; simp; omega))
      rw [← E1.out, putL, BC_append, E2.out]
      simp [BC]
end Go.Proofs.Ytgjkbnplpioloaa
