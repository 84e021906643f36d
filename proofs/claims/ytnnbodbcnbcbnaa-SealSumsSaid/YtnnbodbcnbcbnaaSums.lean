/-
  The walk of the law SealSums.
  Conditions: none.
-/
import Derived.Test.YtnnbodbcnbcbnaaFrame
namespace Go.Proofs.Ytnnbodbcnbcbnaa
open Go.RowKit
open Crc (regI)

set_option maxHeartbeats 400000 in
theorem sums_any (A : Option Addr) (n c : Nat) (z : List Int) (w : World) (w0 : IsRow .u8 w A n c z) :
    Calls Try.prog 3 #[.slice A n c] w fun e w' => e = .returned (.bool true) ∧ Below w.heap.size w w' := by
  obtain ⟨l, h, hc, hm⟩ := bytes_of_row w0
  unfold maxLen at hm
  by_cases hb : 2000 < n
  · clear w0 h
    go_enter Try.func3, Try.ntmps3
    go_wp2_with (go_at_call 7; refine (works_any _).mono ?_; rintro e w' ⟨rfl, hb⟩)
    go_ret
    exact ⟨rfl, hb⟩
  · have H := Lib.hid h
    clear w0 h
    go_enter Try.func3, Try.ntmps3
    go_wp2_with fail
    refine (sum_any w.heap.size n c A l w H.out (Nat.le_refl _) (by omega)).mono ?_
    rintro e w1 ⟨rfl, hb1⟩
    go_wp2_with fail
    refine (refSum_any w.heap.size n c A l w1 (H.out.under hb1) (by omega)).mono ?_
    rintro e w' ⟨rfl, rfl⟩
    go_wp2_with fail
    refine (works_any _).mono ?_
    rintro e w2 ⟨rfl, hb2⟩
    go_wp2_with fail
    go_ret
    exact ⟨rfl, hb1.trans (hb2.mono hb1.size)⟩
end Go.Proofs.Ytnnbodbcnbcbnaa
