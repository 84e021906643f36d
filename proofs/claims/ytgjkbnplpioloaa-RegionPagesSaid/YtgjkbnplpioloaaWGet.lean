/-
  Walks: word.Get gives the big-endian number.
  Conditions: a slice of at most 100000 bytes.
-/
import Derived.Test.YtgjkbnplpioloaaPut
import Derived.WalkLawsBesides
import Derived.WalkSpells
namespace Go.Proofs.Ytgjkbnplpioloaa
open Go.RowKit
set_option maxRecDepth 8000

set_option maxHeartbeats 400000 in
theorem get_any (B n c : Nat) (A : Option Addr) (l : List UInt8) (w : World) (h : Lies w B 1 A n (BC l)) (hn : n ≤ 100000) :
    Calls Try.prog 61 #[.slice A n c] w fun e w' => e = .returned (.int .u64 (getI l)) ∧ w = w' := by
  have hl : l.length = n := by have := h.len; rw [BC_length] at this; omega
  have HL := Lib.hid hl
  have HH := Lib.hid h
  clear hl h
  go_enter Try.func61, Try.ntmps61
  go_wp2
  go_loop [3, 8] (fun t i => ∃ k : Nat, k ≤ n ∧ i = .int .i64 k ∧ t = .int .u64 (getI (l.take k))) (fun _ i => n - (intOf i).toNat)
  case atStart => exact ⟨0, Nat.zero_le _, rfl, rfl⟩
  case round =>
    obtain ⟨k, hk, rfl, rfl⟩ := hrel
    by_cases hlt : k < n
    · obtain ⟨a, u, rfl, hb, hx, hc⟩ := HH.out.get hlt
      rw [BC_get l k (by rw [HL.out]; exact hlt)] at hx
      injection hx with hx
      subst hx
      go_wp2
      go_round
      case rel => exact ⟨k + 1, by omega, by go_num, by rw [take_snoc l k (by rw [HL.out]; exact hlt), ← getI_or]⟩
      case measure => simp [intOf]; omega
    · go_wp2
      go_ret
      exact ⟨by rw [List.take_of_length_le (by rw [HL.out]; omega)]; rfl, rfl⟩

end Go.Proofs.Ytgjkbnplpioloaa
