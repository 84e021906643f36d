/-
  The walk of the reference's Sum.
  Conditions: at most 100000 bytes.
-/
import Derived.Test.YtihlmjknhgnjpaaDoorProg
import Derived.Test.YtihlmjknhgnjpaaDoorBase
import Derived.Test.YtihlmjknhgnjpaaDoorMath
import Derived.Test.YtihlmjknhgnjpaaDoorCrcI
import Derived.WalkLawsBesides
import Derived.WalkSpells
namespace Go.Proofs.YtihlmjknhgnjpaaDoor
open Go.RowKit
open Crc (regI)

theorem int_same {k : IntKind} {a b : Int} (h : a = b) : Value.int k a = .int k b := by rw [h]

set_option maxHeartbeats 400000 in
theorem refSum_any (B n c : Nat) (A : Option Addr) (l : List UInt8) (w : World) (h : Lies w B 1 A n (BC l)) (hn : n ≤ 100000) :
    Calls Tryd.prog 46 #[.slice A n c] w fun e w' => e = .returned (.int .u32 (regI (Crc.sumN l))) ∧ w = w' := by
  have hl : l.length = n := by have := h.len; rw [BC_length] at this; omega
  have HL := Lib.hid hl
  have HH := Lib.hid h
  clear hl h
  go_enter Tryd.func46, Tryd.ntmps46
  go_wp2
  go_loop [3, 4] (fun r i => ∃ k : Nat, k ≤ n ∧ i = .int .i64 k ∧ r = .int .u32 (regI (Crc.reg Crc.ones (l.take k)))) (fun _ i => n - (intOf i).toNat)
  case atStart => exact ⟨0, Nat.zero_le _, rfl, rfl⟩
  case round =>
    obtain ⟨k, hk, rfl, rfl⟩ := hrel
    have hr0 : Crc.reg Crc.ones (l.take k) < 2 ^ 32 := Crc.reg_lt (by decide) _
    by_cases hlt : k < n
    · obtain ⟨a, u, rfl, hb, hx, hc⟩ := HH.out.get hlt
      have hkl : k < l.length := by rw [HL.out]; exact hlt
      rw [BC_get l k hkl] at hx
      injection hx with hx
      subst hx
      have R0 := Lib.hid hr0
      clear hr0
      go_wp2
      go_loop [3, 5] (fun r i => ∃ j : Nat, j ≤ 8 ∧ i = .int .i64 j ∧ r = .int .u32 (regI (Crc.feed (Crc.reg Crc.ones (l.take k)) (Crc.bits j l[k].toNat)))) (fun _ i => 8 - (intOf i).toNat)
      case atStart => exact ⟨0, Nat.zero_le _, rfl, rfl⟩
      case round =>
        obtain ⟨j, hj, rfl, rfl⟩ := hrel
        have R1 := Lib.hid (Crc.feed_lt (Crc.bits j l[k].toNat) R0.out)
        by_cases hlt : j < 8
        · go_wp2
          · rename_i h
            refine ⟨⟨j + 1, by omega, by go_num, int_same ?_⟩, by simp [intOf]; omega⟩
            rw [Crc.feed_bit]
            exact Crc.step_yes (u8_lt _) R1.out h
          · rename_i h
            refine ⟨⟨j + 1, by omega, by go_num, int_same ?_⟩, by simp [intOf]; omega⟩
            rw [Crc.feed_bit]
            exact Crc.step_no (u8_lt _) R1.out h
        · go_wp2
          obtain rfl : j = 8 := by omega
          refine ⟨⟨k + 1, by omega, by go_num, int_same ?_⟩, by simp [intOf]; omega⟩
          rw [take_snoc l k hkl, Crc.reg_snoc]
    · have hb := Crc.regI_lt hr0
      have R0 := Lib.hid hr0
      clear hr0
      go_wp2
      go_ret
      refine ⟨?_, rfl⟩
      rw [List.take_of_length_le (by rw [HL.out]; omega)] at *
      first
        | rw [Crc.not_reg R0.out]; rfl
        | rw [Crc.not_reg' R0.out]; rfl
end Go.Proofs.YtihlmjknhgnjpaaDoor
