/-
  The walks of seal.Go and seal.Sum.
  Conditions: at most 100000 bytes.
-/
import Derived.Test.YtihlmjknhgnjpaaDoorEff
namespace Go.Proofs.YtihlmjknhgnjpaaDoor
open Go.RowKit
set_option maxRecDepth 8000
open Crc (regI)

def GW (w : World) : World := w.alloc (.cells (tabA 16) 97)
theorem GW_cell (w : World) (j : Nat) (h : j < 16) : (GW w).cell? ⟨w.heap.size, j, none⟩ = some (Value.int .u32 (regI (Crc.eff j))) := by
  rw [cell_of_row _ _ j _ _ _ (show (GW w).heap[w.heap.size]? = some (.cells (tabA 16) 97 (0, 0)) from heap_alloc_new w _), tabA_get 16 j h, if_pos h]

def goN (s : Nat) (l : List UInt8) : Nat := Crc.ones ^^^ Crc.reg (Crc.ones ^^^ s) l

set_option maxHeartbeats 400000 in
theorem go_any (B n c s : Nat) (A : Option Addr) (l : List UInt8) (w : World) (hs : s < 2 ^ 32) (h : Lies w B 1 A n (BC l)) (hB : B ≤ w.heap.size) (hn : n ≤ 100000) :
    Calls Tryd.prog 56 #[.int .u32 (regI s), .slice A n c] w fun e w' => e = .returned (.int .u32 (regI (goN s l))) ∧ Below w.heap.size w w' := by
  have hl : l.length = n := by have := h.len; rw [BC_length] at this; omega
  have HL := Lib.hid hl
  have HH := Lib.hid h
  have hzero := (zero_of_info arr_info).1
  have hinfo := Lib.hid (zero_of_info arr_info).2
  have hsb := Crc.regI_lt hs
  have hnot := Crc.not_u32 hs
  have HS := Lib.hid hs
  clear hl h hs
  go_enter Tryd.func56, Tryd.ntmps56
  go_wp2_with (first
    | (go_at_call 62; refine (eff_any _).mono ?_; rintro e w1 ⟨rfl, hb1⟩)
    | refine wpList_store_row rfl 97 (.tmp 5) (.tmp 9) rfl w1.heap.size (tabA 16) rfl rfl 97 (tabA 0) (heap_alloc_new w1 _) (by rw [tabA_size]; exact hinfo.out) (by rw [tabA_size, tabA_size]) (tabA_one 16) ?_)
  rw [World.setRow_alloc_new, show w1.alloc (.cells (tabA 16) 97) = GW w1 from rfl]
  have hbg : Below w.heap.size w (GW w1) := hb1.alloc hb1.size _
  have HG := Lib.hid (HH.out.under (hbg.mono hB))
  have RS := Lib.hid (Crc.not_lt HS.out)
  clear hb1 hnot HH
  go_loop [6, 14] (fun r i => ∃ k : Nat, k ≤ n ∧ i = .int .i64 k ∧ r = .int .u32 (regI (Crc.reg (Crc.ones ^^^ s) (l.take k)))) (fun _ i => n - (intOf i).toNat)
  case atStart => exact ⟨0, Nat.zero_le _, rfl, rfl⟩
  case round =>
    obtain ⟨k, hk, rfl, rfl⟩ := hrel
    have hr0 : Crc.reg (Crc.ones ^^^ s) (l.take k) < 2 ^ 32 := Crc.reg_lt RS.out _
    by_cases hlt : k < n
    · obtain ⟨a, u, rfl, hb, hx, hc⟩ := HG.out.get hlt
      have hkl : k < l.length := by rw [HL.out]; exact hlt
      rw [BC_get l k hkl] at hx
      injection hx with hx
      subst hx
      have hu := u8_lt l[k]
      have e1 := Crc.xor_byte hr0 hu
      have l1 := Crc.xor_byte_lt hr0 hu
      have E : Hid (regI (Crc.reg (Crc.ones ^^^ s) (l.take (k + 1))) = regI (Crc.zeros (Crc.zeros (Crc.reg (Crc.ones ^^^ s) (l.take k) ^^^ l[k].toNat) 4) 4)) := by
        rw [Crc.byte_step hu, take_snoc l k hkl, Crc.reg_snoc]
        exact rfl
      have e2 := Crc.and15 l1
      have e3 := Crc.shr4 (Crc.reg (Crc.ones ^^^ s) (l.take k) ^^^ l[k].toNat)
      have e4 := Crc.xor_four l1
      have l2 := Crc.zeros_lt l1 4
      have e5 := Crc.and15 l2
      have e6 := Crc.shr4 (Crc.zeros (Crc.reg (Crc.ones ^^^ s) (l.take k) ^^^ l[k].toNat) 4)
      have e7 := Crc.xor_four l2
      have b1 := Crc.and15_lt (Crc.reg (Crc.ones ^^^ s) (l.take k) ^^^ l[k].toNat)
      have b2 := Crc.and15_lt (Crc.zeros (Crc.reg (Crc.ones ^^^ s) (l.take k) ^^^ l[k].toNat) 4)
      have c1 := GW_cell w1 _ b1
      have c2 := GW_cell w1 _ b2
      clear l1 l2 hr0 RS HS HG
      go_wp2
      refine ⟨⟨k + 1, by omega, by go_num, int_same ?_⟩, by simp [intOf]; omega⟩
      exact E.out.symm
    · have hnot := Crc.not_u32 hr0
      have R0 := Lib.hid hr0
      clear hr0
      go_wp2
      go_ret
      refine ⟨?_, hbg⟩
      rw [List.take_of_length_le (by rw [HL.out]; omega)]
      rfl

theorem goN_zero (l : List UInt8) : goN 0 l = Crc.sumN l := by unfold goN Crc.sumN; rw [Nat.xor_zero]
theorem goN_lt (s : Nat) (l : List UInt8) (h : s < 2 ^ 32) : goN s l < 2 ^ 32 := Crc.not_lt (Crc.reg_lt (Crc.not_lt h) l)

set_option maxHeartbeats 400000 in
theorem sum_any (B n c : Nat) (A : Option Addr) (l : List UInt8) (w : World) (h : Lies w B 1 A n (BC l)) (hB : B ≤ w.heap.size) (hn : n ≤ 100000) :
    Calls Tryd.prog 45 #[.slice A n c] w fun e w' => e = .returned (.int .u32 (regI (Crc.sumN l))) ∧ Below w.heap.size w w' := by
  have G := Lib.hid (go_any B n c 0 A l w (by decide) h hB hn)
  rw [goN_zero] at G
  clear h
  go_enter Tryd.func45, Tryd.ntmps45
  go_wp2_with (go_at_call 56; refine G.out.mono ?_; rintro e w1 ⟨rfl, hb1⟩)
  go_ret
  exact ⟨rfl, hb1⟩
end Go.Proofs.YtihlmjknhgnjpaaDoor
