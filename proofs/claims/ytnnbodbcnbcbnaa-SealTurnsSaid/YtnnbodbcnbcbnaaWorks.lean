/-
  The walk of 'works': it returns true in every memory, and writes nothing that was there.
  Conditions: none.
-/
import Derived.Test.YtnnbodbcnbcbnaaGet
import Derived.Lib.SlBytesConst
namespace Go.Proofs.Ytnnbodbcnbcbnaa
open Go.RowKit
open Crc (regI)

theorem own_cap {w : World} {base : Nat} {e : TypeId} {size : Nat} {A : Option Addr} {n c : Nat} {xs : List Value} (h : w.ownsRow base e size (.slice A n c) n xs) : n ≤ c ∧ c ≤ maxLen := by
  obtain ⟨A', c', e1, h1, h2⟩ := own_slice h
  injection e1 with _ _ e2
  subst e2
  exact ⟨h1, h2⟩

theorem sum_new (w : World) (l : List UInt8) (cs : Array Value) (fr : Nat × Nat) (n c k : Nat) (s : Int) (hk : k = w.heap.size) (hcs : cs.toList = BC l) (hn : n = cs.size) (hs : cs.size ≤ 100) (hv : regI (Crc.sumN l) = s) :
    Calls Try.prog 8 #[.slice (some ⟨k, 0, none⟩) n c] (w.alloc (.cells cs 5 fr)) fun e w' => e = .returned (.int .u32 s) ∧ Below w.heap.size w w' := by
  subst hn
  subst hk
  subst hv
  have h := lies_cells w cs 5 fr
  rw [hcs] at h
  refine (sum_any (w.heap.size + 1) cs.size c _ l _ h (by simp) (by omega)).mono ?_
  rintro e w1 ⟨rfl, hb⟩
  rw [show (w.alloc (.cells cs 5 fr)).heap.size = w.heap.size + 1 from by simp] at hb
  exact ⟨rfl, ((Below.refl _ _).alloc (Nat.le_refl _) _).trans (hb.mono (by omega))⟩

theorem go_new (w : World) (l : List UInt8) (cs : Array Value) (fr : Nat × Nat) (n c k s0 : Nat) (t s : Int) (ht : t = regI s0) (h0 : s0 < 2 ^ 32) (hk : k = w.heap.size) (hcs : cs.toList = BC l) (hn : n = cs.size) (hs : cs.size ≤ 100) (hv : regI (goN s0 l) = s) :
    Calls Try.prog 10 #[.int .u32 t, .slice (some ⟨k, 0, none⟩) n c] (w.alloc (.cells cs 5 fr)) fun e w' => e = .returned (.int .u32 s) ∧ Below w.heap.size w w' := by
  subst hn
  subst hk
  subst hv
  subst ht
  have h := lies_cells w cs 5 fr
  rw [hcs] at h
  refine (go_any (w.heap.size + 1) cs.size c s0 _ l _ h0 h (by simp) (by omega)).mono ?_
  rintro e w1 ⟨rfl, hb⟩
  rw [show (w.alloc (.cells cs 5 fr)).heap.size = w.heap.size + 1 from by simp] at hb
  exact ⟨rfl, ((Below.refl _ _).alloc (Nat.le_refl _) _).trans (hb.mono (by omega))⟩

def Put6 (w : World) (e : Ending) (w' : World) : Prop :=
  ∃ A c, e = .returned (.slice A 6 c) ∧ 6 ≤ c ∧ Lies w' w'.heap.size 1 A 6 (BC (sealL [97, 98])) ∧ Below w.heap.size w w'
theorem put_new (w : World) (fr : Nat × Nat) : Calls Try.prog 11 #[.slice (some ⟨w.heap.size, 0, none⟩) 2 2] (w.alloc (.cells #[.int .u8 97, .int .u8 98] 5 fr)) (Put6 w) := by
  have h := lies_cells w #[.int .u8 97, .int .u8 98] 5 fr
  refine (put_any (w.heap.size + 1) 2 2 _ [97, 98] _ h (by simp) (by omega)).mono ?_
  rintro e w1 ⟨A1, c1, rfl, ho, hb⟩
  rw [show (w.alloc (.cells #[Value.int .u8 97, .int .u8 98] 5 fr)).heap.size = w.heap.size + 1 from by simp] at hb
  have hlen : (sealL [97, 98]).length = 6 := rfl
  rw [hlen] at ho ⊢
  exact ⟨A1, c1, rfl, (own_cap ho).1, Lies.of_own ho, ((Below.refl _ _).alloc (Nat.le_refl _) _).trans (hb.mono (by omega))⟩

def Got2 (w : World) (e : Ending) (w' : World) : Prop :=
  ∃ A c, e = .returned (.tuple #[.slice A 2 c, .bool true]) ∧ Lies w' w'.heap.size 1 A 2 (BC [97, 98]) ∧ Below w.heap.size w w'
theorem get_six (w : World) (A : Option Addr) (c : Nat) (hc : 6 ≤ c) (h : Lies w w.heap.size 1 A 6 (BC (sealL [97, 98]))) : Calls Try.prog 12 #[.slice A 6 c] w (Got2 w) := by
  refine (get_long 2 c A (sealL [97, 98]) w true h (by omega) hc (by decide +kernel)).mono ?_
  rintro e w1 ⟨A1, c1, rfl, ho, hb⟩
  exact ⟨A1, c1, rfl, Lies.of_own ho, hb⟩
theorem get_bad (w : World) : Calls Try.prog 12 #[.slice (some ⟨w.heap.size, 0, none⟩) 5 5] (w.alloc (.cells #[.int .u8 1, .int .u8 0, .int .u8 0, .int .u8 0, .int .u8 0] 5)) (NoB w) := by
  have h := lies_cells w #[.int .u8 1, .int .u8 0, .int .u8 0, .int .u8 0, .int .u8 0] 5 (0, 0)
  refine (get_long 1 5 _ [1, 0, 0, 0, 0] _ false (by rw [show (w.alloc (.cells #[Value.int .u8 1, .int .u8 0, .int .u8 0, .int .u8 0, .int .u8 0] 5)).heap.size = w.heap.size + 1 from by simp]; exact h) (by omega) (by omega) (by decide +kernel)).mono ?_
  rintro e w1 ⟨rfl, hb⟩
  rw [show (w.alloc (.cells #[Value.int .u8 1, .int .u8 0, .int .u8 0, .int .u8 0, .int .u8 0] 5)).heap.size = w.heap.size + 1 from by simp] at hb
  exact ⟨rfl, ((Below.refl _ _).alloc (Nat.le_refl _) _).trans (hb.mono (by omega))⟩

theorem v1 : regI (Crc.sumN [49, 50, 51, 52, 53, 54, 55, 56, 57]) = 3808858755 := by decide +kernel
theorem v2 : regI (Crc.sumN []) = 0 := by decide +kernel
theorem v3 : regI (goN (Crc.sumN [49, 50, 51, 52, 53]) [54, 55, 56, 57]) = 3808858755 := by decide +kernel

theorem sum_nil (w : World) : Calls Try.prog 8 #[.slice none 0 0] w fun e w' => e = .returned (.int .u32 0) ∧ Below w.heap.size w w' := by
  have h := sum_any w.heap.size 0 0 none [] w Lies.empty (Nat.le_refl _) (by omega)
  rw [v2] at h
  exact h

set_option maxHeartbeats 2000000 in
theorem works_any (w : World) : Calls Try.prog 7 #[] w fun e w' => e = .returned (.bool true) ∧ Below w.heap.size w w' := by
  have kc := fun (W : World) (C : Array Value) (n c : Nat) => Lib.run_convert_bytes_const (P := Try.prog) W 22 5 C n c Try.underlying22 Try.underlying5
  go_enter Try.func7, Try.ntmps7
  go_wp2_with fail
  refine (put_new w _).mono ?_
  rintro e w1 ⟨A1, c1, rfl, hc1, hl1, hb1⟩
  have L1 := Lib.hid hl1
  clear hl1
  go_wp2_with fail
  refine (get_six w1 A1 c1 hc1 L1.out).mono ?_
  rintro e w2 ⟨A2, c2, rfl, hl2, hb2⟩
  have L2 := Lib.hid hl2
  have B2 := hb1.trans (hb2.mono hb1.size)
  clear hl2 L1 hb1 hb2
  go_wp2_with fail
  refine (get_short 3 3 _ _ (by omega)).mono ?_
  rintro e w3 ⟨rfl, hb3⟩
  have B3 := (B2.alloc B2.size _).trans (hb3.mono (by have := B2.size; simp; omega))
  have L3 := Lib.hid ((L2.out.alloc (Nat.le_refl _) _).under (hb3.mono (by simp)))
  have s3 : w2.heap.size ≤ w3.heap.size := by have := hb3.size; simp at this; omega
  clear hb3 L2 B2
  go_wp2_with fail
  refine (get_bad w3).mono ?_
  rintro e w4 ⟨rfl, hb4⟩
  have B4 := B3.trans (hb4.mono B3.size)
  have L4 := Lib.hid (L3.out.under (hb4.mono s3))
  have s4 := hb4.size
  clear hb4 L3 B3
  go_wp2_with fail
  refine (sum_new w4 [49, 50, 51, 52, 53, 54, 55, 56, 57] _ _ 9 9 _ _ rfl rfl rfl (by decide) v1).mono ?_
  rintro e w5 ⟨rfl, hb5⟩
  have B5 := B4.trans (hb5.mono B4.size)
  have L5 := Lib.hid (L4.out.under (hb5.mono (by omega)))
  have s5 := hb5.size
  clear hb5 L4 B4
  go_wp2_with fail
  refine (sum_nil w5).mono ?_
  rintro e w6 ⟨rfl, hb6⟩
  have B6 := B5.trans (hb6.mono B5.size)
  have L6 := Lib.hid (L5.out.under (hb6.mono (by omega)))
  have s6 := hb6.size
  clear hb6 L5 B5
  go_wp2_with fail
  refine (sum_new w6 [49, 50, 51, 52, 53] _ _ 5 5 _ _ rfl rfl rfl (by decide) rfl).mono ?_
  rintro e w7 ⟨rfl, hb7⟩
  have B7 := B6.trans (hb7.mono B6.size)
  have L7 := Lib.hid (L6.out.under (hb7.mono (by omega)))
  have s7 := hb7.size
  clear hb7 L6 B6
  go_wp2_with fail
  refine (go_new w7 [54, 55, 56, 57] _ _ 4 4 _ (Crc.sumN [49, 50, 51, 52, 53]) _ _ rfl (Crc.sumN_lt _) rfl rfl rfl (by decide) v3).mono ?_
  rintro e w8 ⟨rfl, hb8⟩
  have B8 := B7.trans (hb8.mono B7.size)
  have cv := run_conv (P := Try.prog) (L7.out.under (hb8.mono (by omega))) 22 9 5 c2 Try.underlying22 Try.underlying5 Try.underlying9
  have st : ∀ l : List UInt8, (strOf l).toList = l := fun l => by rw [ByteArray.toList_eq]; rfl
  clear hb8 L7 B7 kc
  go_wp2_with fail
  go_ret
  exact ⟨rfl, B8⟩
end Go.Proofs.Ytnnbodbcnbcbnaa
