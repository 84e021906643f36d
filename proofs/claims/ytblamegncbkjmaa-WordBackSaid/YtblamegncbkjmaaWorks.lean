/-
  The walk of 'works': it returns true in every memory, and writes nothing that was there.
  Conditions: none.
-/
import Derived.Test.YtblamegncbkjmaaReader
namespace Go.Proofs.Ytblamegncbkjmaa
open Go.RowKit

theorem lies_cells (w : World) (cs : Array Value) (t : TypeId) : Lies (w.alloc (.cells cs t)) (w.heap.size + 1) 1 (some ⟨w.heap.size, 0, none⟩) cs.size cs.toList := by
  refine ⟨by simp, fun _ => ⟨_, rfl, Nat.lt_succ_self _, fun j u hu => ?_⟩⟩
  have hadd : (⟨w.heap.size, 0, none⟩ : Addr).add j = ⟨w.heap.size, j, none⟩ := by unfold Addr.add; split <;> simp_all
  rw [hadd, cell_of_row _ w.heap.size j cs t (0, 0) (heap_alloc_new w _)]
  simpa using hu

theorem mul1 {n m : Nat} {l : List UInt8} (h : (BC l).length = n * 1) (hl : l.length = m) : n = m := by
  rw [BC_length] at h; omega


theorem works_put (w : World) : Calls Try.prog 23 #[.slice (some ⟨w.heap.size, 0, none⟩) 1 1, .int .u16 513, .int .i64 3] (w.alloc (.cells #[Value.int .u8 9] 5)) fun e w' =>
    ∃ A c, e = .returned (.slice A 4 c) ∧ Lies w' w'.heap.size 1 A 4 (BC [9, 0, 2, 1]) ∧ Below w.heap.size w w' := by
  have hw1 : (w.alloc (.cells #[Value.int .u8 9] 5)).heap.size = w.heap.size + 1 := by simp
  refine (put16_any (w.heap.size + 1) 1 1 513 _ [9] 3 _ (lies_cells w #[.int .u8 9] 5) (by simp) (by omega) (by omega) (by omega) (by omega)).mono ?_
  rintro e w1 ⟨A1, c1, rfl, ho1, hb1⟩
  have E : [9] ++ putL 513 (Int.toNat 3) = [9, 0, 2, 1] := by decide
  rw [E] at ho1
  rw [E]
  exact ⟨A1, c1, rfl, Lies.of_own ho1, ((Below.refl _ _).alloc (Nat.le_refl _) _).trans (hb1.mono (by omega))⟩

theorem works_text (w : World) : Calls Try.prog 13 #[.slice none 0 0, .string ⟨#[97, 98]⟩, .int .i64 4] w fun e w' =>
    ∃ A c, e = .returned (.tuple #[.slice A 4 c, .int .i64 0]) ∧ Lies w' w'.heap.size 1 A 4 (BC [2, 97, 98, 0]) ∧ Below w.heap.size w w' := by
  refine (text_ok 0 0 0 none [] ⟨#[97, 98]⟩ 4 _ Lies.empty (by omega) (by omega) (by omega) (by omega) (by decide)).mono ?_
  rintro e w2 ⟨A2, n2, c2, rfl, ho2, hb2⟩
  have hn2 : n2 = 4 := mul1 ho2.1 rfl
  subst hn2
  exact ⟨A2, c2, rfl, Lies.of_own ho2, hb2⟩

def ReadIs (w : World) (l : List UInt8) (e : Ending) (w' : World) : Prop :=
  ∃ g, e = .returned (.pointer (some ⟨g, 0, none⟩)) ∧ w.heap.size ≤ g ∧ Rdr w' g l false ∧ Below w.heap.size w w'

theorem works_read (w : World) (l : List UInt8) (cs : Array Value) (n c : Nat) (k : Nat) (hk : k = w.heap.size) (hcs : cs.toList = BC l) (hn : n = cs.size) (hs : cs.size ≤ 100) :
    Calls Try.prog 15 #[.slice (some ⟨k, 0, none⟩) n c] (w.alloc (.cells cs 5)) (ReadIs w l) := by
  subst hn
  subst hk
  have h := lies_cells w cs 5
  rw [hcs] at h
  refine (read_any (w.heap.size + 1) cs.size c _ l _ h (by simp) (by omega)).mono ?_
  rintro e w1 ⟨g, rfl, hg, hr, hb⟩
  have hsz : (w.alloc (.cells cs 5)).heap.size = w.heap.size + 1 := by simp
  rw [hsz] at hg hb
  exact ⟨g, rfl, by omega, hr, ((Below.refl _ _).alloc (Nat.le_refl _) _).trans (hb.mono (by omega))⟩

theorem works_get (w : World) : Calls Try.prog 11 #[.slice (some ⟨w.heap.size, 0, none⟩) 2 2] (w.alloc (.cells #[Value.int .u8 1, Value.int .u8 0] 5)) fun e w' =>
    e = .returned (.int .u64 256) ∧ w.alloc (.cells #[Value.int .u8 1, Value.int .u8 0] 5) = w' := by
  have h := get_any _ 2 2 _ [1, 0] _ (lies_cells w #[Value.int .u8 1, Value.int .u8 0] 5) (by omega)
  have e : getI [1, 0] = 256 := by decide
  rw [e] at h
  exact h

set_option maxHeartbeats 2000000 in
theorem works_any (w : World) : Calls Try.prog 7 #[] w fun e w' => e = .returned (.bool true) ∧ Below w.heap.size w w' := by
  go_enter Try.func7, Try.ntmps7
  go_wp2_with fail
  refine (works_put w).mono ?_
  rintro e w1 ⟨A1, c1, rfl, hl1, bw1⟩
  have L1 := Lib.hid hl1
  clear hl1
  go_wp2_with fail
  refine (works_text w1).mono ?_
  rintro e w2 ⟨A2, c2, rfl, hl2, hb2⟩
  have bw2 := bw1.trans (hb2.mono bw1.size)
  have L2 := Lib.hid hl2
  have M1 := Lib.hid (L1.out.under hb2)
  have s2 := hb2.size
  clear hl2 hb2 bw1 L1
  go_wp2_with fail
  refine (text_size 0 0 none ⟨#[97, 98, 99, 100]⟩ 4 _ (by omega) (by omega) (by decide)).mono ?_
  rintro e w' ⟨rfl, rfl⟩
  go_wp2_with fail
  refine (works_read w2 [2, 1, 1, 120, 0, 7] _ 6 6 _ rfl rfl rfl (by decide)).mono ?_
  rintro e w3 ⟨g, rfl, hg, hr, hb3⟩
  have bw3 := bw2.trans (hb3.mono bw2.size)
  have L3 := Lib.hid (L2.out.under hb3)
  have M3 := Lib.hid (M1.out.under (hb3.mono s2))
  have R3 := Lib.hid hr
  have s3 := hb3.size
  have gw : w.heap.size ≤ g := Nat.le_trans bw2.size hg
  clear hr hb3 bw2 L2 M1
  go_wp2_with fail
  refine (num_ok g _ 2 w3 R3.out (by decide) (by decide)).mono ?_
  rintro e w4 ⟨rfl, hr4, hg4⟩
  have R4 := Lib.hid hr4
  have bw4 := below_grown bw3 hg4 bw3.size gw
  have L4 := Lib.hid (L3.out.under (below_grown (Below.refl _ _) hg4 s3 hg))
  have M4 := Lib.hid (M3.out.under (below_grown (Below.refl _ _) hg4 (by omega) (by omega)))
  have s4 := hg4.size
  clear hr4 hg4 bw3 L3 M3 R3
  rw [show getI (List.take 2 [2, 1, 1, 120, 0, 7]) = 513 from by decide]
  go_wp2_with fail
  refine (rtext_yes g _ [120] 3 w4 R4.out (by decide) (by decide) (by decide)).mono ?_
  rintro e w5 ⟨rfl, hr5, hg5⟩
  have R5 := Lib.hid hr5
  have bw5 := below_grown bw4 hg5 bw4.size gw
  have L5 := Lib.hid (L4.out.under (below_grown (Below.refl _ _) hg5 (by omega) hg))
  have M5 := Lib.hid (M4.out.under (below_grown (Below.refl _ _) hg5 (by omega) (by omega)))
  have s5 := hg5.size
  clear hr5 hg5 bw4 L4 M4 R4
  go_wp2_with fail
  refine (left_any g _ false w5 R5.out).mono ?_
  rintro e w' ⟨rfl, rfl⟩
  go_wp2_with fail
  refine (take_fail g _ false 2 w5 R5.out (by decide) (.inr (.inr (by decide)))).mono ?_
  rintro e w6 ⟨rfl, hr6, hg6⟩
  have R6 := Lib.hid hr6
  have bw6 := below_grown bw5 hg6 bw5.size gw
  have cv1 := run_conv (P := Try.prog) (L5.out.under (below_grown (Below.refl _ _) hg6 (by omega) hg)) 22 9 5 c2 Try.underlying22 Try.underlying5 Try.underlying9
  have cv2 := run_conv (P := Try.prog) (M5.out.under (below_grown (Below.refl _ _) hg6 (by omega) (by omega))) 22 9 5 c1 Try.underlying22 Try.underlying5 Try.underlying9
  clear hr6 hg6 bw5 L5 M5 R5
  have st : ∀ l : List UInt8, (strOf l).toList = l := fun l => by rw [ByteArray.toList_eq]; rfl
  go_wp2_with fail
  refine (right_any g _ true w6 R6.out).mono ?_
  rintro e w' ⟨rfl, rfl⟩
  go_wp2_with fail
  refine (works_get w6).mono ?_
  rintro e w' ⟨rfl, rfl⟩
  go_wp2_with fail
  have bw7 := bw6.alloc bw6.size (.cells #[Value.int .u8 1, Value.int .u8 0] 5)
  refine (works_read (w6.alloc (.cells #[Value.int .u8 1, Value.int .u8 0] 5)) [0] _ 1 1 _ (by simp) rfl rfl (by decide)).mono ?_
  rintro e w8 ⟨g8, rfl, hg8, hr8, hb8⟩
  have bw8 := bw7.trans (hb8.mono bw7.size)
  have R8 := Lib.hid hr8
  clear hr8 hb8 bw7 R6 bw6 cv1 cv2 hg8
  go_wp2_with fail
  refine (noughts_any g8 _ false w8 R8.out (by decide)).mono ?_
  rintro e w' ⟨rfl, rfl⟩
  rw [show (!false && zeroB [0]) = true from by decide]
  go_wp2_with fail
  refine (works_read w8 [1] _ 1 1 _ rfl rfl rfl (by decide)).mono ?_
  rintro e w9 ⟨g9, rfl, hg9, hr9, hb9⟩
  have bw9 := bw8.trans (hb9.mono bw8.size)
  have R9 := Lib.hid hr9
  clear hr9 hb9 bw8 R8 hg9
  go_wp2_with fail
  refine (noughts_any g9 _ false w9 R9.out (by decide)).mono ?_
  rintro e w' ⟨rfl, rfl⟩
  rw [show (!false && zeroB [1]) = false from by decide]
  go_wp2_with fail
  go_ret
  exact ⟨rfl, bw9⟩
end Go.Proofs.Ytblamegncbkjmaa
