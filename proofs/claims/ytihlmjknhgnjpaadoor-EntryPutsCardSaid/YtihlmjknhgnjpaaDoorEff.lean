/-
  The walk of fourBitEffects.
  Conditions: none.
-/
import Derived.Test.YtihlmjknhgnjpaaDoorRefSum
import Derived.Deep.WholeRow
namespace Go.Proofs.YtihlmjknhgnjpaaDoor
open Go.RowKit
set_option maxRecDepth 8000
open Crc (regI)

def tabL (k : Nat) : List Value := (List.range 16).map fun j => if j < k then Value.int .u32 (regI (Crc.eff j)) else .int .u32 0
def tabA (k : Nat) : Array Value := (tabL k).toArray
theorem tabA_size (k : Nat) : (tabA k).size = 16 := by simp [tabA, tabL]
theorem tabA_get (k j : Nat) (h : j < 16) : (tabA k)[j]? = some (if j < k then Value.int .u32 (regI (Crc.eff j)) else .int .u32 0) := by
  simp [tabA, tabL, h]
theorem tabA_one (k : Nat) : (tabA k).all (·.oneCell') = true := by
  rw [Array.all_eq_true_iff_forall_mem]
  intro v hv
  simp only [tabA, tabL, List.mem_toArray, List.mem_map] at hv
  obtain ⟨j, _, rfl⟩ := hv
  split <;> rfl
theorem tabA_set (k : Nat) (h : k < 16) : (tabA k).setIfInBounds k (.int .u32 (regI (Crc.eff k))) = tabA (k + 1) := by
  apply Array.ext_getElem?
  intro j
  rw [Array.getElem?_setIfInBounds]
  by_cases hj : j < 16
  · rw [tabA_get _ _ hj, tabA_get _ _ hj]
    by_cases e : k = j
    · subst e
      simp [tabA_size, hj]
    · rw [if_neg e]
      congr 1
      by_cases h1 : j < k
      · rw [if_pos h1, if_pos (by omega)]
      · rw [if_neg h1, if_neg (by omega)]
  · rw [if_neg (by omega), Array.getElem?_eq_none (by rw [tabA_size]; omega), Array.getElem?_eq_none (by rw [tabA_size]; omega)]

theorem arr_info : (Tryd.prog.info? 97).map (fun i => (i.zero, i.size)) = some (some (.agg (tabA 0)), 16) := by kernel_rfl

def EW (w : World) (k : Nat) : World := (w.alloc (.cells (tabA 0) 97)).alloc (.cells (tabA k) 97)
theorem EW_heap (w : World) (k : Nat) : (EW w k).heap[w.heap.size + 1]? = some (.cells (tabA k) 97 (0, 0)) := heap_alloc2_new w _ _
theorem EW_cell (w : World) (k j : Nat) (h : j < 16) : (EW w k).cell? ⟨w.heap.size + 1, j, none⟩ = some (if j < k then Value.int .u32 (regI (Crc.eff j)) else .int .u32 0) := by
  rw [cell_of_row _ _ j _ _ _ (EW_heap w k), tabA_get k j h]
theorem EW_frozen (w : World) (k j : Nat) : (EW w k).frozen? ⟨w.heap.size + 1, j, none⟩ = false := frozen_of_row _ _ j _ _ (EW_heap w k)
theorem EW_set (w : World) (k : Nat) (h : k < 16) : (EW w k).setCell ⟨w.heap.size + 1, k, none⟩ (.int .u32 (regI (Crc.eff k))) = EW w (k + 1) := by
  rw [setCell_eq_setRow _ _ k _ _ _ _ (EW_heap w k), tabA_set k h]
  have := World.setRow_alloc_new (w.alloc (.cells (tabA 0) 97)) (tabA k) (tabA (k + 1)) 97
  rw [show (w.alloc (.cells (tabA 0) 97)).heap.size = w.heap.size + 1 from by simp] at this
  exact this
theorem below_setRow {B : Nat} {a w : World} (h : Below B a w) {g : Nat} (hg : B ≤ g) (cs : Array Value) : Below B a (w.setRow g cs) :=
  ⟨h.os, h.tape, h.output, by rw [size_setRow]; exact h.size, fun k hk => by rw [setRow_other w g k cs (by omega)]; exact h.block k hk⟩
theorem EW_below (w : World) (k : Nat) : Below w.heap.size w (EW w k) := ((Below.refl _ _).alloc (Nat.le_refl _) _).alloc (by simp) _

set_option maxHeartbeats 400000 in
theorem eff_any (w : World) : Calls Tryd.prog 62 #[] w fun e w' => e = .returned (.agg (tabA 16)) ∧ Below w.heap.size w w' := by
  have hzero := (zero_of_info arr_info).1
  have hinfo := Lib.hid (zero_of_info arr_info).2
  go_enter Tryd.func62, Tryd.ntmps62
  go_wp2
  go_loopw [5] (fun i wr => ∃ k : Nat, k ≤ 16 ∧ i = .int .i64 k ∧ wr = EW w k) (fun i _ => 16 - (intOf i).toNat)
  case atStart => exact ⟨0, Nat.zero_le _, rfl, rfl⟩
  case round =>
    obtain ⟨k, hk, rfl, rfl⟩ := hrel
    by_cases hlt : k < 16
    · go_wp2
      go_loop [3, 10] (fun r i => ∃ j : Nat, j ≤ 4 ∧ i = .int .i64 j ∧ r = .int .u32 (regI (Crc.zeros k j))) (fun _ i => 4 - (intOf i).toNat)
      case atStart => exact ⟨0, Nat.zero_le _, rfl, rfl⟩
      case round =>
        obtain ⟨j, hj, rfl, rfl⟩ := hrel
        have hr : Crc.zeros k j < 2 ^ 32 := Crc.zeros_lt (by omega) j
        have hrb := Crc.regI_lt hr
        have R0 := Lib.hid hr
        clear hr
        by_cases hlt2 : j < 4
        · go_wp2
          refine ⟨⟨j + 1, by omega, by go_num, int_same ?_⟩, by simp [intOf]; omega⟩
          rw [Crc.zeros_snoc]
          exact Crc.step_mul R0.out
        · obtain rfl : j = 4 := by omega
          have hcell := EW_cell w k k hlt
          have hfr := EW_frozen w k k
          go_wp2
          refine ⟨⟨k + 1, by omega, by go_num, EW_set w k hlt⟩, by simp [intOf]; omega⟩
    · have K16 := Lib.hid (show k = 16 from by omega)
      go_wp2_with (first
        | refine wpList_load_row rfl 97 (.tmp 1) rfl (w.heap.size + 1) rfl 97 (tabA k) (0, 0) _ (EW_heap w k) Tryd.underlying97 rfl (by rw [tabA_size]; exact hinfo.out) ?_
        | refine wpList_store_row rfl 97 (.tmp 0) (.tmp 24) rfl w.heap.size (tabA k) rfl rfl 97 (tabA 0) (heap_alloc2_old w _ _) (by rw [tabA_size]; exact hinfo.out) (by rw [tabA_size, tabA_size]) (tabA_one k) ?_)
      refine bodyPost_ret (v := .agg (tabA 16)) ?_ rfl ⟨rfl, ?_⟩
      · rw [← K16.out]
        exact results_cell_row Tryd.results62 _ _ w.heap.size 97 (tabA k) (0, 0) _ rfl (setRow_heap _ _ _ _ _ _ (heap_alloc2_old w _ _)) Tryd.underlying97 rfl (by rw [tabA_size]; exact hinfo.out)
      · exact below_setRow (EW_below w k) (Nat.le_refl _) _
end Go.Proofs.YtihlmjknhgnjpaaDoor
