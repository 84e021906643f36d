/-
  Walks: Filled, sectors, slices.Clone of sectors and of bools, the reference's Same.
  Conditions: slices of at most 100000 elements.
-/
import Derived.Test.YtggcfbglfmcdmaaProg
import Derived.Test.YtggcfbglfmcdmaaBase
import Derived.WalkLawsBesides
import Derived.WalkSpells
import Derived.OwnWalk
import Derived.Lib.SliceRun
import Derived.Deep.QuietTactic
import Derived.BigQuiet
namespace Go.Proofs.Ytggcfbglfmcdmaa
open Go.RowKit

theorem int_same {k : IntKind} {a b : Int} (h : a = b) : Value.int k a = .int k b := by rw [h]

def tabA (b : Int) (k : Nat) : Array Value := ((List.range 64).map fun j => if j < k then Value.int .u8 b else .int .u8 0).toArray
theorem tabA_size (b : Int) (k : Nat) : (tabA b k).size = 64 := by rw [tabA, List.size_toArray, List.length_map, List.length_range]
theorem tabA_get (b : Int) (k j : Nat) (h : j < 64) : (tabA b k)[j]? = some (if j < k then Value.int .u8 b else .int .u8 0) := by
  rw [tabA, List.getElem?_toArray, List.getElem?_map, List.getElem?_range h]
  rfl
theorem tabA_one (b : Int) (k : Nat) : (tabA b k).all (·.oneCell') = true := by
  rw [Array.all_eq_true_iff_forall_mem]
  intro v hv
  rw [tabA, List.mem_toArray, List.mem_map] at hv
  obtain ⟨j, _, rfl⟩ := hv
  split <;> rfl
theorem tabA_set (b : Int) (k : Nat) (h : k < 64) : (tabA b k).setIfInBounds k (.int .u8 b) = tabA b (k + 1) := by
  apply Array.ext_getElem?
  intro j
  rw [Array.getElem?_setIfInBounds]
  by_cases hj : j < 64
  · rw [tabA_get _ _ _ hj, tabA_get _ _ _ hj]
    by_cases e : k = j
    · subst e
      rw [if_pos rfl, if_pos (by rw [tabA_size]; exact hj), if_pos (by omega)]
    · rw [if_neg e]
      congr 1
      by_cases h1 : j < k
      · rw [if_pos h1, if_pos (by omega)]
      · rw [if_neg h1, if_neg (by omega)]
  · rw [if_neg (by omega), Array.getElem?_eq_none (by rw [tabA_size]; omega), Array.getElem?_eq_none (by rw [tabA_size]; omega)]
theorem tabA_full (b : Int) : tabA b 64 = secA b := by
  apply Array.ext_getElem?
  intro j
  by_cases hj : j < 64
  · rw [tabA_get _ _ _ hj, secA_get _ _ hj, if_pos hj]
  · rw [Array.getElem?_eq_none (by rw [tabA_size]; omega), Array.getElem?_eq_none (by rw [secA_size]; omega)]
theorem tabA_zero (b : Int) : tabA b 0 = tabA 0 0 := rfl

theorem arr_info : (Try.prog.info? 48).map (fun i => (i.zero, i.size)) = some (some (.agg (tabA 0 0)), 64) := by kernel_rfl
theorem arr_info3 : (Try.prog.info? 48).map (fun i => (i.zero, i.size, i.bytes)) = some (some (.agg (tabA 0 0)), 64, 64) := by kernel_rfl
theorem arr_size : (Try.prog.info? 48).map (·.size) = some 64 := (zero_of_info arr_info).2
theorem bool_info3 : (Try.prog.info? 4).map (fun i => (i.zero, i.size, i.bytes)) = some (some (.bool false), 1, 1) := by kernel_rfl
theorem cells5 : Try.prog.cellsOf 5 = 1 := by kernel_rfl
theorem info5 : ∃ i, Try.prog.info? 5 = some i := Option.isSome_iff_exists.1 (show (Try.prog.info? 5).isSome = true by kernel_rfl)

def EW (w : World) (b : Int) (k : Nat) : World := (w.alloc (.cells (tabA 0 0) 48)).alloc (.cells (tabA b k) 48)
theorem EW_heap (w : World) (b : Int) (k : Nat) : (EW w b k).heap[w.heap.size + 1]? = some (.cells (tabA b k) 48 (0, 0)) := heap_alloc2_new w _ _
theorem EW_cell (w : World) (b : Int) (k j : Nat) (h : j < 64) : (EW w b k).cell? ⟨w.heap.size + 1, j, none⟩ = some (if j < k then Value.int .u8 b else .int .u8 0) := by
  rw [cell_of_row _ _ j _ _ _ (EW_heap w b k), tabA_get b k j h]
theorem EW_frozen (w : World) (b : Int) (k j : Nat) : (EW w b k).frozen? ⟨w.heap.size + 1, j, none⟩ = false := frozen_of_row _ _ j _ _ (EW_heap w b k)
theorem EW_set (w : World) (b : Int) (k : Nat) (h : k < 64) : (EW w b k).setCell ⟨w.heap.size + 1, k, none⟩ (.int .u8 b) = EW w b (k + 1) := by
  rw [setCell_eq_setRow _ _ k _ _ _ _ (EW_heap w b k), tabA_set b k h]
  have := World.setRow_alloc_new (w.alloc (.cells (tabA 0 0) 48)) (tabA b k) (tabA b (k + 1)) 48
  rw [show (w.alloc (.cells (tabA 0 0) 48)).heap.size = w.heap.size + 1 from by simp] at this
  exact this
theorem EW_below (w : World) (b : Int) (k : Nat) : Below w.heap.size w (EW w b k) := ((Below.refl _ _).alloc (Nat.le_refl _) _).alloc (by simp) _

set_option maxHeartbeats 400000 in
theorem filled_any (b : Int) (w : World) : Calls Try.prog 19 #[.int .u8 b] w fun e w' => e = .returned (.agg (secA b)) ∧ Below w.heap.size w w' := by
  have hzero := (zero_of_info arr_info).1
  have hinfo := Lib.hid (zero_of_info arr_info).2
  go_enter Try.func19, Try.ntmps19
  go_wp2
  go_loopw [4] (fun i wr => ∃ k : Nat, k ≤ 64 ∧ i = .int .i64 k ∧ wr = EW w b k) (fun i _ => 64 - (intOf i).toNat)
  case atStart => exact ⟨0, Nat.zero_le _, rfl, rfl⟩
  case round =>
    obtain ⟨k, hk, rfl, rfl⟩ := hrel
    by_cases hlt : k < 64
    · have hcell := EW_cell w b k k hlt
      have hfr := EW_frozen w b k k
      go_wp2
      refine ⟨⟨k + 1, by omega, by go_num, EW_set w b k hlt⟩, by simp [intOf]; omega⟩
    · have K16 := Lib.hid (show k = 64 from by omega)
      go_wp2_with (first
        | refine wpList_load_row rfl 48 (.tmp 3) rfl (w.heap.size + 1) rfl 48 (tabA b k) (0, 0) _ (EW_heap w b k) Try.underlying48 rfl (by rw [tabA_size]; exact hinfo.out) ?_
        | refine wpList_store_row rfl 48 (.tmp 2) (.tmp 12) rfl w.heap.size (tabA b k) rfl rfl 48 (tabA 0 0) (heap_alloc2_old w _ _) (by rw [tabA_size]; exact hinfo.out) (by rw [tabA_size, tabA_size]) (tabA_one b k) ?_)
      refine bodyPost_ret (v := .agg (secA b)) ?_ rfl ⟨rfl, ?_⟩
      · rw [← tabA_full, ← K16.out]
        exact results_cell_row Try.results19 _ _ w.heap.size 48 (tabA b k) (0, 0) _ rfl (setRow_heap _ _ _ _ _ _ (heap_alloc2_old w _ _)) Try.underlying48 rfl (by rw [tabA_size]; exact hinfo.out)
      · exact below_setRow (EW_below w b k) (Nat.le_refl _) _

/-- New sectors come back; nothing that was there has turned. -/
def RetS (w : World) (l : List Int) (e : Ending) (w' : World) : Prop :=
  ∃ A c, e = .returned (.slice A l.length c) ∧ w'.ownsRow w.heap.size 48 64 (.slice A l.length c) l.length (flat l) ∧ Below w.heap.size w w'
theorem RetS.mk {w w' : World} {l : List Int} {v : Value} {n : Nat} (h : w'.ownsRow w.heap.size 48 64 v n (flat l)) (hb : Below w.heap.size w w') : RetS w l (.returned v) w' := by
  have hl : l.length = n := by have := h.1; rw [flat_length] at this; omega
  subst hl
  obtain ⟨A, c, rfl, _⟩ := own_slice h
  exact ⟨A, c, rfl, h, hb⟩
/-- New bools come back. -/
def RetK (w : World) (l : List Bool) (e : Ending) (w' : World) : Prop :=
  ∃ A c, e = .returned (.slice A l.length c) ∧ w'.ownsRow w.heap.size 4 1 (.slice A l.length c) l.length (BL l) ∧ Below w.heap.size w w'
theorem RetK.mk {w w' : World} {l : List Bool} {v : Value} {n : Nat} (h : w'.ownsRow w.heap.size 4 1 v n (BL l)) (hb : Below w.heap.size w w') : RetK w l (.returned v) w' := by
  have hl : l.length = n := by have := h.1; rw [BL_length] at this; omega
  subst hl
  obtain ⟨A, c, rfl, _⟩ := own_slice h
  exact ⟨A, c, rfl, h, hb⟩

set_option maxHeartbeats 400000 in
theorem cloneS_some (X : Nat → Prop) (n c : Nat) (a : Addr) (l : List Int) (w : World) (h : Lz X w 64 (some a) n (flat l)) (hn : n ≤ 100000) :
    Calls Try.prog 23 #[.slice (some a) n c] w fun e w' => ∃ v, e = .returned v ∧ w'.ownsRow w.heap.size 48 64 v n (flat l) ∧ Below w.heap.size w w' := by
  obtain ⟨i0, hi0, hz0, hz1, hz2⟩ := info_parts arr_info3
  have hnil := fun W => Lib.run_eql_slice_nil (P := Try.prog) W 29 48 (some a) n c 0 0 Try.underlying29
  have HH := Lib.hid h
  clear h
  have hm : (w.alloc (.cells #[] 48)).ownsRow w.heap.size 48 64 (.slice (some ⟨w.heap.size, 0, none⟩) 0 0) 0 [] := World.ownsRow_made w #[] 0 (Nat.le_refl _) (by simp [maxLen]) rfl
  have HM := Lib.hid hm
  clear hm
  go_enter Try.func23, Try.ntmps23
  go_wp2_with (at_builtin; refine wpList_app _ rfl (.tmp 5) (.tmp 6) _ rfl w.heap.size 48 i0 _ 64 64 Try.underlying29 hi0 hz0 hz1 hz2 (tabA_size 0 0) (by omega) _ 0 [] rfl HM.out a n c (flat l) rfl HH.out.len (HH.out.alloc _).cells (flat_one l) (by simp only [maxLen]; omega) (by omega) (by simp) ?_; intro v1 w1 hown hg)
  go_ret
  exact ⟨v1, rfl, by simpa using hown, below_own ((Below.refl _ _).alloc (Nat.le_refl _) _) HM.out hg (Nat.le_refl _) (by simp)⟩
set_option maxHeartbeats 400000 in
theorem cloneS_none (n c : Nat) (w : World) :
    Calls Try.prog 23 #[.slice none n c] w fun e w' => e = .returned (.slice none 0 0) ∧ w = w' := by
  have hnil := fun W => Lib.run_eql_slice_nil (P := Try.prog) W 29 48 none n c 0 0 Try.underlying29
  go_enter Try.func23, Try.ntmps23
  go_wp2_with fail
  go_ret
  exact ⟨rfl, rfl⟩
theorem cloneS_any (X : Nat → Prop) (n c : Nat) (A : Option Addr) (l : List Int) (w : World) (h : Lz X w 64 A n (flat l)) (hn : n ≤ 100000) :
    Calls Try.prog 23 #[.slice A n c] w (RetS w l) := by
  cases A with
  | some a =>
    refine (cloneS_some X n c a l w h hn).mono ?_
    rintro e w' ⟨v, rfl, ho, hb⟩
    exact RetS.mk ho hb
  | none =>
    refine (cloneS_none n c w).mono ?_
    rintro e w' ⟨rfl, rfl⟩
    obtain ⟨rfl, h2⟩ := h.nil_of_none
    have : l = [] := List.eq_nil_of_length_eq_zero (by have := flat_length l; rw [h2] at this; simp at this; omega)
    subst this
    exact RetS.mk (World.ownsRow_nil w w.heap.size 48 64) (Below.refl _ _)

set_option maxHeartbeats 400000 in
theorem cloneK_some (X : Nat → Prop) (n c : Nat) (a : Addr) (l : List Bool) (w : World) (h : Lz X w 1 (some a) n (BL l)) (hn : n ≤ 100000) :
    Calls Try.prog 24 #[.slice (some a) n c] w fun e w' => ∃ v, e = .returned v ∧ w'.ownsRow w.heap.size 4 1 v n (BL l) ∧ Below w.heap.size w w' := by
  obtain ⟨i0, hi0, hz0, hz1, hz2⟩ := info_parts bool_info3
  have hnil := fun W => Lib.run_eql_slice_nil (P := Try.prog) W 30 4 (some a) n c 0 0 Try.underlying30
  have HH := Lib.hid h
  clear h
  have hm : (w.alloc (.cells #[] 4)).ownsRow w.heap.size 4 1 (.slice (some ⟨w.heap.size, 0, none⟩) 0 0) 0 [] := World.ownsRow_made w #[] 0 (Nat.le_refl _) (by simp [maxLen]) rfl
  have HM := Lib.hid hm
  clear hm
  go_enter Try.func24, Try.ntmps24
  go_wp2_with (at_builtin; refine wpList_app _ rfl (.tmp 5) (.tmp 6) _ rfl w.heap.size 4 i0 _ 1 1 Try.underlying30 hi0 hz0 hz1 hz2 rfl (by omega) _ 0 [] rfl HM.out a n c (BL l) rfl HH.out.len (HH.out.alloc _).cells (BL_one l) (by simp only [maxLen]; omega) (by omega) (by simp) ?_; intro v1 w1 hown hg)
  go_ret
  exact ⟨v1, rfl, by simpa using hown, below_own ((Below.refl _ _).alloc (Nat.le_refl _) _) HM.out hg (Nat.le_refl _) (by simp)⟩
set_option maxHeartbeats 400000 in
theorem cloneK_none (n c : Nat) (w : World) :
    Calls Try.prog 24 #[.slice none n c] w fun e w' => e = .returned (.slice none 0 0) ∧ w = w' := by
  have hnil := fun W => Lib.run_eql_slice_nil (P := Try.prog) W 30 4 none n c 0 0 Try.underlying30
  go_enter Try.func24, Try.ntmps24
  go_wp2_with fail
  go_ret
  exact ⟨rfl, rfl⟩
theorem cloneK_any (X : Nat → Prop) (n c : Nat) (A : Option Addr) (l : List Bool) (w : World) (h : Lz X w 1 A n (BL l)) (hn : n ≤ 100000) :
    Calls Try.prog 24 #[.slice A n c] w (RetK w l) := by
  cases A with
  | some a =>
    refine (cloneK_some X n c a l w h hn).mono ?_
    rintro e w' ⟨v, rfl, ho, hb⟩
    exact RetK.mk ho hb
  | none =>
    refine (cloneK_none n c w).mono ?_
    rintro e w' ⟨rfl, rfl⟩
    obtain ⟨rfl, h2⟩ := h.nil_of_none
    have : l = [] := List.eq_nil_of_length_eq_zero (by have := BL_length l; rw [h2] at this; simp at this; omega)
    subst this
    exact RetK.mk (World.ownsRow_nil w w.heap.size 4 1) (Below.refl _ _)
end Go.Proofs.Ytggcfbglfmcdmaa
