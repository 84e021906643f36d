/-
  Walks: slices.Clone of sectors and of bools.
  Conditions: slices of at most 100000 elements.
-/
import Derived.Test.YthicidpdgggbjaaDoorProg
import Derived.Test.YthicidpdgggbjaaDoorQ1
import Derived.WalkLawsBesides
import Derived.WalkSpells
import Derived.OwnWalk
import Derived.Lib.SliceRun
import Derived.Deep.QuietTactic
import Derived.BigQuiet
namespace Go.Proofs.YthicidpdgggbjaaDoor
open Go.RowKit

theorem pl_int_same {k : IntKind} {a b : Int} (h : a = b) : Value.int k a = .int k b := by rw [h]

theorem zsec_lit : secA zsec = Array.replicate 64 (.int .u8 0) := by rw [secA, sec_zero, List.toArray_replicate]
theorem pl_arr_info : (Tryd.prog.info? 68).map (fun i => (i.zero, i.size)) = some (some (.agg (secA zsec)), 64) := by kernel_rfl
theorem arr_info3 : (Tryd.prog.info? 68).map (fun i => (i.zero, i.size, i.bytes)) = some (some (.agg (secA zsec)), 64, 64) := by kernel_rfl
theorem arr_size : (Tryd.prog.info? 68).map (·.size) = some 64 := (zero_of_info pl_arr_info).2
theorem bool_info3 : (Tryd.prog.info? 4).map (fun i => (i.zero, i.size, i.bytes)) = some (some (.bool false), 1, 1) := by kernel_rfl
theorem pl_cells5 : Tryd.prog.cellsOf 5 = 1 := by kernel_rfl
theorem pl_info5 : ∃ i, Tryd.prog.info? 5 = some i := Option.isSome_iff_exists.1 (show (Tryd.prog.info? 5).isSome = true by kernel_rfl)

/-- New sectors come back; nothing that was there has turned. -/
def RetS (w : World) (l : List Sect) (e : Ending) (w' : World) : Prop :=
  ∃ A c, e = .returned (.slice A l.length c) ∧ w'.ownsRow w.heap.size 68 64 (.slice A l.length c) l.length (flat l) ∧ Below w.heap.size w w'
theorem RetS.mk {w w' : World} {l : List Sect} {v : Value} {n : Nat} (h : w'.ownsRow w.heap.size 68 64 v n (flat l)) (hb : Below w.heap.size w w') : RetS w l (.returned v) w' := by
  have hl : l.length = n := by have := h.1; rw [flat_length] at this; omega
  subst hl
  obtain ⟨A, c, rfl, _⟩ := pl_own_slice h
  exact ⟨A, c, rfl, h, hb⟩
/-- New bools come back. -/
def RetK (w : World) (l : List Bool) (e : Ending) (w' : World) : Prop :=
  ∃ A c, e = .returned (.slice A l.length c) ∧ w'.ownsRow w.heap.size 4 1 (.slice A l.length c) l.length (BL l) ∧ Below w.heap.size w w'
theorem RetK.mk {w w' : World} {l : List Bool} {v : Value} {n : Nat} (h : w'.ownsRow w.heap.size 4 1 v n (BL l)) (hb : Below w.heap.size w w') : RetK w l (.returned v) w' := by
  have hl : l.length = n := by have := h.1; rw [BL_length] at this; omega
  subst hl
  obtain ⟨A, c, rfl, _⟩ := pl_own_slice h
  exact ⟨A, c, rfl, h, hb⟩

set_option maxHeartbeats 400000 in
theorem cloneS_some (X : Nat → Prop) (n c : Nat) (a : Addr) (l : List Sect) (w : World) (h : Lz X w 64 (some a) n (flat l)) (hn : n ≤ 100000) :
    Calls Tryd.prog 64 #[.slice (some a) n c] w fun e w' => ∃ v, e = .returned v ∧ w'.ownsRow w.heap.size 68 64 v n (flat l) ∧ Below w.heap.size w w' := by
  obtain ⟨i0, hi0, hz0, hz1, hz2⟩ := info_parts arr_info3
  have hnil := fun W => Lib.run_eql_slice_nil (P := Tryd.prog) W 62 68 (some a) n c 0 0 Tryd.underlying62
  have HH := Lib.hid h
  clear h
  have hm : (w.alloc (.cells #[] 68)).ownsRow w.heap.size 68 64 (.slice (some ⟨w.heap.size, 0, none⟩) 0 0) 0 [] := World.ownsRow_made w #[] 0 (Nat.le_refl _) (by simp [maxLen]) rfl
  have HM := Lib.hid hm
  clear hm
  go_enter Tryd.func64, Tryd.ntmps64
  go_wp2_with (at_builtin; refine pl_wpList_app _ rfl (.tmp 5) (.tmp 6) _ rfl w.heap.size 68 i0 _ 64 64 Tryd.underlying62 hi0 hz0 hz1 hz2 (secA_size zsec) (by omega) _ 0 [] rfl HM.out a n c (flat l) rfl HH.out.len (HH.out.alloc _).cells (flat_one l) (by simp only [maxLen]; omega) (by omega) (by simp) ?_; intro v1 w1 hown hg)
  go_ret
  exact ⟨v1, rfl, by simpa using hown, pl_below_own ((Below.refl _ _).alloc (Nat.le_refl _) _) HM.out hg (Nat.le_refl _) (by simp)⟩
set_option maxHeartbeats 400000 in
theorem cloneS_none (n c : Nat) (w : World) :
    Calls Tryd.prog 64 #[.slice none n c] w fun e w' => e = .returned (.slice none 0 0) ∧ w = w' := by
  have hnil := fun W => Lib.run_eql_slice_nil (P := Tryd.prog) W 62 68 none n c 0 0 Tryd.underlying62
  go_enter Tryd.func64, Tryd.ntmps64
  go_wp2_with fail
  go_ret
  exact ⟨rfl, rfl⟩
theorem cloneS_any (X : Nat → Prop) (n c : Nat) (A : Option Addr) (l : List Sect) (w : World) (h : Lz X w 64 A n (flat l)) (hn : n ≤ 100000) :
    Calls Tryd.prog 64 #[.slice A n c] w (RetS w l) := by
  cases A with
  | some a =>
    refine (cloneS_some X n c a l w h hn).mono ?_
    rintro e w' ⟨v, rfl, ho, hb⟩
    exact RetS.mk ho hb
  | none =>
    refine (cloneS_none n c w).mono ?_
    rintro e w' ⟨rfl, rfl⟩
    obtain ⟨rfl, h2⟩ := h.nil_of_none
    have : l = [] := List.eq_nil_of_length_eq_zero (by have := flat_length l; rw [h2] at this; simp at this; omega)
    subst this
    exact RetS.mk (World.ownsRow_nil w w.heap.size 68 64) (Below.refl _ _)

set_option maxHeartbeats 400000 in
theorem cloneK_some (X : Nat → Prop) (n c : Nat) (a : Addr) (l : List Bool) (w : World) (h : Lz X w 1 (some a) n (BL l)) (hn : n ≤ 100000) :
    Calls Tryd.prog 63 #[.slice (some a) n c] w fun e w' => ∃ v, e = .returned v ∧ w'.ownsRow w.heap.size 4 1 v n (BL l) ∧ Below w.heap.size w w' := by
  obtain ⟨i0, hi0, hz0, hz1, hz2⟩ := info_parts bool_info3
  have hnil := fun W => Lib.run_eql_slice_nil (P := Tryd.prog) W 43 4 (some a) n c 0 0 Tryd.underlying43
  have HH := Lib.hid h
  clear h
  have hm : (w.alloc (.cells #[] 4)).ownsRow w.heap.size 4 1 (.slice (some ⟨w.heap.size, 0, none⟩) 0 0) 0 [] := World.ownsRow_made w #[] 0 (Nat.le_refl _) (by simp [maxLen]) rfl
  have HM := Lib.hid hm
  clear hm
  go_enter Tryd.func63, Tryd.ntmps63
  go_wp2_with (at_builtin; refine pl_wpList_app _ rfl (.tmp 5) (.tmp 6) _ rfl w.heap.size 4 i0 _ 1 1 Tryd.underlying43 hi0 hz0 hz1 hz2 rfl (by omega) _ 0 [] rfl HM.out a n c (BL l) rfl HH.out.len (HH.out.alloc _).cells (BL_one l) (by simp only [maxLen]; omega) (by omega) (by simp) ?_; intro v1 w1 hown hg)
  go_ret
  exact ⟨v1, rfl, by simpa using hown, pl_below_own ((Below.refl _ _).alloc (Nat.le_refl _) _) HM.out hg (Nat.le_refl _) (by simp)⟩
set_option maxHeartbeats 400000 in
theorem cloneK_none (n c : Nat) (w : World) :
    Calls Tryd.prog 63 #[.slice none n c] w fun e w' => e = .returned (.slice none 0 0) ∧ w = w' := by
  have hnil := fun W => Lib.run_eql_slice_nil (P := Tryd.prog) W 43 4 none n c 0 0 Tryd.underlying43
  go_enter Tryd.func63, Tryd.ntmps63
  go_wp2_with fail
  go_ret
  exact ⟨rfl, rfl⟩
theorem cloneK_any (X : Nat → Prop) (n c : Nat) (A : Option Addr) (l : List Bool) (w : World) (h : Lz X w 1 A n (BL l)) (hn : n ≤ 100000) :
    Calls Tryd.prog 63 #[.slice A n c] w (RetK w l) := by
  cases A with
  | some a =>
    refine (cloneK_some X n c a l w h hn).mono ?_
    rintro e w' ⟨v, rfl, ho, hb⟩
    exact RetK.mk ho hb
  | none =>
    refine (cloneK_none n c w).mono ?_
    rintro e w' ⟨rfl, rfl⟩
    obtain ⟨rfl, h2⟩ := h.nil_of_none
    have : l = [] := List.eq_nil_of_length_eq_zero (by have := BL_length l; rw [h2] at this; simp at this; omega)
    subst this
    exact RetK.mk (World.ownsRow_nil w w.heap.size 4 1) (Below.refl _ _)
end Go.Proofs.YthicidpdgggbjaaDoor
