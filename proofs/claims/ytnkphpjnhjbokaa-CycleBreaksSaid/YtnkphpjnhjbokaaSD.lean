/-
  slices.Clone of arcs, graphOf; the graph in memory.
  Conditions: at most 100000 arcs.
-/
import Derived.Test.YtnkphpjnhjbokaaSC
namespace Go.Proofs.Ytnkphpjnhjbokaa
open Go.RowKit Go.Shelf
attribute [local go_sem] Oper.semAt_some
set_option maxRecDepth 20000

set_option maxHeartbeats 400000 in
theorem clone_some (X : Nat → Prop) (n c : Nat) (a : Addr) (l : List Ar) (w : World) (h : Lz X w 2 (some a) n (arL l)) (hn : n ≤ 100000) :
    Calls Try.prog 33 #[.slice (some a) n c] w fun e w' => ∃ v, e = .returned v ∧ w'.ownsRow w.heap.size 40 2 v n (arL l) ∧ Below w.heap.size w w' := by
  obtain ⟨i0, z0, hi0, hz0, hz1, hz2, hz3⟩ := a_info
  have hnil := fun W => Lib.run_eql_slice_nil (P := Try.prog) W 27 40 (some a) n c 0 0 Try.underlying27
  have HH := Lib.hid h
  clear h
  have hm : (w.alloc (.cells #[] 40)).ownsRow w.heap.size 40 2 (.slice (some ⟨w.heap.size, 0, none⟩) 0 0) 0 [] := World.ownsRow_made w #[] 0 (Nat.le_refl _) (by simp [maxLen]) rfl
  have HM := Lib.hid hm
  clear hm
  go_enter Try.func33, Try.ntmps33
  go_wp2_with (at_builtin; refine pl_wpList_app _ rfl (.tmp 5) (.tmp 6) _ rfl w.heap.size 40 i0 _ 2 16 Try.underlying27 hi0 hz0 hz1 hz2 hz3 (by omega) _ 0 [] rfl HM.out a n c (arL l) rfl HH.out.len (HH.out.alloc _).cells (arL_one l) (by simp only [maxLen]; omega) (by omega) (by simp) ?_; intro v1 w1 hown hg)
  go_ret
  exact ⟨v1, rfl, by simpa using hown, pl_below_own ((Below.refl _ _).alloc (Nat.le_refl _) _) HM.out hg (Nat.le_refl _) (by simp)⟩
set_option maxHeartbeats 400000 in
theorem clone_none (n c : Nat) (w : World) : Calls Try.prog 33 #[.slice none n c] w fun e w' => e = .returned (.slice none 0 0) ∧ w = w' := by
  have hnil := fun W => Lib.run_eql_slice_nil (P := Try.prog) W 27 40 none n c 0 0 Try.underlying27
  go_enter Try.func33, Try.ntmps33
  go_wp2_with fail
  go_ret
  exact ⟨rfl, rfl⟩
theorem clone_any (X : Nat → Prop) (n c : Nat) (A : Option Addr) (l : List Ar) (w : World) (h : Lz X w 2 A n (arL l)) (hn : n ≤ 100000) : Calls Try.prog 33 #[.slice A n c] w (RetA w l) := by
  have hlen := h.arlen
  cases A with
  | some a =>
    refine (clone_some X n c a l w h hn).mono ?_
    rintro e w' ⟨v, rfl, ho, hb⟩
    exact RetA.mk hlen ho hb
  | none =>
    refine (clone_none n c w).mono ?_
    rintro e w' ⟨rfl, rfl⟩
    obtain ⟨rfl, h2⟩ := h.nil_of_none
    have : l = [] := List.eq_nil_of_length_eq_zero hlen
    subst this
    exact RetA.mk rfl (World.ownsRow_nil w w.heap.size 40 2) (Below.refl _ _)
/-- The same arcs, in order, in a row of the call's own. -/
structure GrS (w : World) (l g : List Ar) (v : Value) (n : Nat) (z : World) : Prop where
  perm : g.Perm l
  up : g.Pairwise arLe
  len : l.length = n
  own : z.ownsRow w.heap.size 40 2 v n (arL g)
  below : Below w.heap.size w z
def RetG (w : World) (l : List Ar) (n : Nat) (e : Ending) (z : World) : Prop := ∃ A c g, e = .returned (.slice A n c) ∧ GrS w l g (.slice A n c) n z
set_option maxHeartbeats 800000 in
theorem graphOf_any (X : Nat → Prop) (n c : Nat) (A : Option Addr) (l : List Ar) (w : World) (h : Lz X w 2 A n (arL l)) (hn : n ≤ 100000) : Calls Try.prog 24 #[.slice A n c] w (RetG w l n) := by
  have hlen := h.arlen
  have HC := Lib.hid (clone_any X n c A l w h hn)
  clear h
  go_enter Try.func24, Try.ntmps24
  go_wp2_with fail
  refine HC.out.mono ?_
  intro e z ⟨B, cB, he, ho, hb⟩
  rw [hlen] at he ho
  subst he
  have HS := Lib.hid (sort_any w.heap.size (.slice B n cB) l z (by rw [hlen]; exact ho) (by omega))
  have HO := Lib.hid ho
  have HB := Lib.hid hb
  clear ho hb HC
  go_wp2_with fail
  refine HS.out.mono ?_
  intro e y ⟨he, g, hp, hu, ho, hg⟩
  rw [hlen] at ho
  subst he
  have HG : Hid (GrS w l g (.slice B n cB) n y) := ⟨hp, hu, hlen, ho, below_own HB.out HO.out hg (Nat.le_refl _) HB.out.size⟩
  clear hp hu ho hg HS
  go_wp2_with fail
  go_ret
  exact ⟨B, cB, g, rfl, HG.out⟩
end Go.Proofs.Ytnkphpjnhjbokaa
