/-
  Walks: Same, slices.Clone, the two Put functions.
  Conditions: slices of at most 100000 bytes.
-/
import Derived.Test.YtgjkbnplpioloaaProg
import Derived.Test.YtgjkbnplpioloaaBase
import Derived.Test.YtgjkbnplpioloaaMath
import Derived.WalkLawsBesides
import Derived.WalkSpells
import Derived.Lib.SliceRun
import Derived.Laws.BytesArg
namespace Go.Proofs.Ytgjkbnplpioloaa
open Go.RowKit
set_option maxRecDepth 8000

theorem u8_info : (Try.prog.info? 5).map (fun i => (i.zero, i.size, i.bytes)) = some (some (.int .u8 0), 1, 1) := by kernel_rfl

set_option maxHeartbeats 400000 in
theorem clone_some (B n c : Nat) (a : Addr) (l : List UInt8) (w : World) (h : Lies w B 1 (some a) n (BC l)) (hB : B ≤ w.heap.size) (hn : n ≤ 100000) :
    Calls Try.prog 60 #[.slice (some a) n c] w fun e w' => ∃ v, e = .returned v ∧ w'.ownsRow w.heap.size 5 1 v n (BC l) ∧ Below w.heap.size w w' := by
  obtain ⟨i0, hi0, hz0, hz1, hz2⟩ := info_parts u8_info
  have hnil := fun W => Lib.run_eql_slice_nil (P := Try.prog) W 79 5 (some a) n c 0 0 Try.underlying79
  have HH := Lib.hid h
  clear h
  go_enter Try.func60, Try.ntmps60
  go_wp2_with (at_builtin; refine wpList_app _ rfl (.tmp 5) (.tmp 6) _ rfl w.heap.size 5 i0 _ 1 1 Try.underlying79 hi0 hz0 hz1 hz2 rfl (by omega) _ 0 [] rfl (World.ownsRow_made w #[] 0 (Nat.le_refl _) (by simp [maxLen]) rfl) B (some a) n c (BC l) rfl (HH.out.alloc hB _) (BC_one l) (by simp only [maxLen]; omega) (by omega) (by simp) ?_; intro v1 w1 hown hg)
  go_ret
  exact ⟨v1, rfl, by simpa using hown, below_own ((Below.refl _ _).alloc (Nat.le_refl _) _) (World.ownsRow_made (base := w.heap.size) (e := 5) (size := 1) w #[] 0 (Nat.le_refl _) (by simp [maxLen]) rfl) hg (Nat.le_refl _) (by simp)⟩

set_option maxHeartbeats 400000 in
theorem clone_none (n c : Nat) (w : World) :
    Calls Try.prog 60 #[.slice none n c] w fun e w' => e = .returned (.slice none 0 0) ∧ w = w' := by
  have hnil := fun W => Lib.run_eql_slice_nil (P := Try.prog) W 79 5 none n c 0 0 Try.underlying79
  go_enter Try.func60, Try.ntmps60
  go_wp2_with fail
  go_ret
  exact ⟨rfl, rfl⟩

/-- A new row of bytes comes back; nothing that was there has turned. -/
def RetB (w : World) (l : List UInt8) (e : Ending) (w' : World) : Prop :=
  ∃ A c, e = .returned (.slice A l.length c) ∧ w'.ownsRow w.heap.size 5 1 (.slice A l.length c) l.length (BC l) ∧ Below w.heap.size w w'

theorem RetB.mk {w w' : World} {l : List UInt8} {v : Value} {n : Nat} (h : w'.ownsRow w.heap.size 5 1 v n (BC l)) (hb : Below w.heap.size w w') : RetB w l (.returned v) w' := by
  have hl : l.length = n := by have := h.1; rw [BC_length] at this; omega
  subst hl
  obtain ⟨A, c, rfl, _⟩ := own_slice h
  exact ⟨A, c, rfl, h, hb⟩

theorem clone_any (B n c : Nat) (A : Option Addr) (l : List UInt8) (w : World) (h : Lies w B 1 A n (BC l)) (hB : B ≤ w.heap.size) (hn : n ≤ 100000) :
    Calls Try.prog 60 #[.slice A n c] w (RetB w l) := by
  cases A with
  | some a =>
    refine (clone_some B n c a l w h hB hn).mono ?_
    rintro e w' ⟨v, rfl, ho, hb⟩
    exact RetB.mk ho hb
  | none =>
    refine (clone_none n c w).mono ?_
    rintro e w' ⟨rfl, rfl⟩
    have hn : n = 0 := by
      by_cases hn : n = 0
      · exact hn
      · obtain ⟨a, ha, _⟩ := h.spot (by omega)
        cases ha
    have : l = [] := List.eq_nil_of_length_eq_zero (by have := h.len; rw [BC_length] at this; omega)
    subst this
    exact RetB.mk (World.ownsRow_nil w w.heap.size 5 1) (Below.refl _ _)
end Go.Proofs.Ytgjkbnplpioloaa
