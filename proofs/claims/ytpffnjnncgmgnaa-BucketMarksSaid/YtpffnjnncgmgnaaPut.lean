/-
  Walks: Same, slices.Clone, the two Put functions.
  Conditions: slices of at most 100000 bytes.
-/
import Derived.Test.YtpffnjnncgmgnaaProg
import Derived.Test.YtpffnjnncgmgnaaBase
import Derived.Test.YtpffnjnncgmgnaaMath
import Derived.WalkLawsBesides
import Derived.WalkSpells
import Derived.Lib.SliceRun
import Derived.Laws.BytesArg
namespace Go.Proofs.Ytpffnjnncgmgnaa
open Go.RowKit
set_option maxRecDepth 8000

theorem run_conv {P : Program} {w : World} {B n : Nat} {A : Option Addr} {l : List UInt8} (h : Lies w B 1 A n (BC l)) (src dst e : TypeId) (c : Nat)
    (hs : P.underlying src = some (.slice e)) (he : P.underlying e = some (.int .u8)) (hd : P.underlying dst = some .string) :
    (convert src dst (.slice A n c)).run P w = .ok (.string (strOf l)) w := by
  have hl : l.length = n := by have := h.len; rw [BC_length] at this; omega
  cases A with
  | none =>
    have hn : n = 0 := by
      by_cases hn : n = 0
      · exact hn
      · obtain ⟨a, ha, _⟩ := h.spot (by omega)
        cases ha
    subst hn
    have : l = [] := List.eq_nil_of_length_eq_zero hl
    subst this
    exact run_convert_bytes_nil w src e hs he 0 c dst hd
  | some a =>
    have hcells : ∀ j u, (BC l)[j]? = some u → w.cell? (a.add j) = some u := by
      intro j u hu
      have hj : j < n := by
        rcases Nat.lt_or_ge j n with hj | hj
        · exact hj
        · rw [List.getElem?_eq_none (by rw [BC_length]; omega)] at hu
          cases hu
      obtain ⟨a', ha, _, hx⟩ := h.spot (by omega)
      cases ha
      exact hx j u hu
    have e1 : (l.map fun b => (b.toNat : Int)).map (Value.int .u8) = BC l := by simp [BC]
    have hload : (loadCells a n).run P w = .ok ((l.map fun b => (b.toNat : Int)).map (Value.int .u8)).toArray w := by
      rw [e1]
      have := run_loadCells_list (P := P) w a (BC l) hcells
      rwa [BC_length, hl] at this
    rw [run_convert_bytes_string w src dst e _ n c hs he hd, run_bytesToString w a n c _ hload, foldl_push_bytes]
    simp [strOf, ByteArray.empty, ByteArray.emptyWithCapacity, Function.comp_def]
    rfl

theorem u8_info : (Try.prog.info? 5).map (fun i => (i.zero, i.size, i.bytes)) = some (some (.int .u8 0), 1, 1) := by kernel_rfl

set_option maxHeartbeats 400000 in
theorem clone_some (B n c : Nat) (a : Addr) (l : List UInt8) (w : World) (h : Lies w B 1 (some a) n (BC l)) (hB : B ≤ w.heap.size) (hn : n ≤ 100000) :
    Calls Try.prog 61 #[.slice (some a) n c] w fun e w' => ∃ v, e = .returned v ∧ w'.ownsRow w.heap.size 5 1 v n (BC l) ∧ Below w.heap.size w w' := by
  obtain ⟨i0, hi0, hz0, hz1, hz2⟩ := info_parts u8_info
  have hnil := fun W => Lib.run_eql_slice_nil (P := Try.prog) W 67 5 (some a) n c 0 0 Try.underlying67
  have HH := Lib.hid h
  clear h
  go_enter Try.func61, Try.ntmps61
  go_wp2_with (at_builtin; refine wpList_app _ rfl (.tmp 5) (.tmp 6) _ rfl w.heap.size 5 i0 _ 1 1 Try.underlying67 hi0 hz0 hz1 hz2 rfl (by omega) _ 0 [] rfl (World.ownsRow_made w #[] 0 (Nat.le_refl _) (by simp [maxLen]) rfl) B (some a) n c (BC l) rfl (HH.out.alloc hB _) (BC_one l) (by simp only [maxLen]; omega) (by omega) (by simp) ?_; intro v1 w1 hown hg)
  go_ret
  exact ⟨v1, rfl, by simpa using hown, below_own ((Below.refl _ _).alloc (Nat.le_refl _) _) (World.ownsRow_made (base := w.heap.size) (e := 5) (size := 1) w #[] 0 (Nat.le_refl _) (by simp [maxLen]) rfl) hg (Nat.le_refl _) (by simp)⟩

set_option maxHeartbeats 400000 in
theorem clone_none (n c : Nat) (w : World) :
    Calls Try.prog 61 #[.slice none n c] w fun e w' => e = .returned (.slice none 0 0) ∧ w = w' := by
  have hnil := fun W => Lib.run_eql_slice_nil (P := Try.prog) W 67 5 none n c 0 0 Try.underlying67
  go_enter Try.func61, Try.ntmps61
  go_wp2_with fail
  go_ret
  exact ⟨rfl, rfl⟩

/-- A new row of bytes comes back; nothing that was there has turned. -/
def RetB (w : World) (l : List UInt8) (e : Ending) (w' : World) : Prop :=
  ∃ A c, e = .returned (.slice A l.length c) ∧ w'.ownsRow w.heap.size 5 1 (.slice A l.length c) l.length (BC l) ∧ Below w.heap.size w w'

theorem RetB.mk {w w' : World} {l : List UInt8} {v : Value} {n : Nat} (h : w'.ownsRow w.heap.size 5 1 v n (BC l)) (hb : Below w.heap.size w w') : RetB w l (.returned v) w' := by
  have hl : l.length = n := by have := h.1; rw [BC_length] at this; omega
  subst hl
  obtain ⟨A, c, rfl, _⟩ := own_slice h
  exact ⟨A, c, rfl, h, hb⟩

theorem clone_any (B n c : Nat) (A : Option Addr) (l : List UInt8) (w : World) (h : Lies w B 1 A n (BC l)) (hB : B ≤ w.heap.size) (hn : n ≤ 100000) :
    Calls Try.prog 61 #[.slice A n c] w (RetB w l) := by
  cases A with
  | some a =>
    refine (clone_some B n c a l w h hB hn).mono ?_
    rintro e w' ⟨v, rfl, ho, hb⟩
    exact RetB.mk ho hb
  | none =>
    refine (clone_none n c w).mono ?_
    rintro e w' ⟨rfl, rfl⟩
    have hn : n = 0 := by
      by_cases hn : n = 0
      · exact hn
      · obtain ⟨a, ha, _⟩ := h.spot (by omega)
        cases ha
    have : l = [] := List.eq_nil_of_length_eq_zero (by have := h.len; rw [BC_length] at this; omega)
    subst this
    exact RetB.mk (World.ownsRow_nil w w.heap.size 5 1) (Below.refl _ _)
end Go.Proofs.Ytpffnjnncgmgnaa
