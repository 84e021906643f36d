/-
  Walks: sectors, the reference's Same.
  Conditions: slices of at most 100000 elements.
-/
import Derived.Test.YtggcfbglfmcdmaaA1
import Derived.Test.YtggcfbglfmcdmaaLit
namespace Go.Proofs.Ytggcfbglfmcdmaa
open Go.RowKit

theorem take_snoc {α : Type} (l : List α) (k : Nat) (h : k < l.length) : l.take (k + 1) = l.take k ++ [l[k]] := List.take_succ_eq_append_getElem h
theorem row_new (w : World) (c : List Value) (t : TypeId) : ∀ j u, c[j]? = some u → (w.alloc (.cells c.toArray t)).cell? ((⟨w.heap.size, 0, none⟩ : Addr).add j) = some u := fun j u hu => by
  rw [add_plain, cell_of_row _ _ _ _ _ _ (heap_alloc_new w _)]
  simpa using hu

set_option maxHeartbeats 400000 in
theorem sectors_any (X : Nat → Prop) (n c : Nat) (A : Option Addr) (l : List Int) (w : World) (h : Lz X w 1 A n (IL l)) (hn : n ≤ 100000) :
    Calls Try.prog 16 #[.slice A n c] w (RetS w l) := by
  obtain ⟨i0, hi0, hz0, hz1, hz2⟩ := info_parts arr_info3
  have hl : l.length = n := by have := h.len; rw [IL_length] at this; omega
  have HL := Lib.hid hl
  have HH := Lib.hid h
  clear hl h
  go_enter Try.func16, Try.ntmps16
  go_wp2
  go_loopw [3, 4] (fun out i wr => ∃ k : Nat, k ≤ n ∧ i = .int .i64 k ∧ Hid (wr.ownsRow w.heap.size 48 64 out k (flat (l.take k))) ∧ Hid (Below w.heap.size w wr)) (fun _ i _ => n - (intOf i).toNat)
  case atStart => exact ⟨0, Nat.zero_le _, rfl, Lib.hid (World.ownsRow_nil w _ _ _), Lib.hid (Below.refl _ _)⟩
  case round =>
    obtain ⟨k, hk, rfl, hO, hB⟩ := hrel
    by_cases hlt : k < n
    · obtain ⟨b, o, u, rfl, hx, hb, hu, hc⟩ := (HH.out.below hB.out).get hlt
      have hkl : k < l.length := by rw [HL.out]; exact hlt
      rw [IL_get l k hkl] at hu
      injection hu with hu
      subst hu
      have HE := Lib.hid (take_snoc l k hkl)
      generalize l[k] = z at *
      go_wp2_with (first
        | (go_at_call 19; refine (filled_any _ _).mono ?_; rintro e w1 ⟨rfl, hb1⟩; have B1 := Lib.hid hb1; clear hb1; have O1 := Lib.hid ((own_under hO.out B1.out (Nat.le_refl _)).alloc (.cells (secA z) 48)))
        | refine wpList_lit1 rfl (.tmp 16) 29 48 64 _ (secA z) rfl rfl Try.underlying29 arr_info (by omega) (by omega) (secA_size z) ?_
        | (at_builtin; refine wpList_app _ rfl (.tmp 11) (.tmp 17) _ rfl w.heap.size 48 i0 _ 64 64 Try.underlying29 hi0 hz0 hz1 hz2 (tabA_size 0 0) (by omega) _ k (flat (l.take k)) rfl O1.out _ 1 1 (sec z) rfl (sec_length z) (row_new w1 (sec z) 48) (sec_one z) (by simp only [maxLen]; omega) (by omega) (by have := hB.out.size; have := B1.out.size; simp; omega) ?_; intro v2 w2 hown2 hg2; have O2 := Lib.hid hown2; clear hown2))
      refine ⟨⟨k + 1, by omega, by go_num, ?_, ?_⟩, by simp [intOf]; omega⟩
      · rw [HE.out, flat_append, flat_single]
        exact O2.out
      · have hs := hB.out.size
        have hs1 := B1.out.size
        exact below_own ((hB.out.trans (B1.out.mono hs)).alloc (by omega) _) O1.out hg2 (Nat.le_refl _) (by simp; omega)
    · have K16 := Lib.hid (show k = n from by omega)
      go_wp2_with fail
      go_ret
      refine RetS.mk (n := k) ?_ hB.out
      have e1 : l.take k = l := List.take_of_length_le (by rw [HL.out, K16.out]; exact Nat.le_refl _)
      have := hO.out
      rwa [e1] at this
end Go.Proofs.Ytggcfbglfmcdmaa
