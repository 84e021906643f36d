/-
  The walks of the reference's mark and Put.
  Conditions: the sector's cells are bytes.
-/
import Derived.Test.YtlanaplnhjdgcaaS2
namespace Go.Proofs.Ytlanaplnhjdgcaa
open Go.RowKit

theorem markL_get (s : Sect) (k : Nat) (hk : k < 8) : ∃ x, s.toList[56 + k]? = some x ∧ (markL s).take (k + 1) = (markL s).take k ++ [x] := by
  have h1 : 56 + k < s.toList.length := by rw [Vector.length_toList]; omega
  refine ⟨s.toList[56 + k], List.getElem?_eq_getElem h1, ?_⟩
  rw [take_snoc (markL s) k (by simp [markL]; omega)]
  simp [markL]
theorem RowAt.cellx {w : World} {g : Nat} {t : TypeId} {L : List Int} (h : RowAt w g t L) {k : Nat} {x : Int} (hx : L[k]? = some x) : w.cell? ⟨g, k, none⟩ = some (.int .u8 x) := by
  obtain ⟨hk, rfl⟩ := List.getElem?_eq_some_iff.1 hx
  exact h.cell k hk
theorem RowAt.under {B : Nat} {w w' : World} {g : Nat} {t : TypeId} {L : List Int} (h : RowAt w g t L) (hb : Below B w w') (hg : g < B) : RowAt w' g t L := by
  rw [RowAt, hb.block g hg]; exact h

set_option maxHeartbeats 400000 in
theorem mark_any (s : Sect) (w : World) (hs : Okb s.toList) : Calls Try.prog 23 #[.agg (secA s)] w fun e w' => e = .returned (.int .u64 (markI s)) ∧ Below w.heap.size w w' := by
  obtain ⟨i0, hi0, hz0, hz1, hz2⟩ := info_parts u8_info
  have RS := Lib.hid (row_sec w s)
  have HS := Lib.hid hs
  clear hs
  obtain ⟨wb, hwb⟩ : ∃ wb, wb = w.alloc (.cells (secA s) 45) := ⟨_, rfl⟩
  have hz : wb.heap.size = w.heap.size + 1 := by rw [hwb]; simp
  have HWB := Lib.hid hwb
  rw [← hwb] at RS
  go_enter Try.func23, Try.ntmps23
  go_wp2_with fail
  rw [← hwb]
  clear hwb
  go_loopw [3, 4] (fun out i wr => ∃ k : Nat, k ≤ 8 ∧ i = .int .i64 ((56 + k : Nat) : Int) ∧ Hid (wr.ownsRow wb.heap.size 5 1 out k (CL ((markL s).take k))) ∧ Hid (Below wb.heap.size wb wr)) (fun _ i _ => 64 - (intOf i).toNat)
  case atStart => exact ⟨0, Nat.zero_le _, rfl, Lib.hid (World.ownsRow_nil _ _ _ _), Lib.hid (Below.refl _ _)⟩
  case round =>
    obtain ⟨k, hk, rfl, hO, hB⟩ := hrel
    obtain ⟨q, hq⟩ : ∃ q, q = 56 + k := ⟨_, rfl⟩
    have HQ := Lib.hid hq
    by_cases hlt : k < 8
    · obtain ⟨x, hx, hsn⟩ := markL_get s k hlt
      rw [← hq] at hx ⊢
      have hcell := (RS.out.below hB.out).cellx hx
      have HSN := Lib.hid hsn
      have hq2 : q < 64 := by omega
      clear hsn hx hq
      have hBz := hB.out.size
      go_wp2_with (at_builtin; refine wpList_app _ rfl (.tmp 9) (.tmp 13) _ rfl wb.heap.size 5 i0 _ 1 1 Try.underlying48 hi0 hz0 hz1 hz2 rfl (by omega) _ _ _ rfl (hO.out.alloc _) _ 1 1 _ rfl rfl (one_new _ _ _) (one_one _ _) (by simp only [maxLen]; omega) (by omega) (by simp; omega) ?_; intro v2 w2 hown2 hg)
      refine ⟨⟨k + 1, by omega, by rw [show 56 + (k + 1) = q + 1 by have := HQ.out; omega]; go_num, Lib.hid (own_len hown2 (by rw [HSN.out, CL_append]; rfl)), Lib.hid (below_own (hB.out.alloc hBz _) (hO.out.alloc _) hg (Nat.le_refl _) (by simp; omega))⟩, by simp [intOf]; omega⟩
    · obtain rfl : k = 8 := by omega
      rw [← hq]
      have hq2 : q = 64 := hq
      subst hq2
      clear hq
      obtain ⟨A, c, rfl, _⟩ := own_slice hO.out
      have hl := Lz.of_own (X := fun _ => False) hO.out (fun _ h => h.elim)
      rw [List.take_of_length_le (by simp [markL])] at hl
      have GE := Lib.hid (refGet_any _ 8 c A _ wr hl (HS.out.drop 56) (by omega))
      clear hl
      go_wp2_with (go_at_call 31; refine GE.out.mono ?_; rintro e w1 ⟨rfl, rfl⟩)
      go_ret
      refine ⟨rfl, ?_⟩
      have h1 : Below w.heap.size w wb := by rw [HWB.out]; exact (Below.refl _ _).alloc (Nat.le_refl _) _
      exact h1.trans (hB.out.mono (by omega))

theorem part_get (p : Pg) (i k : Nat) (hi : i < 4) (hk : k < 56) : ∃ x, p.toList[56 * i + k]? = some x ∧ ((p.toList.drop (i * 56)).take (k + 1)) = (p.toList.drop (i * 56)).take k ++ [x] := by
  have h1 : 56 * i + k < p.toList.length := by rw [Vector.length_toList]; omega
  refine ⟨p.toList[56 * i + k], List.getElem?_eq_getElem h1, ?_⟩
  rw [take_snoc (p.toList.drop (i * 56)) k (by simp; omega), List.getElem_drop]
  simp only [Nat.mul_comm]
def sk (p : Pg) (n i k : Nat) : List Int := (layL p n i).take k ++ List.replicate (64 - k) 0
theorem sk_length (p : Pg) (n i k : Nat) (hi : i < 4) (hk : k ≤ 64) : (sk p n i k).length = 64 := by
  rw [sk, List.length_append, List.length_take, layL_length p n i hi, List.length_replicate]; omega
theorem sk_step (p : Pg) (n i k : Nat) (hi : i < 4) (hk : k < 64) : (sk p n i k).set k ((layL p n i)[k]'(by rw [layL_length p n i hi]; exact hk)) = sk p n i (k + 1) := by
  have hl := layL_length p n i hi
  rw [sk, sk, List.set_append, if_neg (by rw [List.length_take]; omega), List.length_take, Nat.min_eq_left (by omega), Nat.sub_self, show 64 - k = (64 - (k + 1)) + 1 from by omega, List.replicate_succ, List.set_cons_zero, take_snoc _ k (by omega), List.append_assoc]
  rfl
theorem sk_zero (p : Pg) (n i : Nat) : sk p n i 0 = zsec.toList := by rw [sk, List.take_zero, zsec, Vector.toList_replicate]; rfl
theorem sk_full (p : Pg) (n i : Nat) (hi : i < 4) : sk p n i 64 = (lay p n i).toList := by
  rw [sk, lay_toList p n i hi, List.take_of_length_le (by rw [layL_length p n i hi]; omega), Nat.sub_self, List.replicate_zero, List.append_nil]
theorem puts_snoc (p : Pg) (n k : Nat) (h : k < 4) : (puts p n).take (k + 1) = (puts p n).take k ++ [lay p n k] := by
  rw [take_snoc (puts p n) k (by simp [puts]; omega)]
  congr 2
  rcases k with _ | _ | _ | _ | k <;> first | rfl | omega
end Go.Proofs.Ytlanaplnhjdgcaa
