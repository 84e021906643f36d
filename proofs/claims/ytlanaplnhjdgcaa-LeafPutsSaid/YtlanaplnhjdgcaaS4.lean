/-
  The walk of the reference's Put.
  Conditions: the number is of 64 bits.
-/
import Derived.Test.YtlanaplnhjdgcaaS3
import Derived.Test.YtlanaplnhjdgcaaLit
namespace Go.Proofs.Ytlanaplnhjdgcaa
open Go.RowKit

set_option maxRecDepth 8000 in
set_option maxHeartbeats 1600000 in
theorem refPut6_any (p : Pg) (n : Nat) (w : World) (hn : n < 18446744073709551616) : Calls Try.prog 11 #[.agg (pgA p), .int .u64 n] w (RetS w (puts p n)) := by
  obtain ⟨i0, hi0, hz0, hz1, hz2⟩ := info_parts u8_info
  obtain ⟨j0, hj0, hy0, hy1, hy2⟩ := info_parts arr_info3
  have hzero := (zero_of_info arr_info).1
  have hinfo := Lib.hid (zero_of_info arr_info).2
  have RS := Lib.hid (row_pg w p)
  obtain ⟨wb, hwb⟩ : ∃ wb, wb = w.alloc (.cells (pgA p) 22) := ⟨_, rfl⟩
  have hz : wb.heap.size = w.heap.size + 1 := by rw [hwb]; simp
  have HWB := Lib.hid hwb
  rw [← hwb] at RS
  go_enter Try.func11, Try.ntmps11
  go_wp2_with fail
  rw [← hwb]
  clear hwb
  go_loopw [5, 6] (fun out i wr => ∃ k : Nat, k ≤ 4 ∧ i = .int .i64 k ∧ Hid (wr.ownsRow wb.heap.size 45 64 out k (flat ((puts p n).take k))) ∧ Hid (Below wb.heap.size wb wr)) (fun _ i _ => 4 - (intOf i).toNat)
  case atStart => exact ⟨0, Nat.zero_le _, rfl, Lib.hid (World.ownsRow_nil _ _ _ _), Lib.hid (Below.refl _ _)⟩
  case round =>
    obtain ⟨i, hi, rfl, hO, hB⟩ := hrel
    have hBz := hB.out.size
    by_cases hlt : i < 4
    · obtain ⟨wi, hwi⟩ : ∃ wi, wi = wr := ⟨_, rfl⟩
      subst hwi
      have RP := Lib.hid (RS.out.below hB.out)
      have d12 : decide ((i : Int) < 4) = true := by simp; omega
      go_wp2_with fail
      go_loopw [7, 8] (fun b j wr => ∃ k : Nat, k ≤ 56 ∧ j = .int .i64 k ∧ Hid (wr.ownsRow wi.heap.size 5 1 b k (CL ((p.toList.drop (i * 56)).take k))) ∧ Hid (Below wi.heap.size wi wr)) (fun _ j _ => 56 - (intOf j).toNat)
      case atStart => exact ⟨0, Nat.zero_le _, rfl, Lib.hid (World.ownsRow_nil _ _ _ _), Lib.hid (Below.refl _ _)⟩
      case round =>
        obtain ⟨k, hk, rfl, hO2, hB2⟩ := hrel
        have hBz2 := hB2.out.size
        by_cases hlt2 : k < 56
        · obtain ⟨x, hx, hsn⟩ := part_get p i k hlt hlt2
          have hcell := (RP.out.below hB2.out).cellx hx
          have HSN := Lib.hid hsn
          clear hsn hx
          obtain ⟨q, hq⟩ : ∃ q : Nat, q = 56 * i + k := ⟨_, rfl⟩
          rw [← hq] at hcell
          have hq1 : 56 * (i : Int) + (k : Int) = (q : Int) := by omega
          have hq2 : q < 224 := by omega
          clear hq
          go_wp2_with (at_builtin; refine wpList_app _ rfl (.tmp 19) (.tmp 26) _ rfl wi.heap.size 5 i0 _ 1 1 Try.underlying48 hi0 hz0 hz1 hz2 rfl (by omega) _ _ _ rfl (hO2.out.alloc _) _ 1 1 _ rfl rfl (one_new _ _ _) (one_one _ _) (by simp only [maxLen]; omega) (by omega) (by simp; omega) ?_; intro v2 w2 hown2 hg)
          refine ⟨⟨k + 1, by omega, by go_num, Lib.hid (own_len hown2 (by rw [HSN.out, CL_append]; rfl)), Lib.hid (below_own (hB2.out.alloc hBz2 _) (hO2.out.alloc _) hg (Nat.le_refl _) (by simp; omega))⟩, by simp [intOf]; omega⟩
        · obtain rfl : k = 56 := by omega
          obtain ⟨Ab, cb, rfl, _⟩ := own_slice hO2.out
          have RPU := Lib.hid (refPut_any 8 n 8 wr (by omega) (by omega) (by omega) hn)
          have PL8 := Lib.hid (putL_length 8 n)
          go_wp2_with (first
            | (go_at_call 24; refine RPU.out.mono ?_; rintro e w3 ⟨A3, c3, rfl, ho3, hb3⟩; rw [show (8 : Int).toNat = 8 from rfl, PL8.out] at ho3 ⊢
               obtain ⟨a3, rfl⟩ := own_some ho3 (by omega)
               have HO3 := Lib.hid ho3
               have HB3 := Lib.hid hb3
               clear ho3 hb3)
            | (at_builtin; refine wpList_app _ rfl (.tmp 28) (.tmp 30) _ rfl wi.heap.size 5 i0 _ 1 1 Try.underlying48 hi0 hz0 hz1 hz2 rfl (by omega) _ _ _ rfl (own_under hO2.out HB3.out (Nat.le_refl _)) a3 8 c3 (CL (putL n 8)) rfl (by rw [CL_length, PL8.out]) (Lz.of_own (X := fun _ => False) HO3.out (fun _ h => h.elim)).cells (CL_one _) (by simp only [maxLen]; omega) (by omega) (by have := HB3.out.size; omega) ?_; intro v4 w4 hown4 hg4
               have O4 : Hid (w4.ownsRow wi.heap.size 5 1 v4 64 (CL (layL p n i))) := (by rw [layL, CL_append]; exact hown4)
               have B4 : Hid (Below wi.heap.size wi w4) := below_own (hB2.out.trans (HB3.out.mono hBz2)) (own_under hO2.out HB3.out (Nat.le_refl _)) hg4 (Nat.le_refl _) (by have := HB3.out.size; omega)
               clear hown4 hg4
               obtain ⟨A4, c4, rfl, _⟩ := own_slice O4.out))
          have B5 := Lib.hid ((Below.refl w4.heap.size w4).alloc (Nat.le_refl _) (.cells (secA zsec) 45))
          have R5 := Lib.hid (row_sec w4 zsec)
          have hB4z := B4.out.size
          go_loopw [10] (fun j wr => ∃ k : Nat, k ≤ 64 ∧ j = .int .i64 k ∧ Hid (RowAt wr w4.heap.size 45 (sk p n i k)) ∧ Hid (Below w4.heap.size w4 wr)) (fun j _ => 64 - (intOf j).toNat)
          case atStart =>
            refine ⟨0, Nat.zero_le _, rfl, ?_, B5⟩
            show RowAt _ _ _ _
            rw [sk_zero]
            exact R5.out
          case round =>
            obtain ⟨k, hk, rfl, hR6, hB6⟩ := hrel
            have hBz6 := hB6.out.size
            by_cases hlt6 : k < 64
            · have hll : k < (layL p n i).length := by rw [layL_length p n i hlt]; exact hlt6
              obtain ⟨b4, o4, u, rfl, _, _, hu, hc⟩ := ((Lz.of_own (X := fun _ => False) O4.out (fun _ h => h.elim)).below hB6.out).get hlt6
              rw [CL_get _ k hll] at hu
              injection hu with hu
              subst hu
              have STP := Lib.hid (sk_step p n i k hlt hlt6)
              generalize (layL p n i)[k] = x at *
              have hc2 := hR6.out.cell k (by rw [sk_length p n i k hlt hk]; exact hlt6)
              have hf2 := hR6.out.frozen k
              generalize (sk p n i k)[k]'(by rw [sk_length p n i k hlt hk]; exact hlt6) = y at hc2
              go_wp2_with fail
              refine ⟨⟨k + 1, by omega, by go_num, ?_, Lib.hid (hB6.out.setCell (by show w4.heap.size ≤ w4.heap.size; omega) _)⟩, by simp [intOf]; omega⟩
              show RowAt _ _ _ _
              rw [← STP.out]
              exact hR6.out.set k x
            · obtain rfl : k = 64 := by omega
              have R7 : Hid (RowAt wr w4.heap.size 45 (lay p n i).toList) := by
                show RowAt _ _ _ _
                rw [← sk_full p n i hlt]
                exact hR6.out
              have O7 := Lib.hid (((own_under hO.out B4.out (Nat.le_refl _)).alloc (.cells (secA (lay p n i)) 45)))
              have O8 := Lib.hid ((own_under (own_under hO.out B4.out (Nat.le_refl _)) hB6.out (Nat.le_refl _)).alloc (.cells (secA (lay p n i)) 45))
              clear hzero
              go_wp2_with (first
                | refine wpList_load_sec 43 (.tmp 9) rfl rfl rfl w4.heap.size 0 rfl (lay p n i) R7.out.all ?_
                | refine wpList_lit1 rfl (.tmp 43) 24 45 64 _ (secA (lay p n i)) rfl rfl Try.underlying24 arr_info (by omega) (by omega) (secA_size _) ?_
                | (at_builtin; refine wpList_app _ rfl (.tmp 42) (.tmp 44) _ rfl wb.heap.size 45 j0 _ 64 64 Try.underlying24 hj0 hy0 hy1 hy2 (secA_size zsec) (by omega) _ i _ rfl O8.out _ 1 1 (sec (lay p n i)) rfl (sec_length _) (row_new wr (sec (lay p n i)) 45) (sec_one _) (by simp only [maxLen]; omega) (by omega) (by simp; omega) ?_; intro v9 w9 hown9 hg9; have O9 := Lib.hid hown9; have G9 := Lib.hid hg9; clear hown9 hg9))
              refine ⟨⟨i + 1, by omega, by go_num, ?_, ?_⟩, by simp [intOf]; omega⟩
              · show World.ownsRow _ _ _ _ _ _ _
                rw [puts_snoc p n i hlt, flat_append, flat_single]
                exact O9.out
              · have h1 : Below wb.heap.size wb wr := (hB.out.trans (B4.out.mono hBz)).trans (hB6.out.mono (by omega))
                exact below_own (h1.alloc h1.size _) O8.out G9.out (Nat.le_refl _) (by simp; omega)
    · obtain rfl : i = 4 := by omega
      go_wp2_with fail
      go_ret
      have h1 : Below w.heap.size w wb := by rw [HWB.out]; exact (Below.refl _ _).alloc (Nat.le_refl _) _
      refine RetS.mk (n := 4) ?_ (h1.trans (hB.out.mono (by omega)))
      have := own_base hO.out (base' := w.heap.size) (by omega)
      rwa [List.take_of_length_le (by simp [puts])] at this
end Go.Proofs.Ytlanaplnhjdgcaa
