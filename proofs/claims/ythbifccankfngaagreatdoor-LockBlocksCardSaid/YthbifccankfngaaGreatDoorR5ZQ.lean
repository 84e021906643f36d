/-
  The reference's grant.
  Conditions: at most 100000 claims.
-/
import Derived.Test.YthbifccankfngaaGreatDoorR4ZQ
namespace Go.Proofs.YthbifccankfngaaGreatDoor
open Go.RowKit Go.Shelf
attribute [local go_sem] Oper.semAt_some
set_option maxRecDepth 20000

theorem BuR.from {w z : World} {L : List Cl} {e : Ending} {w' : World} (hb : Below w.heap.size w z) (h : BuR z L e w') : BuR w L e w' := by
  obtain ⟨A, c, h1, h2, h3⟩ := h
  exact ⟨A, c, h1, own_base h2 hb.size, hb.trans (h3.mono hb.size)⟩
theorem grantR_eq (l : List Cl) (ca : Cl) : grantR l ca = if l.any (isC ca.2.1 ca.1) then l.map (subC ca) else l.map (subC ca) ++ [ca] := by
  unfold grantR
  by_cases h : l.any (isC ca.2.1 ca.1) = true
  · rw [if_pos h, if_pos h]
    rfl
  · rw [if_neg h, if_neg h]
    congr 1
    have : l.map (subC ca) = l.map id := List.map_congr_left fun d hd => by
      unfold subC
      rw [if_neg]
      · rfl
      · intro h2
        exact h (List.any_eq_true.2 ⟨d, hd, h2⟩)
    rw [this, List.map_id]
theorem rcA_range {w : World} {b : Nat} {ca : Cl} (h : At w b 72 (rcA ca)) : w.rangeAt b 0 (encR ca.1) := fun j v hv => by
  rw [Nat.zero_add, h.cell j]
  match j, hv with
  | 0, hv => exact hv
  | 1, hv => exact hv
set_option maxHeartbeats 6400000 in
theorem rGrant_any (A : Option Addr) (n c : Nat) (l : List Cl) (ca : Cl) (w : World) (h : Lz (fun _ => False) w 4 A n (rcL l)) (hn : n ≤ 100000) :
    Calls Tryz.prog 55 #[.slice A n c, .agg (rcA ca)] w (BuR w (grantR l ca)) := by
  have hlen := h.rclen
  obtain ⟨b3, hb3⟩ : ∃ b3, w.heap.size = b3 := ⟨_, rfl⟩
  have HB := Lib.hid (show Below w.heap.size w (w.alloc (.cells (rcA ca) 72)) from (Below.refl _ w).alloc (Nat.le_refl _) _)
  have A3 := Lib.hid (At.new w 72 (rcA ca))
  rw [hb3] at A3
  have HL := Lib.hid (h.below HB.out)
  clear h
  go_enter Tryz.func55, Tryz.ntmps55
  go_upto_region 1 with fail
  generalize w.alloc (.cells (rcA ca) 72) = z0 at HB A3 HL ⊢
  have ST : Hid (BuS z0 (fun _ => True) [] (.slice none 0 0) z0) := ⟨Below.refl _ z0, World.ownsRow_nil _ _ 72 4, trivial⟩
  have hbz : b3 < z0.heap.size := A3.out.lt
  clear hb3
  go_wp2_with fail
  go_loopw [5, 6, 7] (fun v m i wr => BuM z0 (fun _ => True) (fun k => (l.take k).map (subC ca)) (fun k => (l.take k).any (isC ca.2.1 ca.1)) n v m i wr) (fun _ _ i _ => n - (intOf i).toNat)
  case atStart => exact ⟨0, [], none, 0, false, Nat.zero_le _, rfl, rfl, rfl, Lib.hid rfl, Lib.hid rfl, ST⟩
  case round =>
    obtain ⟨k, F, AF, cF, bm, hk, rfl, rfl, rfl, HM0, HF0, HS⟩ := hrel
    have HM : Hid (bm = (l.take k).any (isC ca.2.1 ca.1)) := HM0
    have HF : Hid (F = (l.take k).map (subC ca)) := HF0
    clear HM0 HF0
    have hFn : F.length ≤ n := by
      rw [HF.out, List.length_map, List.length_take]
      omega
    obtain ⟨nF, hnF⟩ : ∃ nF, F.length = nF := ⟨_, rfl⟩
    have HNF := Lib.hid hnF
    rw [hnF] at hFn HS ⊢
    clear hnF
    have A3R := Lib.hid (A3.out.under HS.out.below hbz)
    by_cases hlt : k < n
    · obtain ⟨b, o, hl, rfl, hb, hr⟩ := HL.out.rc hlt
      have hbw : b < wr.heap.size := Nat.lt_of_lt_of_le hb HS.out.below.size
      have R1 : Hid (wr.rangeAt b (o + k * 4) (rcV l[k])) := fun j v hv => (HS.out.below.cell (p := ⟨b, o + k * 4 + j, none⟩) hb).trans (hr j v hv)
      obtain ⟨x, hx⟩ : ∃ x, l[k] = x := ⟨_, rfl⟩
      have htk : l.take (k + 1) = l.take k ++ [x] := by rw [List.take_add_one, List.getElem?_eq_getElem hl, hx]; rfl
      have HTK := Lib.hid htk
      rw [hx] at R1
      have R0 : Hid (wr.rangeAt b (o + k * 4) (encR x.1)) := fun j v hv => R1.out j v (by
        match j, hv with
        | 0, hv => exact hv
        | 1, hv => exact hv)
      clear hr hx htk
      obtain ⟨bq, hbq⟩ : ∃ bq, (x.1 == ca.1) = bq := ⟨_, rfl⟩
      obtain ⟨bt, hbt⟩ : ∃ bt, (x.2.1 == ca.2.1) = bt := ⟨_, rfl⟩
      have HBQ := Lib.hid hbq
      have et : ((x.2.1 : Int) == (ca.2.1 : Int)) = bt := by rw [nat_beq, hbt]
      have HIS : Hid (isC ca.2.1 ca.1 x = (bt && bq)) := by show _ = _; unfold isC; rw [hbq, hbt]
      clear hbq hbt
      have HD1 : Hid ((l.take k ++ [x]).map (subC ca) = F ++ [if (bt && bq) = true then ca else x]) := by
        show _ = _
        rw [List.map_append, ← HF.out, List.map_cons, List.map_nil]
        unfold subC
        rw [HIS.out]
      have HA1 : Hid ((l.take k ++ [x]).any (isC ca.2.1 ca.1) = (bm || (bt && bq))) := by
        show _ = _
        rw [List.any_append, ← HM.out]
        simp [HIS.out]
      go_upto_region 6 with fail
      cases bq
      · rw [Bool.and_false] at HD1 HA1
        refine wp_region_held_drew (S := Below wr.heap.size wr) (by kernel_rfl) ((Below.refl _ wr).drew) (fun hS => ?_)
        refine tk 0 hS ?_
        refine tk 1 hS ?_
        refine tk 2 hS ?_
        refine tk 3 hS ?_
        refine tk (v := .agg (rsA x.1)) 4 hS ?_ (hy := by intro wz hz; have q2 : wz.cell? ⟨b, o + k * 4 + 2, none⟩ = some (.int .u64 (x.2.1 : Int)) := (hz.cell (p := ⟨b, o + k * 4 + 2, none⟩) hbw).trans (R1.out 2 _ rfl); have r2 : wz.cell? ⟨b3, 2, none⟩ = some (.int .u64 (ca.2.1 : Int)) := (A3R.out.under hz A3R.out.lt).cell 2; exact exec_load_in 33 (.tmp 17) rfl b (o + k * 4) rfl (encR x.1) 2 strR rfl (fun j v hv => (hz.cell (p := ⟨b, o + k * 4 + j, none⟩) hbw).trans (R0.out j v hv)))
        refine tk 5 hS ?_
        refine tk (v := .agg (rsA ca.1)) 6 hS ?_ (hy := by intro wz hz; have q2 : wz.cell? ⟨b, o + k * 4 + 2, none⟩ = some (.int .u64 (x.2.1 : Int)) := (hz.cell (p := ⟨b, o + k * 4 + 2, none⟩) hbw).trans (R1.out 2 _ rfl); have r2 : wz.cell? ⟨b3, 2, none⟩ = some (.int .u64 (ca.2.1 : Int)) := (A3R.out.under hz A3R.out.lt).cell 2; exact exec_load_in 33 (.tmp 19) rfl b3 0 rfl (encR ca.1) 2 strR rfl (rcA_range (A3R.out.under hz A3R.out.lt)))
        refine tk (v := .bool false) 7 hS ?_ (hy := by intro wz hz; have q2 : wz.cell? ⟨b, o + k * 4 + 2, none⟩ = some (.int .u64 (x.2.1 : Int)) := (hz.cell (p := ⟨b, o + k * 4 + 2, none⟩) hbw).trans (R1.out 2 _ rfl); have r2 : wz.cell? ⟨b3, 2, none⟩ = some (.int .u64 (ca.2.1 : Int)) := (A3R.out.under hz A3R.out.lt).cell 2; exact exec_eqRb (.tmp 18) (.tmp 20) rfl x.1 ca.1 _ HBQ.out rfl rfl)
        refine tk 8 hS ?_
        refine sk 9 hS ?_
        refine sk 10 hS ?_
        refine sk 11 hS ?_
        refine sk 12 hS ?_
        refine sk 13 hS ?_
        refine sk 14 hS ?_
        refine sk 15 hS ?_
        refine sk 16 hS ?_
        refine tk 17 hS ?_
        refine wpAnyH_done (by kernel_rfl) ?_ _
        have HD := Lib.hid (HS.out.under hS trivial)
        have A3D := Lib.hid (A3R.out.under hS A3R.out.lt)
        have R2 : Hid (wr.drew.rangeAt b (o + k * 4) (rcV x)) := fun j v hv => (hS.cell (p := ⟨b, o + k * 4 + j, none⟩) hbw).trans (R1.out j v hv)
        generalize wr.drew = wd at HD R2 A3D ⊢
        clear hS
        rw [Bool.or_false] at HA1
        have OWN := Lib.hid (own_under HD.out.own ((Below.refl _ wd).alloc (Nat.le_refl _) (.cells (rcA x) 72)) (Nat.le_refl _))
        have LN := Lib.hid (lies_rc (At.new wd 72 (rcA x)))
        have HSZ : Hid (z0.heap.size ≤ (wd.alloc (.cells (rcA x) 72)).heap.size) := by have := HD.out.below.size; show _ ≤ _; simp; omega
        rw [HNF.out] at OWN
        obtain ⟨i0, hi0, hz0, hz1, hz2⟩ := rc_info
        go_wp2_with (first
                    | refine wpList_load_in 72 40 (.tmp 39) rfl rfl rfl b (o + k * 4) rfl (rcV x) 4 strrC rfl R2.out ?_
                    | refine wpList_lit1r rfl 41 (.tmp 40) 26 72 4 zcC (rcA x) rfl rfl rfl Tryz.underlying26 (by kernel_rfl) (by omega) (by omega) rfl ?_
                    | (at_builtin; refine wpList_app _ rfl (.tmp 36) (.tmp 41) 26 rfl z0.heap.size 72 i0 zcC 4 32 Tryz.underlying26 hi0 hz0 hz1 hz2 rfl (by omega) (.slice AF nF cF) nF (rcL F) rfl OWN.out _ (some ⟨wd.heap.size, 0, none⟩) 1 1 (rcL [x]) rfl LN.out (rc_one1 [x]) (by simp only [maxLen]; omega) (by omega) HSZ.out ?_; intro v5 w5 ho5 hg5))
        obtain ⟨A5, c5, rfl, _⟩ := own_slice ho5
        have hl5 : nF + 1 = (F ++ [x]).length := by rw [List.length_append, HNF.out]; rfl
        have hB := HD.out.app (x := x) (fun _ _ => trivial) ho5 hl5 hg5
        rw [hl5] at hB ⊢
        refine ⟨⟨k + 1, F ++ [x], A5, c5, bm, by omega, rfl, rfl, by go_num, Lib.hid ?_, Lib.hid ?_, hB⟩, by simp [intOf]; omega⟩
        · show bm = List.any _ _
          rw [HTK.out]
          exact HA1.out.symm
        · show F ++ [x] = List.map _ _
          rw [HTK.out]
          exact HD1.out.symm
      · rw [Bool.and_true] at HD1 HA1
        refine wp_region_held_drew (S := Below wr.heap.size wr) (by kernel_rfl) ((Below.refl _ wr).drew) (fun hS => ?_)
        refine tk 0 hS ?_
        refine tk 1 hS ?_
        refine tk 2 hS ?_
        refine tk 3 hS ?_
        refine tk (v := .agg (rsA x.1)) 4 hS ?_ (hy := by intro wz hz; have q2 : wz.cell? ⟨b, o + k * 4 + 2, none⟩ = some (.int .u64 (x.2.1 : Int)) := (hz.cell (p := ⟨b, o + k * 4 + 2, none⟩) hbw).trans (R1.out 2 _ rfl); have r2 : wz.cell? ⟨b3, 2, none⟩ = some (.int .u64 (ca.2.1 : Int)) := (A3R.out.under hz A3R.out.lt).cell 2; exact exec_load_in 33 (.tmp 17) rfl b (o + k * 4) rfl (encR x.1) 2 strR rfl (fun j v hv => (hz.cell (p := ⟨b, o + k * 4 + j, none⟩) hbw).trans (R0.out j v hv)))
        refine tk 5 hS ?_
        refine tk (v := .agg (rsA ca.1)) 6 hS ?_ (hy := by intro wz hz; have q2 : wz.cell? ⟨b, o + k * 4 + 2, none⟩ = some (.int .u64 (x.2.1 : Int)) := (hz.cell (p := ⟨b, o + k * 4 + 2, none⟩) hbw).trans (R1.out 2 _ rfl); have r2 : wz.cell? ⟨b3, 2, none⟩ = some (.int .u64 (ca.2.1 : Int)) := (A3R.out.under hz A3R.out.lt).cell 2; exact exec_load_in 33 (.tmp 19) rfl b3 0 rfl (encR ca.1) 2 strR rfl (rcA_range (A3R.out.under hz A3R.out.lt)))
        refine tk (v := .bool true) 7 hS ?_ (hy := by intro wz hz; have q2 : wz.cell? ⟨b, o + k * 4 + 2, none⟩ = some (.int .u64 (x.2.1 : Int)) := (hz.cell (p := ⟨b, o + k * 4 + 2, none⟩) hbw).trans (R1.out 2 _ rfl); have r2 : wz.cell? ⟨b3, 2, none⟩ = some (.int .u64 (ca.2.1 : Int)) := (A3R.out.under hz A3R.out.lt).cell 2; exact exec_eqRb (.tmp 18) (.tmp 20) rfl x.1 ca.1 _ HBQ.out rfl rfl)
        refine tk 8 hS ?_
        refine tk 9 hS ?_
        refine tk 10 hS ?_
        refine tk 11 hS ?_
        refine tk 12 hS ?_
        refine tk 13 hS ?_ (hy := by intro wz hz; have q2 : wz.cell? ⟨b, o + k * 4 + 2, none⟩ = some (.int .u64 (x.2.1 : Int)) := (hz.cell (p := ⟨b, o + k * 4 + 2, none⟩) hbw).trans (R1.out 2 _ rfl); have r2 : wz.cell? ⟨b3, 2, none⟩ = some (.int .u64 (ca.2.1 : Int)) := (A3R.out.under hz A3R.out.lt).cell 2; go_simp <;> with_reducible rfl)
        refine tk 14 hS ?_
        refine tk 15 hS ?_ (hy := by intro wz hz; have q2 : wz.cell? ⟨b, o + k * 4 + 2, none⟩ = some (.int .u64 (x.2.1 : Int)) := (hz.cell (p := ⟨b, o + k * 4 + 2, none⟩) hbw).trans (R1.out 2 _ rfl); have r2 : wz.cell? ⟨b3, 2, none⟩ = some (.int .u64 (ca.2.1 : Int)) := (A3R.out.under hz A3R.out.lt).cell 2; go_simp <;> with_reducible rfl)
        refine tk 16 hS ?_
        refine tk 17 hS ?_
        refine wpAnyH_done (by kernel_rfl) ?_ _
        have HD := Lib.hid (HS.out.under hS trivial)
        have A3D := Lib.hid (A3R.out.under hS A3R.out.lt)
        have R2 : Hid (wr.drew.rangeAt b (o + k * 4) (rcV x)) := fun j v hv => (hS.cell (p := ⟨b, o + k * 4 + j, none⟩) hbw).trans (R1.out j v hv)
        generalize wr.drew = wd at HD R2 A3D ⊢
        clear hS
        cases bt
        · rw [Bool.or_false] at HA1
          have OWN := Lib.hid (own_under HD.out.own ((Below.refl _ wd).alloc (Nat.le_refl _) (.cells (rcA x) 72)) (Nat.le_refl _))
          have LN := Lib.hid (lies_rc (At.new wd 72 (rcA x)))
          have HSZ : Hid (z0.heap.size ≤ (wd.alloc (.cells (rcA x) 72)).heap.size) := by have := HD.out.below.size; show _ ≤ _; simp; omega
          rw [HNF.out] at OWN
          obtain ⟨i0, hi0, hz0, hz1, hz2⟩ := rc_info
          go_wp2_with (first
                      | refine wpList_load_in 72 40 (.tmp 39) rfl rfl rfl b (o + k * 4) rfl (rcV x) 4 strrC rfl R2.out ?_
                      | refine wpList_lit1r rfl 41 (.tmp 40) 26 72 4 zcC (rcA x) rfl rfl rfl Tryz.underlying26 (by kernel_rfl) (by omega) (by omega) rfl ?_
                      | (at_builtin; refine wpList_app _ rfl (.tmp 36) (.tmp 41) 26 rfl z0.heap.size 72 i0 zcC 4 32 Tryz.underlying26 hi0 hz0 hz1 hz2 rfl (by omega) (.slice AF nF cF) nF (rcL F) rfl OWN.out _ (some ⟨wd.heap.size, 0, none⟩) 1 1 (rcL [x]) rfl LN.out (rc_one1 [x]) (by simp only [maxLen]; omega) (by omega) HSZ.out ?_; intro v5 w5 ho5 hg5))
          obtain ⟨A5, c5, rfl, _⟩ := own_slice ho5
          have hl5 : nF + 1 = (F ++ [x]).length := by rw [List.length_append, HNF.out]; rfl
          have hB := HD.out.app (x := x) (fun _ _ => trivial) ho5 hl5 hg5
          rw [hl5] at hB ⊢
          refine ⟨⟨k + 1, F ++ [x], A5, c5, bm, by omega, rfl, rfl, by go_num, Lib.hid ?_, Lib.hid ?_, hB⟩, by simp [intOf]; omega⟩
          · show bm = List.any _ _
            rw [HTK.out]
            exact HA1.out.symm
          · show F ++ [x] = List.map _ _
            rw [HTK.out]
            exact HD1.out.symm
        · rw [Bool.or_true] at HA1
          have OWN := Lib.hid (own_under HD.out.own ((Below.refl _ wd).alloc (Nat.le_refl _) (.cells (rcA ca) 72)) (Nat.le_refl _))
          have LN := Lib.hid (lies_rc (At.new wd 72 (rcA ca)))
          have HSZ : Hid (z0.heap.size ≤ (wd.alloc (.cells (rcA ca) 72)).heap.size) := by have := HD.out.below.size; show _ ≤ _; simp; omega
          rw [HNF.out] at OWN
          obtain ⟨i0, hi0, hz0, hz1, hz2⟩ := rc_info
          go_wp2_with (first
                      | refine wpList_load_at 72 33 (.tmp 3) rfl rfl rfl b3 rfl (rcA ca) 4 strrC rfl A3D.out ?_
                      | refine wpList_lit1r rfl 34 (.tmp 33) 26 72 4 zcC (rcA ca) rfl rfl rfl Tryz.underlying26 (by kernel_rfl) (by omega) (by omega) rfl ?_
                      | (at_builtin; refine wpList_app _ rfl (.tmp 32) (.tmp 34) 26 rfl z0.heap.size 72 i0 zcC 4 32 Tryz.underlying26 hi0 hz0 hz1 hz2 rfl (by omega) (.slice AF nF cF) nF (rcL F) rfl OWN.out _ (some ⟨wd.heap.size, 0, none⟩) 1 1 (rcL [ca]) rfl LN.out (rc_one1 [ca]) (by simp only [maxLen]; omega) (by omega) HSZ.out ?_; intro v5 w5 ho5 hg5))
          obtain ⟨A5, c5, rfl, _⟩ := own_slice ho5
          have hl5 : nF + 1 = (F ++ [ca]).length := by rw [List.length_append, HNF.out]; rfl
          have hB := HD.out.app (x := ca) (fun _ _ => trivial) ho5 hl5 hg5
          rw [hl5] at hB ⊢
          refine ⟨⟨k + 1, F ++ [ca], A5, c5, true, by omega, rfl, rfl, by go_num, Lib.hid ?_, Lib.hid ?_, hB⟩, by simp [intOf]; omega⟩
          · show true = List.any _ _
            rw [HTK.out]
            exact HA1.out.symm
          · show F ++ [ca] = List.map _ _
            rw [HTK.out]
            exact HD1.out.symm
    · obtain rfl : k = n := by omega
      have hT : l.take k = l := by rw [← hlen, List.take_length]
      rw [hT] at HM HF
      have HE := Lib.hid (grantR_eq l ca)
      rw [← HM.out, ← HF.out] at HE
      clear hT
      cases bm
      · have A3D := A3R
        obtain ⟨wd, hwd⟩ : ∃ wd, wd = wr := ⟨_, rfl⟩
        subst hwd
        have HD := HS
        have OWN := Lib.hid (own_under HD.out.own ((Below.refl _ wd).alloc (Nat.le_refl _) (.cells (rcA ca) 72)) (Nat.le_refl _))
        have LN := Lib.hid (lies_rc (At.new wd 72 (rcA ca)))
        have HSZ : Hid (z0.heap.size ≤ (wd.alloc (.cells (rcA ca) 72)).heap.size) := by have := HD.out.below.size; show _ ≤ _; simp; omega
        rw [HNF.out] at OWN
        obtain ⟨i0, hi0, hz0, hz1, hz2⟩ := rc_info
        go_wp2_with (first
                    | refine wpList_load_at 72 46 (.tmp 3) rfl rfl rfl b3 rfl (rcA ca) 4 strrC rfl A3D.out ?_
                    | refine wpList_lit1r rfl 47 (.tmp 46) 26 72 4 zcC (rcA ca) rfl rfl rfl Tryz.underlying26 (by kernel_rfl) (by omega) (by omega) rfl ?_
                    | (at_builtin; refine wpList_app _ rfl (.tmp 45) (.tmp 47) 26 rfl z0.heap.size 72 i0 zcC 4 32 Tryz.underlying26 hi0 hz0 hz1 hz2 rfl (by omega) (.slice AF nF cF) nF (rcL F) rfl OWN.out _ (some ⟨wd.heap.size, 0, none⟩) 1 1 (rcL [ca]) rfl LN.out (rc_one1 [ca]) (by simp only [maxLen]; omega) (by omega) HSZ.out ?_; intro v5 w5 ho5 hg5))
        obtain ⟨A5, c5, rfl, _⟩ := own_slice ho5
        have hl5 : nF + 1 = (F ++ [ca]).length := by rw [List.length_append, HNF.out]; rfl
        have hB := HD.out.app (x := ca) (fun _ _ => trivial) ho5 hl5 hg5
        rw [hl5] at hB ⊢
        go_ret
        refine BuR.from HB.out ⟨A5, c5, ?_, ?_, hB.below⟩
        · rw [HE.out]
          rfl
        · rw [HE.out]
          exact hB.own
      · go_wp2_with fail
        go_ret
        refine BuR.from HB.out ⟨AF, cF, ?_, ?_, HS.out.below⟩
        · rw [HE.out]
          show _ = Ending.returned (.slice AF F.length cF)
          rw [HNF.out]
          rfl
        · rw [HE.out]
          have := HS.out.own
          rw [HNF.out] at this
          show World.ownsRow _ _ _ _ (.slice AF F.length cF) F.length (rcL F)
          rw [HNF.out]
          exact this
end Go.Proofs.YthbifccankfngaaGreatDoor
