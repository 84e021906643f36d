/-
  The reference's drop.
  Conditions: at most 100000 claims.
-/
import Derived.Test.YthbifccankfngaaGreatDoorR3ZQ
namespace Go.Proofs.YthbifccankfngaaGreatDoor
open Go.RowKit Go.Shelf
attribute [local go_sem] Oper.semAt_some
set_option maxRecDepth 20000

theorem dropR_none {r : Rs} : ∀ {l : List Cl}, (l.any fun c => c.1 == r) = false → dropR r l = l
  | [], _ => rfl
  | c :: l, h => by
    rw [List.any_cons, Bool.or_eq_false_iff] at h
    rw [dropR, dropR_none h.2]
    simp [h.1]
theorem dropR_one (r : Rs) (x : Cl) : ∀ a : List Cl, dropR r (a ++ [x]) = if (a.any fun c => c.1 == r) then dropR r a ++ [x] else if x.1 == r then dropR r a else dropR r a ++ [x]
  | [] => by
    by_cases h : x.1 == r <;> simp [dropR, h]
  | c :: a => by
    by_cases h : c.1 == r
    · simp [dropR, h]
    · have ih := dropR_one r x a
      simp only [List.cons_append, dropR, h, List.any_cons, Bool.false_or]
      rw [ih]
      by_cases h2 : (a.any fun c => c.1 == r) = true
      · simp [h2]
      · by_cases h3 : (x.1 == r) = true <;> simp [h2, h3]
/-- Claims gathered, and a word beside them. -/
def BuM (w : World) (E : World → Prop) (f : Nat → List Cl) (g : Nat → Bool) (n : Nat) (v m i : Value) (z : World) : Prop :=
  ∃ (k : Nat) (F : List Cl) (A : Option Addr) (c : Nat) (bm : Bool), k ≤ n ∧ v = .slice A F.length c ∧ m = .bool bm ∧ i = .int .i64 (k : Int) ∧ Hid (bm = g k) ∧ Hid (F = f k) ∧ Hid (BuS w E F (.slice A F.length c) z)
set_option maxHeartbeats 3200000 in
theorem rDrop_any (A : Option Addr) (n c : Nat) (l : List Cl) (r : Rs) (w : World) (h : Lz (fun _ => False) w 4 A n (rcL l)) (hn : n ≤ 100000) :
    Calls Tryz.prog 77 #[.slice A n c, .agg (rsA r)] w (BuR w (dropR r l)) := by
  have hlen := h.rclen
  obtain ⟨b3, hb3⟩ : ∃ b3, w.heap.size = b3 := ⟨_, rfl⟩
  have HB := Lib.hid (show Below w.heap.size w (w.alloc (.cells (rsA r) 33)) from (Below.refl _ w).alloc (Nat.le_refl _) _)
  have A3 := At.new w 33 (rsA r)
  rw [hb3] at A3
  have HL := Lib.hid h
  have ST : Hid (BuS w (fun z => At z b3 33 (rsA r)) [] (.slice none 0 0) (w.alloc (.cells (rsA r) 33))) := ⟨HB.out, World.ownsRow_nil _ _ 72 4, A3⟩
  clear h A3
  go_enter Tryz.func77, Tryz.ntmps77
  go_upto_region 1 with fail
  generalize w.alloc (.cells (rsA r) 33) = z0 at HB ST ⊢
  clear hb3
  go_wp2_with fail
  go_loopw [5, 6, 7] (fun v m i wr => BuM w (fun z => At z b3 33 (rsA r)) (fun k => dropR r (l.take k)) (fun k => (l.take k).any fun c => c.1 == r) n v m i wr) (fun _ _ i _ => n - (intOf i).toNat)
  case atStart => exact ⟨0, [], none, 0, false, Nat.zero_le _, rfl, rfl, rfl, Lib.hid rfl, Lib.hid rfl, ST⟩
  case round =>
    obtain ⟨k, F, AF, cF, bm, hk, rfl, rfl, rfl, HM0, HF0, HS⟩ := hrel
    have HM : Hid (bm = (l.take k).any fun c => c.1 == r) := HM0
    have HF : Hid (F = dropR r (l.take k)) := HF0
    clear HM0 HF0
    have hFn : F.length ≤ n := by
      have h1 := drop_len r (l.take k)
      have h2 : (l.take k).length ≤ n := by rw [List.length_take]; omega
      rw [HF.out]
      omega
    obtain ⟨nF, hnF⟩ : ∃ nF, F.length = nF := ⟨_, rfl⟩
    have HNF := Lib.hid hnF
    rw [hnF] at hFn HS ⊢
    clear hnF
    by_cases hlt : k < n
    · obtain ⟨b, o, hl, rfl, hb, hr⟩ := HL.out.rc hlt
      have hbw : b < wr.heap.size := Nat.lt_of_lt_of_le hb HS.out.below.size
      have R1 : Hid (wr.rangeAt b (o + k * 4) (rcV l[k])) := fun j v hv => (HS.out.below.cell (p := ⟨b, o + k * 4 + j, none⟩) hb).trans (hr j v hv)
      obtain ⟨x, hx⟩ : ∃ x, l[k] = x := ⟨_, rfl⟩
      have htk : l.take (k + 1) = l.take k ++ [x] := by rw [List.take_add_one, List.getElem?_eq_getElem hl, hx]; rfl
      have HTK := Lib.hid htk
      rw [hx] at R1
      have R0 : Hid (wr.rangeAt b (o + k * 4) (encR x.1)) := fun j v hv => R1.out j v (by
        match j, hv with
        | 0, hv => exact hv
        | 1, hv => exact hv)
      clear hr hx htk
      obtain ⟨bq, hbq⟩ : ∃ bq, (x.1 == r) = bq := ⟨_, rfl⟩
      have HBQ := Lib.hid hbq
      clear hbq
      have A3R := Lib.hid HS.out.keep
      have HD1 := Lib.hid (dropR_one r x (l.take k))
      rw [← HM.out, ← HF.out, HBQ.out] at HD1
      have HA1 : Hid ((l.take k ++ [x]).any (fun c => c.1 == r) = (bm || bq)) := by
        show _ = _
        rw [List.any_append, ← HM.out]
        simp [HBQ.out]
      go_upto_region 6 with fail
      cases bm
      · cases bq
        · 
          refine wp_region_held_drew (S := Below wr.heap.size wr) (by kernel_rfl) ((Below.refl _ wr).drew) (fun hS => ?_)
          refine tk 0 hS ?_
          refine tk 1 hS ?_
          refine tk 2 hS ?_
          refine tk 3 hS ?_
          refine tk 4 hS ?_
          refine tk 5 hS ?_
          refine tk 6 hS ?_
          refine tk (v := .agg (rsA x.1)) 7 hS ?_ (hy := by intro wz hz; exact exec_load_in 33 (.tmp 20) rfl b (o + k * 4) rfl (encR x.1) 2 strR rfl (fun j v hv => (hz.cell (p := ⟨b, o + k * 4 + j, none⟩) hbw).trans (R0.out j v hv)))
          refine tk (v := .agg (rsA r)) 8 hS ?_ (hy := by intro wz hz; exact exec_load_at 33 (.tmp 3) rfl b3 rfl (rsA r) 2 strR rfl (A3R.out.under hz A3R.out.lt))
          refine tk (v := .bool false) 9 hS ?_ (hy := by intro wz hz; exact exec_eqRb (.tmp 21) (.tmp 22) rfl x.1 r _ HBQ.out rfl rfl)
          refine tk 10 hS ?_
          refine wpAnyH_done (by kernel_rfl) ?_ _
          have HD := Lib.hid (HS.out.under hS (A3R.out.under hS A3R.out.lt))
          have R2 : Hid (wr.drew.rangeAt b (o + k * 4) (rcV x)) := fun j v hv => (hS.cell (p := ⟨b, o + k * 4 + j, none⟩) hbw).trans (R1.out j v hv)
          generalize wr.drew = wd at HD R2 ⊢
          clear hS
          have OWN := Lib.hid (own_under HD.out.own ((Below.refl _ wd).alloc (Nat.le_refl _) (.cells (rcA x) 72)) (Nat.le_refl _))
          have LN := Lib.hid (lies_rc (At.new wd 72 (rcA x)))
          have HSZ : Hid (w.heap.size ≤ (wd.alloc (.cells (rcA x) 72)).heap.size) := by have := HD.out.below.size; show _ ≤ _; simp; omega
          rw [HNF.out] at OWN
          obtain ⟨i0, hi0, hz0, hz1, hz2⟩ := rc_info
          go_wp2_with (first
                      | refine wpList_load_in 72 29 (.tmp 28) rfl rfl rfl b (o + k * 4) rfl (rcV x) 4 strrC rfl R2.out ?_
                      | refine wpList_lit1r rfl 30 (.tmp 29) 26 72 4 zcC (rcA x) rfl rfl rfl Tryz.underlying26 (by kernel_rfl) (by omega) (by omega) rfl ?_
                      | (at_builtin; refine wpList_app _ rfl (.tmp 25) (.tmp 30) 26 rfl w.heap.size 72 i0 zcC 4 32 Tryz.underlying26 hi0 hz0 hz1 hz2 rfl (by omega) (.slice AF nF cF) nF (rcL F) rfl OWN.out _ (some ⟨wd.heap.size, 0, none⟩) 1 1 (rcL [x]) rfl LN.out (rc_one1 [x]) (by simp only [maxLen]; omega) (by omega) HSZ.out ?_; intro v5 w5 ho5 hg5))
          obtain ⟨A5, c5, rfl, _⟩ := own_slice ho5
          have hl5 : nF + 1 = (F ++ [x]).length := by rw [List.length_append, HNF.out]; rfl
          have hB := HD.out.app (x := x) (fun z' hg => HD.out.keep.grown hg (own_ne HD.out.own HD.out.keep (by decide))) ho5 hl5 hg5
          rw [hl5] at hB ⊢
          refine ⟨⟨k + 1, F ++ [x], A5, c5, false, by omega, rfl, rfl, by go_num, Lib.hid ?_, Lib.hid ?_, hB⟩, by simp [intOf]; omega⟩
          · show false = List.any _ _
            rw [HTK.out]
            exact HA1.out.symm
          · show F ++ [x] = dropR _ _
            rw [HTK.out]
            exact HD1.out.symm
        · 
          refine wp_region_held_drew (S := Below wr.heap.size wr) (by kernel_rfl) ((Below.refl _ wr).drew) (fun hS => ?_)
          refine tk 0 hS ?_
          refine tk 1 hS ?_
          refine tk 2 hS ?_
          refine tk 3 hS ?_
          refine tk 4 hS ?_
          refine tk 5 hS ?_
          refine tk 6 hS ?_
          refine tk (v := .agg (rsA x.1)) 7 hS ?_ (hy := by intro wz hz; exact exec_load_in 33 (.tmp 20) rfl b (o + k * 4) rfl (encR x.1) 2 strR rfl (fun j v hv => (hz.cell (p := ⟨b, o + k * 4 + j, none⟩) hbw).trans (R0.out j v hv)))
          refine tk (v := .agg (rsA r)) 8 hS ?_ (hy := by intro wz hz; exact exec_load_at 33 (.tmp 3) rfl b3 rfl (rsA r) 2 strR rfl (A3R.out.under hz A3R.out.lt))
          refine tk (v := .bool true) 9 hS ?_ (hy := by intro wz hz; exact exec_eqRb (.tmp 21) (.tmp 22) rfl x.1 r _ HBQ.out rfl rfl)
          refine tk 10 hS ?_
          refine wpAnyH_done (by kernel_rfl) ?_ _
          have HD := Lib.hid (HS.out.under hS (A3R.out.under hS A3R.out.lt))
          have R2 : Hid (wr.drew.rangeAt b (o + k * 4) (rcV x)) := fun j v hv => (hS.cell (p := ⟨b, o + k * 4 + j, none⟩) hbw).trans (R1.out j v hv)
          generalize wr.drew = wd at HD R2 ⊢
          clear hS
          go_wp2_with fail
          refine ⟨⟨k + 1, F, AF, cF, true, by omega, by rw [HNF.out], rfl, by go_num, Lib.hid ?_, Lib.hid ?_, by rw [HNF.out]; exact HD⟩, by simp [intOf]; omega⟩
          · show true = List.any _ _
            rw [HTK.out]
            exact HA1.out.symm
          · show F = dropR _ _
            rw [HTK.out]
            exact HD1.out.symm
      · 
        refine wp_region_held_drew (S := Below wr.heap.size wr) (by kernel_rfl) ((Below.refl _ wr).drew) (fun hS => ?_)
        refine tk 0 hS ?_
        refine tk 1 hS ?_
        refine tk 2 hS ?_
        refine sk 3 hS ?_
        refine sk 4 hS ?_
        refine sk 5 hS ?_
        refine sk 6 hS ?_
        refine sk 7 hS ?_
        refine sk 8 hS ?_
        refine sk 9 hS ?_
        refine tk 10 hS ?_
        refine wpAnyH_done (by kernel_rfl) ?_ _
        have HD := Lib.hid (HS.out.under hS (A3R.out.under hS A3R.out.lt))
        have R2 : Hid (wr.drew.rangeAt b (o + k * 4) (rcV x)) := fun j v hv => (hS.cell (p := ⟨b, o + k * 4 + j, none⟩) hbw).trans (R1.out j v hv)
        generalize wr.drew = wd at HD R2 ⊢
        clear hS
        have OWN := Lib.hid (own_under HD.out.own ((Below.refl _ wd).alloc (Nat.le_refl _) (.cells (rcA x) 72)) (Nat.le_refl _))
        have LN := Lib.hid (lies_rc (At.new wd 72 (rcA x)))
        have HSZ : Hid (w.heap.size ≤ (wd.alloc (.cells (rcA x) 72)).heap.size) := by have := HD.out.below.size; show _ ≤ _; simp; omega
        rw [HNF.out] at OWN
        obtain ⟨i0, hi0, hz0, hz1, hz2⟩ := rc_info
        go_wp2_with (first
                    | refine wpList_load_in 72 29 (.tmp 28) rfl rfl rfl b (o + k * 4) rfl (rcV x) 4 strrC rfl R2.out ?_
                    | refine wpList_lit1r rfl 30 (.tmp 29) 26 72 4 zcC (rcA x) rfl rfl rfl Tryz.underlying26 (by kernel_rfl) (by omega) (by omega) rfl ?_
                    | (at_builtin; refine wpList_app _ rfl (.tmp 25) (.tmp 30) 26 rfl w.heap.size 72 i0 zcC 4 32 Tryz.underlying26 hi0 hz0 hz1 hz2 rfl (by omega) (.slice AF nF cF) nF (rcL F) rfl OWN.out _ (some ⟨wd.heap.size, 0, none⟩) 1 1 (rcL [x]) rfl LN.out (rc_one1 [x]) (by simp only [maxLen]; omega) (by omega) HSZ.out ?_; intro v5 w5 ho5 hg5))
        obtain ⟨A5, c5, rfl, _⟩ := own_slice ho5
        have hl5 : nF + 1 = (F ++ [x]).length := by rw [List.length_append, HNF.out]; rfl
        have hB := HD.out.app (x := x) (fun z' hg => HD.out.keep.grown hg (own_ne HD.out.own HD.out.keep (by decide))) ho5 hl5 hg5
        rw [hl5] at hB ⊢
        refine ⟨⟨k + 1, F ++ [x], A5, c5, true, by omega, rfl, rfl, by go_num, Lib.hid ?_, Lib.hid ?_, hB⟩, by simp [intOf]; omega⟩
        · show true = List.any _ _
          rw [HTK.out]
          exact HA1.out.symm
        · show F ++ [x] = dropR _ _
          rw [HTK.out]
          exact HD1.out.symm
    · obtain rfl : k = n := by omega
      go_wp2_with fail
      go_ret
      have e : dropR r l = F := by rw [HF.out, ← hlen, List.take_length]
      refine ⟨AF, cF, ?_, ?_, HS.out.below⟩
      · rw [e, HNF.out]
        rfl
      · rw [e, HNF.out]
        have := HS.out.own
        rw [HNF.out] at this
        exact this
end Go.Proofs.YthbifccankfngaaGreatDoor
