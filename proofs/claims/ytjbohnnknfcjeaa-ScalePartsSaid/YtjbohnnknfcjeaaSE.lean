/-
  The document's choice of the middle.
  Conditions: at most 100000 numbers.
-/
import Derived.Test.YtjbohnnknfcjeaaSC
namespace Go.Proofs.Ytjbohnnknfcjeaa
open Go.RowKit
attribute [local go_sem] Oper.semAt_some
set_option maxRecDepth 20000

set_option maxHeartbeats 12800000 in
theorem rMiddle_any (A : Option Addr) (n c : Nat) (l : List Nat) (w : World) (h : Lz (fun _ => False) w 1 A n (UC l)) (hn : n ≤ 100000) :
    Calls Try.prog 19 #[.slice A n c] w (fun e z => ∃ (x : Nat) (ok : Bool), e = .returned (.tuple #[.int .u32 (x : Int), .bool ok]) ∧ MidR l x ok ∧ Below w.heap.size w z) := by
  have hlen := h.ulen
  have HL := Lib.hid h
  have HN9 := Lib.hid hn
  have HLZ : Hid (∀ wz, Below w.heap.size w wz → Lz (fun _ => False) wz 1 A n (UC l)) := fun wz hz => HL.out.below hz
  clear h
  go_enter Try.func19, Try.ntmps19
  go_wp2_with fail
  go_loopw [4, 5] (fun vb vi wr => ∃ (k : Nat) (bi : Int), k ≤ n ∧ vb = .int .i64 bi ∧ vi = .int .i64 (k : Int) ∧ Hid (RmK l k bi) ∧ Hid (Below w.heap.size w wr)) (fun _ i _ => n - (intOf i).toNat)
  case atStart => exact ⟨0, -1, Nat.zero_le _, rfl, by go_num, Lib.hid (RmK.start l), Lib.hid (Below.refl _ w)⟩
  case round =>
    obtain ⟨k, bi, hk, rfl, rfl, HM, HB⟩ := hrel
    by_cases hlt : k < n
    · obtain ⟨b, o, hl, rfl, hb, hc⟩ := HL.out.uc hlt
      obtain ⟨x, hx⟩ : ∃ x, l[k] = x := ⟨_, rfl⟩
      rw [hx] at hc
      have HX := Lib.hid hx
      have q0 := below_cell HB.out hb hc
      have HBE := Lib.hid (rbelow_any _ n c l x wr (HLZ.out wr HB.out) HN9.out)
      obtain ⟨be, hbe⟩ : ∃ be, belN l x = be := ⟨_, rfl⟩
      rw [hbe] at HBE
      have HBEE := Lib.hid hbe
      clear hx hbe
      by_cases h0 : be = 0
      · subst h0
        go_wp2_with (go_at_call 26; refine HBE.out.mono ?_; rintro e y9 ⟨rfl, rfl⟩)
        go_roundw
        case rel => exact ⟨k + 1, bi, by omega, rfl, by go_num, Lib.hid (HM.out.skip hl (by rw [HX.out]; exact HBEE.out)), HB⟩
        case measure => simp [intOf]; omega
      · have e0 : ((be : Int) == 0) = false := by
          have : (be : Int) ≠ 0 := by omega
          simpa using this
        have HPOS : Hid (0 < belN l l[k]) := by show 0 < _; rw [HX.out, HBEE.out]; omega
        clear h0
        go_upto_region 6 with (go_at_call 26; refine HBE.out.mono ?_; rintro e y9 ⟨rfl, rfl⟩)
        rcases HM.out.cases with rfl | ⟨bb, hbb, rfl⟩
        · have HM1 : Hid (RmK l (k + 1) (k : Int)) := HM.out.take hl HPOS.out (.inl rfl)
          refine wp_region_held_drew (S := Below w.heap.size w) (by kernel_rfl) HB.out.drew (fun hS => ?_)
          refine tk 0 hS ?_
          refine tk 1 hS ?_
          refine tk 2 hS ?_
          refine sk 3 hS ?_
          refine sk 4 hS ?_
          refine sk 5 hS ?_
          refine sk 6 hS ?_
          refine sk 7 hS ?_
          refine sk 8 hS ?_
          refine sk 9 hS ?_
          refine sk 10 hS ?_
          refine sk 11 hS ?_
          refine sk 12 hS ?_
          refine sk 13 hS ?_
          refine sk 14 hS ?_
          refine sk 15 hS ?_
          refine tk 16 hS ?_
          refine tk 17 hS ?_
          refine sk 18 hS ?_
          refine sk 19 hS ?_
          refine sk 20 hS ?_
          refine sk 21 hS ?_
          refine sk 22 hS ?_
          refine sk 23 hS ?_
          refine sk 24 hS ?_
          refine sk 25 hS ?_
          refine sk 26 hS ?_
          refine sk 27 hS ?_
          refine sk 28 hS ?_
          refine sk 29 hS ?_
          refine sk 30 hS ?_
          refine sk 31 hS ?_
          refine sk 32 hS ?_
          refine sk 33 hS ?_
          refine sk 34 hS ?_
          refine sk 35 hS ?_
          refine sk 36 hS ?_
          refine sk 37 hS ?_
          refine sk 38 hS ?_
          refine sk 39 hS ?_
          refine sk 40 hS ?_
          refine sk 41 hS ?_
          refine tk 42 hS ?_
          refine wpAnyH_done (by kernel_rfl) ?_ _
          have HS := Lib.hid hS
          clear hS
          go_wp2_with fail
          exact ⟨⟨k + 1, k, by omega, rfl, by go_num, HM1, HS⟩, by simp [intOf]; omega⟩
        · have hbn : bb < n := by omega
          obtain ⟨b', o', hl2, ho, _, hc2⟩ := HL.out.uc hbn
          injection ho with ho
          injection ho with ho1 ho2
          subst ho1 ho2
          obtain ⟨y, hy⟩ : ∃ y, l[bb] = y := ⟨_, rfl⟩
          rw [hy] at hc2
          have HY := Lib.hid hy
          obtain ⟨ue, hue⟩ : ∃ ue, unN l x = ue := ⟨_, rfl⟩
          obtain ⟨ub, hub⟩ : ∃ ub, unN l y = ub := ⟨_, rfl⟩
          have HUE := Lib.hid hue
          have HUB := Lib.hid hub
          obtain ⟨c1, hc1⟩ : ∃ c1, decide ((ue : Int) < (ub : Int)) = c1 := ⟨_, rfl⟩
          have hc1n : decide (ue < ub) = c1 := by rw [← hc1]; exact decide_eq_decide.2 (by omega)
          have HC1 := Lib.hid hc1n
          clear hy
          cases c1
          · obtain ⟨c2, hc2e⟩ : ∃ c2, ((ue : Int) == (ub : Int)) = c2 := ⟨_, rfl⟩
            have hc2n : (ue == ub) = c2 := by rw [← hc2e, nat_beq]
            have HC2 := Lib.hid hc2n
            cases c2
            · have HM1 : Hid (RmK l (k + 1) (bb : Int)) := HM.out.keep hl hl2 (.inl (by
                rw [HX.out, HY.out, HUE.out, HUB.out]
                have h1 := of_decide_eq_false HC1.out
                have h2 : ue ≠ ub := by simpa using HC2.out
                omega))
              refine wp_region_held_drew (S := Below w.heap.size w) (by kernel_rfl) HB.out.drew (fun hS => ?_)
              refine tk 0 hS ?_
              refine tk 1 hS ?_
              refine tk 2 hS ?_
              refine tk 3 hS ?_
              refine tk 4 hS ?_
              refine tk 5 hS ?_
              refine tk 6 hS ?_
              refine tk 7 hS ?_ (hy := by intro wz hz; have q1 := below_cell hz hb hc; have q2 := below_cell hz hb hc2; go_simp <;> with_reducible rfl)
              refine tk 9 hS ?_
              refine tk 10 hS ?_
              refine tk 11 hS ?_
              refine tk 12 hS ?_
              refine tk 13 hS ?_ (hy := by intro wz hz; have q1 := below_cell hz hb hc; have q2 := below_cell hz hb hc2; go_simp <;> with_reducible rfl)
              refine wpAnyH_ready (rs := [8]) (by kernel_rfl) (by simp) ?_
              refine AllReadyH.cons rfl (fun K hK => ?_) AllReadyH.nil
              go_simp
              refine (runeven_any _ n c l x _ (HLZ.out _ hS) HN9.out).mono ?_
              rintro e y9 ⟨rfl, rfl⟩
              have hb : True := trivial
              refine hK.out _ _ (hS) (fun hT => ?_)
              clear hK hb hS
              have hS := hT
              clear hT
              refine wpAnyH_ready (rs := [14]) (by kernel_rfl) (by simp) ?_
              refine AllReadyH.cons rfl (fun K hK => ?_) AllReadyH.nil
              go_simp
              refine (runeven_any _ n c l y _ (HLZ.out _ hS) HN9.out).mono ?_
              rintro e y9 ⟨rfl, rfl⟩
              have hb : True := trivial
              refine hK.out _ _ (hS) (fun hT => ?_)
              clear hK hb hS
              have hS := hT
              clear hT
              refine tk 15 hS ?_
              refine tk 16 hS ?_
              refine tk 17 hS ?_
              refine tk 18 hS ?_
              refine tk 19 hS ?_
              refine tk 20 hS ?_
              refine tk 21 hS ?_
              refine tk 22 hS ?_ (hy := by intro wz hz; have q1 := below_cell hz hb hc; have q2 := below_cell hz hb hc2; go_simp <;> with_reducible rfl)
              refine tk 24 hS ?_
              refine tk 25 hS ?_
              refine tk 26 hS ?_
              refine tk 27 hS ?_
              refine tk 28 hS ?_ (hy := by intro wz hz; have q1 := below_cell hz hb hc; have q2 := below_cell hz hb hc2; go_simp <;> with_reducible rfl)
              refine wpAnyH_ready (rs := [23]) (by kernel_rfl) (by simp) ?_
              refine AllReadyH.cons rfl (fun K hK => ?_) AllReadyH.nil
              go_simp
              refine (runeven_any _ n c l x _ (HLZ.out _ hS) HN9.out).mono ?_
              rintro e y9 ⟨rfl, rfl⟩
              have hb : True := trivial
              refine hK.out _ _ (hS) (fun hT => ?_)
              clear hK hb hS
              have hS := hT
              clear hT
              refine wpAnyH_ready (rs := [29]) (by kernel_rfl) (by simp) ?_
              refine AllReadyH.cons rfl (fun K hK => ?_) AllReadyH.nil
              go_simp
              refine (runeven_any _ n c l y _ (HLZ.out _ hS) HN9.out).mono ?_
              rintro e y9 ⟨rfl, rfl⟩
              have hb : True := trivial
              refine hK.out _ _ (hS) (fun hT => ?_)
              clear hK hb hS
              have hS := hT
              clear hT
              refine tk 30 hS ?_
              refine tk 31 hS ?_
              refine sk 32 hS ?_
              refine sk 33 hS ?_
              refine sk 34 hS ?_
              refine sk 35 hS ?_
              refine sk 36 hS ?_
              refine sk 37 hS ?_
              refine sk 38 hS ?_
              refine sk 39 hS ?_
              refine sk 40 hS ?_
              refine tk 41 hS ?_
              refine tk 42 hS ?_
              refine wpAnyH_done (by kernel_rfl) ?_ _
              have HS := Lib.hid hS
              clear hS
              go_wp2_with fail
              exact ⟨⟨k + 1, bb, by omega, rfl, by go_num, HM1, HS⟩, by simp [intOf]; omega⟩
            · obtain ⟨c3, hc3⟩ : ∃ c3, decide ((x : Int) < (y : Int)) = c3 := ⟨_, rfl⟩
              have hc3n : decide (x < y) = c3 := by rw [← hc3]; exact decide_eq_decide.2 (by omega)
              have HC3 := Lib.hid hc3n
              cases c3
              · have HM1 : Hid (RmK l (k + 1) (bb : Int)) := HM.out.keep hl hl2 (.inr (by
                  rw [HX.out, HY.out, HUE.out, HUB.out]
                  have h1 := of_decide_eq_false HC3.out
                  have h2 : ue = ub := by simpa using HC2.out
                  omega))
                refine wp_region_held_drew (S := Below w.heap.size w) (by kernel_rfl) HB.out.drew (fun hS => ?_)
                refine tk 0 hS ?_
                refine tk 1 hS ?_
                refine tk 2 hS ?_
                refine tk 3 hS ?_
                refine tk 4 hS ?_
                refine tk 5 hS ?_
                refine tk 6 hS ?_
                refine tk 7 hS ?_ (hy := by intro wz hz; have q1 := below_cell hz hb hc; have q2 := below_cell hz hb hc2; go_simp <;> with_reducible rfl)
                refine tk 9 hS ?_
                refine tk 10 hS ?_
                refine tk 11 hS ?_
                refine tk 12 hS ?_
                refine tk 13 hS ?_ (hy := by intro wz hz; have q1 := below_cell hz hb hc; have q2 := below_cell hz hb hc2; go_simp <;> with_reducible rfl)
                refine wpAnyH_ready (rs := [8]) (by kernel_rfl) (by simp) ?_
                refine AllReadyH.cons rfl (fun K hK => ?_) AllReadyH.nil
                go_simp
                refine (runeven_any _ n c l x _ (HLZ.out _ hS) HN9.out).mono ?_
                rintro e y9 ⟨rfl, rfl⟩
                have hb : True := trivial
                refine hK.out _ _ (hS) (fun hT => ?_)
                clear hK hb hS
                have hS := hT
                clear hT
                refine wpAnyH_ready (rs := [14]) (by kernel_rfl) (by simp) ?_
                refine AllReadyH.cons rfl (fun K hK => ?_) AllReadyH.nil
                go_simp
                refine (runeven_any _ n c l y _ (HLZ.out _ hS) HN9.out).mono ?_
                rintro e y9 ⟨rfl, rfl⟩
                have hb : True := trivial
                refine hK.out _ _ (hS) (fun hT => ?_)
                clear hK hb hS
                have hS := hT
                clear hT
                refine tk 15 hS ?_
                refine tk 16 hS ?_
                refine tk 17 hS ?_
                refine tk 18 hS ?_
                refine tk 19 hS ?_
                refine tk 20 hS ?_
                refine tk 21 hS ?_
                refine tk 22 hS ?_ (hy := by intro wz hz; have q1 := below_cell hz hb hc; have q2 := below_cell hz hb hc2; go_simp <;> with_reducible rfl)
                refine tk 24 hS ?_
                refine tk 25 hS ?_
                refine tk 26 hS ?_
                refine tk 27 hS ?_
                refine tk 28 hS ?_ (hy := by intro wz hz; have q1 := below_cell hz hb hc; have q2 := below_cell hz hb hc2; go_simp <;> with_reducible rfl)
                refine wpAnyH_ready (rs := [23]) (by kernel_rfl) (by simp) ?_
                refine AllReadyH.cons rfl (fun K hK => ?_) AllReadyH.nil
                go_simp
                refine (runeven_any _ n c l x _ (HLZ.out _ hS) HN9.out).mono ?_
                rintro e y9 ⟨rfl, rfl⟩
                have hb : True := trivial
                refine hK.out _ _ (hS) (fun hT => ?_)
                clear hK hb hS
                have hS := hT
                clear hT
                refine wpAnyH_ready (rs := [29]) (by kernel_rfl) (by simp) ?_
                refine AllReadyH.cons rfl (fun K hK => ?_) AllReadyH.nil
                go_simp
                refine (runeven_any _ n c l y _ (HLZ.out _ hS) HN9.out).mono ?_
                rintro e y9 ⟨rfl, rfl⟩
                have hb : True := trivial
                refine hK.out _ _ (hS) (fun hT => ?_)
                clear hK hb hS
                have hS := hT
                clear hT
                refine tk 30 hS ?_
                refine tk 31 hS ?_
                refine tk 32 hS ?_
                refine tk 33 hS ?_
                refine tk 34 hS ?_
                refine tk 35 hS ?_ (hy := by intro wz hz; have q1 := below_cell hz hb hc; have q2 := below_cell hz hb hc2; go_simp <;> with_reducible rfl)
                refine tk 36 hS ?_
                refine tk 37 hS ?_
                refine tk 38 hS ?_
                refine tk 39 hS ?_ (hy := by intro wz hz; have q1 := below_cell hz hb hc; have q2 := below_cell hz hb hc2; go_simp <;> with_reducible rfl)
                refine tk 40 hS ?_
                refine tk 41 hS ?_
                refine tk 42 hS ?_
                refine wpAnyH_done (by kernel_rfl) ?_ _
                have HS := Lib.hid hS
                clear hS
                go_wp2_with fail
                exact ⟨⟨k + 1, bb, by omega, rfl, by go_num, HM1, HS⟩, by simp [intOf]; omega⟩
              · have HM1 : Hid (RmK l (k + 1) (k : Int)) := HM.out.take hl HPOS.out (.inr ⟨bb, hl2, rfl, .inr (by
                  rw [HX.out, HY.out, HUE.out, HUB.out]
                  have h1 := of_decide_eq_true HC3.out
                  have h2 : ue = ub := by simpa using HC2.out
                  omega)⟩)
                refine wp_region_held_drew (S := Below w.heap.size w) (by kernel_rfl) HB.out.drew (fun hS => ?_)
                refine tk 0 hS ?_
                refine tk 1 hS ?_
                refine tk 2 hS ?_
                refine tk 3 hS ?_
                refine tk 4 hS ?_
                refine tk 5 hS ?_
                refine tk 6 hS ?_
                refine tk 7 hS ?_ (hy := by intro wz hz; have q1 := below_cell hz hb hc; have q2 := below_cell hz hb hc2; go_simp <;> with_reducible rfl)
                refine tk 9 hS ?_
                refine tk 10 hS ?_
                refine tk 11 hS ?_
                refine tk 12 hS ?_
                refine tk 13 hS ?_ (hy := by intro wz hz; have q1 := below_cell hz hb hc; have q2 := below_cell hz hb hc2; go_simp <;> with_reducible rfl)
                refine wpAnyH_ready (rs := [8]) (by kernel_rfl) (by simp) ?_
                refine AllReadyH.cons rfl (fun K hK => ?_) AllReadyH.nil
                go_simp
                refine (runeven_any _ n c l x _ (HLZ.out _ hS) HN9.out).mono ?_
                rintro e y9 ⟨rfl, rfl⟩
                have hb : True := trivial
                refine hK.out _ _ (hS) (fun hT => ?_)
                clear hK hb hS
                have hS := hT
                clear hT
                refine wpAnyH_ready (rs := [14]) (by kernel_rfl) (by simp) ?_
                refine AllReadyH.cons rfl (fun K hK => ?_) AllReadyH.nil
                go_simp
                refine (runeven_any _ n c l y _ (HLZ.out _ hS) HN9.out).mono ?_
                rintro e y9 ⟨rfl, rfl⟩
                have hb : True := trivial
                refine hK.out _ _ (hS) (fun hT => ?_)
                clear hK hb hS
                have hS := hT
                clear hT
                refine tk 15 hS ?_
                refine tk 16 hS ?_
                refine tk 17 hS ?_
                refine tk 18 hS ?_
                refine tk 19 hS ?_
                refine tk 20 hS ?_
                refine tk 21 hS ?_
                refine tk 22 hS ?_ (hy := by intro wz hz; have q1 := below_cell hz hb hc; have q2 := below_cell hz hb hc2; go_simp <;> with_reducible rfl)
                refine tk 24 hS ?_
                refine tk 25 hS ?_
                refine tk 26 hS ?_
                refine tk 27 hS ?_
                refine tk 28 hS ?_ (hy := by intro wz hz; have q1 := below_cell hz hb hc; have q2 := below_cell hz hb hc2; go_simp <;> with_reducible rfl)
                refine wpAnyH_ready (rs := [23]) (by kernel_rfl) (by simp) ?_
                refine AllReadyH.cons rfl (fun K hK => ?_) AllReadyH.nil
                go_simp
                refine (runeven_any _ n c l x _ (HLZ.out _ hS) HN9.out).mono ?_
                rintro e y9 ⟨rfl, rfl⟩
                have hb : True := trivial
                refine hK.out _ _ (hS) (fun hT => ?_)
                clear hK hb hS
                have hS := hT
                clear hT
                refine wpAnyH_ready (rs := [29]) (by kernel_rfl) (by simp) ?_
                refine AllReadyH.cons rfl (fun K hK => ?_) AllReadyH.nil
                go_simp
                refine (runeven_any _ n c l y _ (HLZ.out _ hS) HN9.out).mono ?_
                rintro e y9 ⟨rfl, rfl⟩
                have hb : True := trivial
                refine hK.out _ _ (hS) (fun hT => ?_)
                clear hK hb hS
                have hS := hT
                clear hT
                refine tk 30 hS ?_
                refine tk 31 hS ?_
                refine tk 32 hS ?_
                refine tk 33 hS ?_
                refine tk 34 hS ?_
                refine tk 35 hS ?_ (hy := by intro wz hz; have q1 := below_cell hz hb hc; have q2 := below_cell hz hb hc2; go_simp <;> with_reducible rfl)
                refine tk 36 hS ?_
                refine tk 37 hS ?_
                refine tk 38 hS ?_
                refine tk 39 hS ?_ (hy := by intro wz hz; have q1 := below_cell hz hb hc; have q2 := below_cell hz hb hc2; go_simp <;> with_reducible rfl)
                refine tk 40 hS ?_
                refine tk 41 hS ?_
                refine tk 42 hS ?_
                refine wpAnyH_done (by kernel_rfl) ?_ _
                have HS := Lib.hid hS
                clear hS
                go_wp2_with fail
                exact ⟨⟨k + 1, k, by omega, rfl, by go_num, HM1, HS⟩, by simp [intOf]; omega⟩
          · have HM1 : Hid (RmK l (k + 1) (k : Int)) := HM.out.take hl HPOS.out (.inr ⟨bb, hl2, rfl, .inl (by
              rw [HX.out, HY.out, HUE.out, HUB.out]
              exact of_decide_eq_true HC1.out)⟩)
            refine wp_region_held_drew (S := Below w.heap.size w) (by kernel_rfl) HB.out.drew (fun hS => ?_)
            refine tk 0 hS ?_
            refine tk 1 hS ?_
            refine tk 2 hS ?_
            refine tk 3 hS ?_
            refine tk 4 hS ?_
            refine tk 5 hS ?_
            refine tk 6 hS ?_
            refine tk 7 hS ?_ (hy := by intro wz hz; have q1 := below_cell hz hb hc; have q2 := below_cell hz hb hc2; go_simp <;> with_reducible rfl)
            refine tk 9 hS ?_
            refine tk 10 hS ?_
            refine tk 11 hS ?_
            refine tk 12 hS ?_
            refine tk 13 hS ?_ (hy := by intro wz hz; have q1 := below_cell hz hb hc; have q2 := below_cell hz hb hc2; go_simp <;> with_reducible rfl)
            refine wpAnyH_ready (rs := [8]) (by kernel_rfl) (by simp) ?_
            refine AllReadyH.cons rfl (fun K hK => ?_) AllReadyH.nil
            go_simp
            refine (runeven_any _ n c l x _ (HLZ.out _ hS) HN9.out).mono ?_
            rintro e y9 ⟨rfl, rfl⟩
            have hb : True := trivial
            refine hK.out _ _ (hS) (fun hT => ?_)
            clear hK hb hS
            have hS := hT
            clear hT
            refine wpAnyH_ready (rs := [14]) (by kernel_rfl) (by simp) ?_
            refine AllReadyH.cons rfl (fun K hK => ?_) AllReadyH.nil
            go_simp
            refine (runeven_any _ n c l y _ (HLZ.out _ hS) HN9.out).mono ?_
            rintro e y9 ⟨rfl, rfl⟩
            have hb : True := trivial
            refine hK.out _ _ (hS) (fun hT => ?_)
            clear hK hb hS
            have hS := hT
            clear hT
            refine tk 15 hS ?_
            refine tk 16 hS ?_
            refine tk 17 hS ?_
            refine sk 18 hS ?_
            refine sk 19 hS ?_
            refine sk 20 hS ?_
            refine sk 21 hS ?_
            refine sk 22 hS ?_
            refine sk 23 hS ?_
            refine sk 24 hS ?_
            refine sk 25 hS ?_
            refine sk 26 hS ?_
            refine sk 27 hS ?_
            refine sk 28 hS ?_
            refine sk 29 hS ?_
            refine sk 30 hS ?_
            refine sk 31 hS ?_
            refine sk 32 hS ?_
            refine sk 33 hS ?_
            refine sk 34 hS ?_
            refine sk 35 hS ?_
            refine sk 36 hS ?_
            refine sk 37 hS ?_
            refine sk 38 hS ?_
            refine sk 39 hS ?_
            refine sk 40 hS ?_
            refine sk 41 hS ?_
            refine tk 42 hS ?_
            refine wpAnyH_done (by kernel_rfl) ?_ _
            have HS := Lib.hid hS
            clear hS
            go_wp2_with fail
            exact ⟨⟨k + 1, k, by omega, rfl, by go_num, HM1, HS⟩, by simp [intOf]; omega⟩
    · obtain rfl : k = n := by omega
      have HM2 : Hid (RmK l l.length bi) := by show RmK _ _ _; rw [hlen]; exact HM.out
      rcases HM.out.cases with rfl | ⟨bb, hbb, rfl⟩
      · have HR := Lib.hid HM2.out.none
        go_wp2_with fail
        go_ret2
        exact ⟨0, false, rfl, HR.out, HB.out⟩
      · obtain ⟨hb1, hmid⟩ := HM2.out.some
        have hbn : bb < k := by omega
        obtain ⟨b, o, hl, rfl, hb, hc⟩ := HL.out.uc hbn
        have q0 := below_cell HB.out hb hc
        have HR := Lib.hid hmid
        generalize l[bb] = y at q0 HR hc
        clear hmid
        go_wp2_with fail
        go_ret2
        exact ⟨y, true, rfl, HR.out, HB.out⟩
end Go.Proofs.Ytjbohnnknfcjeaa
