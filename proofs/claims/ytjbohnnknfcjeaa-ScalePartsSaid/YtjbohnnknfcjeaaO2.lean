/-
  slices.siftDownOrdered, heapSortOrdered of numbers.
  Conditions: fewer than 2^62 numbers.
-/
import Derived.Test.YtjbohnnknfcjeaaO1
import Derived.Sort.WalkB2
import Derived.Sort.WalkB3
namespace Go.Proofs.Ytjbohnnknfcjeaa
open Go.RowKit Go.Shelf Go.Sort
attribute [local go_sem] Oper.semAt_some
set_option maxRecDepth 20000

set_option maxHeartbeats 12800000 in
theorem siftO_any (g n cap lo hi F : Nat) (pad : List Value) (d : Array Nat) (w : World) (h : Nr w g pad d) (hn : d.size = n) (hF : F + hi ≤ n) (hlo : lo ≤ n) (hs : n < 1152921504606846976) :
    Calls Try.prog 45 #[.slice (some ⟨g, 0, none⟩) n cap, .int .i64 (lo : Int), .int .i64 (hi : Int), .int .i64 (F : Int)] w (fun e w' => e = .returned (.tuple #[]) ∧ Nq w g pad (siftDown ltN hi F lo d) w') := by
  have H0 := Lib.hid (Nq.refl h)
  have HN := Lib.hid hn
  clear h hn
  go_enter Try.func45, Try.ntmps45
  go_wp2_with fail
  go_loopw [8] (fun vi wr => ∃ (r : Nat) (dk : Array Nat), vi = .int .i64 (r : Int) ∧ r ≤ n ∧ Hid (dk.size = n) ∧ Hid (Nq w g pad dk wr) ∧ Hid (siftDown ltN hi F r dk = siftDown ltN hi F lo d)) (fun vi _ => n + 1 - (intOf vi).toNat)
  case atStart => exact ⟨lo, d, rfl, hlo, HN, H0, Lib.hid rfl⟩
  case round =>
    obtain ⟨r, dk, rfl, hrn, HSK, HK, HO⟩ := hrel
    obtain ⟨r2, hr2⟩ : ∃ r2, 2 * r = r2 := ⟨_, rfl⟩
    obtain ⟨c1, hc1⟩ : ∃ c1, 2 * r + 1 = c1 := ⟨_, rfl⟩
    obtain ⟨c2, hc2⟩ : ∃ c2, 2 * r + 2 = c2 := ⟨_, rfl⟩
    obtain ⟨fr, hfr⟩ : ∃ fr, F + r = fr := ⟨_, rfl⟩
    obtain ⟨fc1, hfc1⟩ : ∃ fc1, F + (2 * r + 1) = fc1 := ⟨_, rfl⟩
    obtain ⟨fc2, hfc2⟩ : ∃ fc2, F + (2 * r + 2) = fc2 := ⟨_, rfl⟩
    have e1 : (2 : Int) * (r : Int) = (r2 : Int) := by omega
    have e2 : (r2 : Int) + 1 = (c1 : Int) := by omega
    have e3 : (c1 : Int) + 1 = (c2 : Int) := by omega
    have e4 : (F : Int) + (r : Int) = (fr : Int) := by omega
    have e5 : (F : Int) + (c1 : Int) = (fc1 : Int) := by omega
    have e6 : (F : Int) + (c2 : Int) = (fc2 : Int) := by omega
    have e7 : (fc1 : Int) + 1 = (fc2 : Int) := by omega
    have w1 := wrapN (k := r2) (by omega)
    have w2 := wrapN (k := c1) (by omega)
    have w3 := wrapN (k := c2) (by omega)
    have w4 := wrapN (k := fr) (by omega)
    have w5 := wrapN (k := fc1) (by omega)
    have w6 := wrapN (k := fc2) (by omega)
    have hr12 : r < c1 ∧ c2 = c1 + 1 ∧ fr < fc1 ∧ fr < fc2 ∧ fc2 = fc1 + 1 := by omega
    have o1 : c1 < hi → fc1 < n ∧ fr < n := by omega
    have o2 : c2 < hi → fc2 < n := by omega
    have HC1 := Lib.hid hc1
    have HC2 := Lib.hid hc2
    have HFR := Lib.hid hfr
    have HFC1 := Lib.hid hfc1
    have HFC2 := Lib.hid hfc2
    obtain ⟨g1, g2, g3, g4, g5⟩ := hr12
    by_cases hA : c1 < hi
    · obtain ⟨k1, k2⟩ := o1 hA
      have HC1L : Hid (2 * r + 1 < hi) := by show _ < _; omega
      have dh : decide ((hi : Int) ≤ (c1 : Int)) = false := by simp; omega
      obtain ⟨x, hx⟩ : ∃ x, dk[fr]! = x := ⟨_, rfl⟩
      have PA : Hid (∀ wz, Nr wz g pad dk → wz.cell? ⟨g, fr, none⟩ = some (.int .u32 (x : Int))) := fun wz hz => by rw [← hx]; exact hz.cell (by rw [HSK.out]; omega)
      have HA := Lib.hid hx
      clear hx
      obtain ⟨y, hy⟩ : ∃ x, dk[fc1]! = x := ⟨_, rfl⟩
      have PB : Hid (∀ wz, Nr wz g pad dk → wz.cell? ⟨g, fc1, none⟩ = some (.int .u32 (y : Int))) := fun wz hz => by rw [← hy]; exact hz.cell (by rw [HSK.out]; omega)
      have HB := Lib.hid hy
      clear hy
      have HG5 := Lib.hid g5
      have HG2 := Lib.hid g2
      by_cases hC : c2 < hi
      · have k3 := o2 hC
        have HC2L : Hid (2 * r + 2 < hi) := by show _ < _; omega
        clear o1 o2 hr2 hc1 hc2 hfr hfc1 hfc2 g5 g2
        obtain ⟨zv, hzv⟩ : ∃ x, dk[fc2]! = x := ⟨_, rfl⟩
        have PC : Hid (∀ wz, Nr wz g pad dk → wz.cell? ⟨g, fc2, none⟩ = some (.int .u32 (zv : Int))) := fun wz hz => by rw [← hzv]; exact hz.cell (by rw [HSK.out]; omega)
        have HC := Lib.hid hzv
        clear hzv
        obtain ⟨bl, hbl⟩ : ∃ bl, ltN y zv = bl := ⟨_, rfl⟩
        have HBL := Lib.hid hbl
        clear hbl
        go_upto_region 3 with fail
        refine wp_region_held_drew (S := fun wz => Nr wz g pad dk) (by kernel_rfl) HK.out.nr.drew (fun hS => ?_)
        refine tk 0 hS ?_
        refine tk 1 hS ?_
        refine tk 2 hS ?_
        refine tk 3 hS ?_
        refine tk 4 hS ?_
        refine tk 5 hS ?_
        refine tk 6 hS ?_
        refine tk 7 hS ?_
        refine tk 8 hS ?_
        refine tk 9 hS ?_
        refine tk 10 hS ?_ (hy := by intro wz hz; have qB := PB.out wz hz; have qC := PC.out wz hz; go_simp <;> with_reducible rfl)
        refine tk 11 hS ?_
        refine tk 12 hS ?_
        refine tk 13 hS ?_
        refine tk 14 hS ?_
        refine tk 15 hS ?_
        refine tk 16 hS ?_
        refine tk 17 hS ?_ (hy := by intro wz hz; have qB := PB.out wz hz; have qC := PC.out wz hz; go_simp <;> with_reducible rfl)
        refine wpAnyH_ready (rs := [18]) (by kernel_rfl) (by simp) ?_
        refine AllReadyH.cons rfl (fun K hK => ?_) AllReadyH.nil
        go_simp
        refine (less_any y zv _).mono ?_
        rintro e y9 ⟨rfl, hy9⟩
        subst hy9
        have hb : True := trivial
        rw [HBL.out]
        refine hK.out _ _ (hS) (fun hT => ?_)
        clear hK hb hS
        have hS := hT
        clear hT
        refine tk 19 hS ?_
        refine wpAnyH_done (by kernel_rfl) ?_ _
        have HS := Lib.hid hS
        clear hS
        cases bl
        · have HLF : Hid (2 * r + 2 < hi → ltN dk[F + (2 * r + 1)]! dk[F + (2 * r + 2)]! = false) := fun _ => by rw [HFC1.out, HFC2.out, HB.out, HC.out]; exact HBL.out
          obtain ⟨bm, hbm⟩ : ∃ bm, ltN x y = bm := ⟨_, rfl⟩
          have HBM := Lib.hid hbm
          clear hbm
          go_upto_region 5 with fail
          refine wp_region_held_drew (S := fun wz => Nr wz g pad dk) (by kernel_rfl) HK.out.nr.drew (fun hS => ?_)
          refine tk 0 hS ?_
          refine tk 1 hS ?_
          refine tk 2 hS ?_
          refine tk 3 hS ?_
          refine tk 4 hS ?_
          refine tk 5 hS ?_ (hy := by intro wz hz; have qA := PA.out wz hz; have qB := PB.out wz hz; go_simp <;> with_reducible rfl)
          refine tk 6 hS ?_
          refine tk 7 hS ?_
          refine tk 8 hS ?_
          refine tk 9 hS ?_
          refine tk 10 hS ?_
          refine tk 11 hS ?_ (hy := by intro wz hz; have qA := PA.out wz hz; have qB := PB.out wz hz; go_simp <;> with_reducible rfl)
          refine wpAnyH_ready (rs := [12]) (by kernel_rfl) (by simp) ?_
          refine AllReadyH.cons rfl (fun K hK => ?_) AllReadyH.nil
          go_simp
          refine (less_any x y _).mono ?_
          rintro e y9 ⟨rfl, hy9⟩
          subst hy9
          have hb : True := trivial
          rw [HBM.out]
          refine hK.out _ _ (hS) (fun hT => ?_)
          clear hK hb hS
          have hS := hT
          clear hT
          refine tk 13 hS ?_
          refine wpAnyH_done (by kernel_rfl) ?_ _
          have HS2 := Lib.hid hS
          clear hS
          cases bm
          · go_wp2_with fail
            exact bodyPost_ret (v := .tuple #[]) (results_none rfl _ _ _) rfl ⟨rfl, by rw [← HO.out, sd_left_stop ltN dk HC1L.out HLF.out (by rw [HFR.out, HFC1.out, HA.out, HB.out]; exact HBM.out)]; exact HK.out.drew.drew⟩
          · have q1 : wr.cell? ⟨g, fr, none⟩ = some (.int .u32 (x : Int)) := PA.out wr HK.out.nr
            have q2 : wr.cell? ⟨g, fc1, none⟩ = some (.int .u32 (y : Int)) := PB.out wr HK.out.nr
            have f1 : wr.frozen? ⟨g, fr, none⟩ = false := HK.out.nr.frozen fr
            have f2 : wr.frozen? ⟨g, fc1, none⟩ = false := HK.out.nr.frozen fc1
            have SW := Lib.hid (HK.out.swp (i := fr) (j := fc1) (by rw [HSK.out]; omega) (by rw [HSK.out]; omega))
            rw [HA.out, HB.out] at SW
            have hne : fr ≠ fc1 := by omega
            go_wp2_with fail
            go_region
            all_goals go_wp2_with fail
            all_goals exact ⟨⟨c1, swp dk fr fc1, by go_num, by omega, Lib.hid (by rw [size_swp]; exact HSK.out), Lib.hid SW.out.drew.drew.drew, Lib.hid (by have h := sd_left_go ltN dk HC1L.out HLF.out (by rw [HFR.out, HFC1.out, HA.out, HB.out]; exact HBM.out); rw [HFR.out, HFC1.out, HC1.out] at h; rw [← HO.out, h])⟩, by simp [intOf]; omega⟩
        · 
          obtain ⟨bm, hbm⟩ : ∃ bm, ltN x zv = bm := ⟨_, rfl⟩
          have HBM := Lib.hid hbm
          clear hbm
          go_upto_region 5 with fail
          refine wp_region_held_drew (S := fun wz => Nr wz g pad dk) (by kernel_rfl) HK.out.nr.drew (fun hS => ?_)
          refine tk 0 hS ?_
          refine tk 1 hS ?_
          refine tk 2 hS ?_
          refine tk 3 hS ?_
          refine tk 4 hS ?_
          refine tk 5 hS ?_ (hy := by intro wz hz; have qA := PA.out wz hz; have qC := PC.out wz hz; go_simp <;> with_reducible rfl)
          refine tk 6 hS ?_
          refine tk 7 hS ?_
          refine tk 8 hS ?_
          refine tk 9 hS ?_
          refine tk 10 hS ?_
          refine tk 11 hS ?_ (hy := by intro wz hz; have qA := PA.out wz hz; have qC := PC.out wz hz; go_simp <;> with_reducible rfl)
          refine wpAnyH_ready (rs := [12]) (by kernel_rfl) (by simp) ?_
          refine AllReadyH.cons rfl (fun K hK => ?_) AllReadyH.nil
          go_simp
          refine (less_any x zv _).mono ?_
          rintro e y9 ⟨rfl, hy9⟩
          subst hy9
          have hb : True := trivial
          rw [HBM.out]
          refine hK.out _ _ (hS) (fun hT => ?_)
          clear hK hb hS
          have hS := hT
          clear hT
          refine tk 13 hS ?_
          refine wpAnyH_done (by kernel_rfl) ?_ _
          have HS2 := Lib.hid hS
          clear hS
          cases bm
          · go_wp2_with fail
            exact bodyPost_ret (v := .tuple #[]) (results_none rfl _ _ _) rfl ⟨rfl, by rw [← HO.out, sd_right_stop ltN dk HC2L.out (by rw [HFC1.out, HFC2.out, HB.out, HC.out]; exact HBL.out) (by rw [HFR.out, HFC2.out, HA.out, HC.out]; exact HBM.out)]; exact HK.out.drew.drew⟩
          · have q1 : wr.cell? ⟨g, fr, none⟩ = some (.int .u32 (x : Int)) := PA.out wr HK.out.nr
            have q2 : wr.cell? ⟨g, fc2, none⟩ = some (.int .u32 (zv : Int)) := PC.out wr HK.out.nr
            have f1 : wr.frozen? ⟨g, fr, none⟩ = false := HK.out.nr.frozen fr
            have f2 : wr.frozen? ⟨g, fc2, none⟩ = false := HK.out.nr.frozen fc2
            have SW := Lib.hid (HK.out.swp (i := fr) (j := fc2) (by rw [HSK.out]; omega) (by rw [HSK.out]; omega))
            rw [HA.out, HC.out] at SW
            have hne : fr ≠ fc2 := by omega
            go_wp2_with fail
            go_region
            all_goals go_wp2_with fail
            all_goals exact ⟨⟨c2, swp dk fr fc2, by go_num, by omega, Lib.hid (by rw [size_swp]; exact HSK.out), Lib.hid SW.out.drew.drew.drew, Lib.hid (by have h := sd_right_go ltN dk HC2L.out (by rw [HFC1.out, HFC2.out, HB.out, HC.out]; exact HBL.out) (by rw [HFR.out, HFC2.out, HA.out, HC.out]; exact HBM.out); rw [HFR.out, HFC2.out, HC2.out] at h; rw [← HO.out, h])⟩, by simp [intOf]; omega⟩
      · have HLF : Hid (2 * r + 2 < hi → ltN dk[F + (2 * r + 1)]! dk[F + (2 * r + 2)]! = false) := fun hx => absurd hx (by omega)
        clear o1 o2 hr2 hc1 hc2 hfr hfc1 hfc2 g5 g2
        go_upto_region 3 with fail
        refine wp_region_held_drew (S := fun wz => Nr wz g pad dk) (by kernel_rfl) HK.out.nr.drew (fun hS => ?_)
        refine tk 0 hS ?_
        refine tk 1 hS ?_
        refine tk 2 hS ?_
        refine tk 3 hS ?_
        refine tk 4 hS ?_
        refine sk 5 hS ?_
        refine sk 6 hS ?_
        refine sk 7 hS ?_
        refine sk 8 hS ?_
        refine sk 9 hS ?_
        refine sk 10 hS ?_
        refine sk 11 hS ?_
        refine sk 12 hS ?_
        refine sk 13 hS ?_
        refine sk 14 hS ?_
        refine sk 15 hS ?_
        refine sk 16 hS ?_
        refine sk 17 hS ?_
        refine sk 18 hS ?_
        refine tk 19 hS ?_
        refine wpAnyH_done (by kernel_rfl) ?_ _
        have HS := Lib.hid hS
        clear hS
        obtain ⟨bm, hbm⟩ : ∃ bm, ltN x y = bm := ⟨_, rfl⟩
        have HBM := Lib.hid hbm
        clear hbm
        go_upto_region 5 with fail
        refine wp_region_held_drew (S := fun wz => Nr wz g pad dk) (by kernel_rfl) HK.out.nr.drew (fun hS => ?_)
        refine tk 0 hS ?_
        refine tk 1 hS ?_
        refine tk 2 hS ?_
        refine tk 3 hS ?_
        refine tk 4 hS ?_
        refine tk 5 hS ?_ (hy := by intro wz hz; have qA := PA.out wz hz; have qB := PB.out wz hz; go_simp <;> with_reducible rfl)
        refine tk 6 hS ?_
        refine tk 7 hS ?_
        refine tk 8 hS ?_
        refine tk 9 hS ?_
        refine tk 10 hS ?_
        refine tk 11 hS ?_ (hy := by intro wz hz; have qA := PA.out wz hz; have qB := PB.out wz hz; go_simp <;> with_reducible rfl)
        refine wpAnyH_ready (rs := [12]) (by kernel_rfl) (by simp) ?_
        refine AllReadyH.cons rfl (fun K hK => ?_) AllReadyH.nil
        go_simp
        refine (less_any x y _).mono ?_
        rintro e y9 ⟨rfl, hy9⟩
        subst hy9
        have hb : True := trivial
        rw [HBM.out]
        refine hK.out _ _ (hS) (fun hT => ?_)
        clear hK hb hS
        have hS := hT
        clear hT
        refine tk 13 hS ?_
        refine wpAnyH_done (by kernel_rfl) ?_ _
        have HS2 := Lib.hid hS
        clear hS
        cases bm
        · go_wp2_with fail
          exact bodyPost_ret (v := .tuple #[]) (results_none rfl _ _ _) rfl ⟨rfl, by rw [← HO.out, sd_left_stop ltN dk HC1L.out HLF.out (by rw [HFR.out, HFC1.out, HA.out, HB.out]; exact HBM.out)]; exact HK.out.drew.drew⟩
        · have q1 : wr.cell? ⟨g, fr, none⟩ = some (.int .u32 (x : Int)) := PA.out wr HK.out.nr
          have q2 : wr.cell? ⟨g, fc1, none⟩ = some (.int .u32 (y : Int)) := PB.out wr HK.out.nr
          have f1 : wr.frozen? ⟨g, fr, none⟩ = false := HK.out.nr.frozen fr
          have f2 : wr.frozen? ⟨g, fc1, none⟩ = false := HK.out.nr.frozen fc1
          have SW := Lib.hid (HK.out.swp (i := fr) (j := fc1) (by rw [HSK.out]; omega) (by rw [HSK.out]; omega))
          rw [HA.out, HB.out] at SW
          have hne : fr ≠ fc1 := by omega
          go_wp2_with fail
          go_region
          all_goals go_wp2_with fail
          all_goals exact ⟨⟨c1, swp dk fr fc1, by go_num, by omega, Lib.hid (by rw [size_swp]; exact HSK.out), Lib.hid SW.out.drew.drew.drew, Lib.hid (by have h := sd_left_go ltN dk HC1L.out HLF.out (by rw [HFR.out, HFC1.out, HA.out, HB.out]; exact HBM.out); rw [HFR.out, HFC1.out, HC1.out] at h; rw [← HO.out, h])⟩, by simp [intOf]; omega⟩
    · have dh : decide ((hi : Int) ≤ (c1 : Int)) = true := by simp; omega
      have HAL : Hid (hi ≤ 2 * r + 1) := by show _ ≤ _; omega
      clear o1 o2 hr2 hc1 hc2 hfr hfc1 hfc2 g5 g2
      go_wp2_with fail
      go_end0
      exact ⟨rfl, by rw [← HO.out, sd_end ltN dk HAL.out]; exact HK.out⟩
end Go.Proofs.Ytjbohnnknfcjeaa
