/-
  The law RegionHalves where it runs.
  Conditions: none.
-/
import Derived.Test.YtgjkbnplpioloaaX8
import Derived.Test.YtgjkbnplpioloaaOB
namespace Go.Proofs.Ytgjkbnplpioloaa
open Go.RowKit
attribute [local go_sem] Oper.semAt_some
set_option maxRecDepth 20000

/-- How often a length of at most eight can be halved. -/
def lgS (v : Int) : Nat := if v < 2 then 0 else if v < 3 then 1 else if v < 5 then 2 else 3
theorem lg_half {v : Int} (h : 2 ≤ v) (h8 : v ≤ 8) : lgS (v / 2) + 1 ≤ lgS v ∧ lgS (v - v / 2) + 1 ≤ lgS v := by
  unfold lgS
  constructor <;> (repeat' split) <;> omega
theorem lg_three (v : Int) : lgS v ≤ 3 := by
  unfold lgS
  (repeat' split) <;> omega
def lgX (b : Bx) : Nat := lgS (wX b) + lgS (hX b)
theorem lgX_half {b : Bx} (h : RtX b) (h1 : oneX b = false) : lgX (loX b) + 1 ≤ lgX b ∧ lgX (hiX b) + 1 ≤ lgX b := by
  have w8 : wX b ≤ 8 := by have := h.x0; have := h.x2; unfold wX; omega
  have h8 : hX b ≤ 8 := by have := h.y0; have := h.y2; unfold hX; omega
  have hn : ¬ (wX b < 2 ∧ hX b < 2) := by
    intro ⟨p, q⟩
    unfold oneX at h1
    rw [decide_eq_true p, decide_eq_true q] at h1
    cases h1
  by_cases hw : hX b ≤ wX b
  · have e1 : loX b = ⟨b.x0, b.y0, b.x0 + wX b / 2, b.y1⟩ := by unfold loX; rw [if_pos hw]
    have e2 : hiX b = ⟨b.x0 + wX b / 2, b.y0, b.x1, b.y1⟩ := by unfold hiX; rw [if_pos hw]
    have a1 : wX (loX b) = wX b / 2 := by rw [e1]; show b.x0 + wX b / 2 - b.x0 = _; omega
    have a2 : hX (loX b) = hX b := by rw [e1]; rfl
    have a3 : wX (hiX b) = wX b - wX b / 2 := by rw [e2]; show b.x1 - (b.x0 + wX b / 2) = b.x1 - b.x0 - wX b / 2; omega
    have a4 : hX (hiX b) = hX b := by rw [e2]; rfl
    obtain ⟨l1, l2⟩ := lg_half (v := wX b) (by omega) w8
    unfold lgX
    rw [a1, a2, a3, a4]
    omega
  · have e1 : loX b = ⟨b.x0, b.y0, b.x1, b.y0 + hX b / 2⟩ := by unfold loX; rw [if_neg hw]
    have e2 : hiX b = ⟨b.x0, b.y0 + hX b / 2, b.x1, b.y1⟩ := by unfold hiX; rw [if_neg hw]
    have a1 : hX (loX b) = hX b / 2 := by rw [e1]; show b.y0 + hX b / 2 - b.y0 = _; omega
    have a2 : wX (loX b) = wX b := by rw [e1]; rfl
    have a3 : hX (hiX b) = hX b - hX b / 2 := by rw [e2]; show b.y1 - (b.y0 + hX b / 2) = b.y1 - b.y0 - hX b / 2; omega
    have a4 : wX (hiX b) = wX b := by rw [e2]; rfl
    obtain ⟨l1, l2⟩ := lg_half (v := hX b) (by omega) h8
    unfold lgX
    rw [a1, a2, a3, a4]
    omega
/-- The halves of a box that is right, with all that the loop needs. -/
structure HalvQ (a lo hi : Bx) (two : Bool) : Prop where
  e : halvesX a = (lo, hi, two)
  g : two = true → 1 < cellsX a
  o : two = false → cellsX a = 1
  r : two = true → RtX lo ∧ RtX hi
  l : two = true → lgX lo + 1 ≤ lgX a ∧ lgX hi + 1 ≤ lgX a
  m : two = true → ∀ x y, (hasX lo x y || hasX hi x y) = hasX a x y ∧ (hasX lo x y && hasX hi x y) = false
theorem halvQ {a : Bx} (h : RtX a) : ∃ lo hi two, HalvQ a lo hi two := by
  obtain ⟨h1, h2, h3⟩ := cells_one h
  by_cases h0 : oneX a = true
  · refine ⟨a, a, false, ⟨?_, (fun e => by cases e), (fun _ => ?_), (fun e => by cases e), (fun e => by cases e), (fun e => by cases e)⟩⟩
    · unfold halvesX; rw [if_pos h0]
    · have := h1.2 h0
      omega
  · have hf : oneX a = false := by simpa using h0
    refine ⟨loX a, hiX a, true, ⟨?_, (fun _ => ?_), (fun e => by cases e), (fun _ => halves_right h hf), (fun _ => lgX_half h hf), (fun _ x y => halves_has h hf x y)⟩⟩
    · unfold halvesX; rw [if_neg h0]
    · have : ¬ cellsX a < 2 := fun q => h0 (h1.1 q)
      omega
/-- The box that came in, as it stands now. -/
structure BoS (w : World) (b : Bx) (y : World) : Prop where
  a : At y w.heap.size 23 (bxA b)
  bel : Below w.heap.size w y
theorem BoS.call {w y z : World} {b : Bx} (h : BoS w b y) (hb : Below y.heap.size y z) : BoS w b z := ⟨h.a.under hb h.a.lt, h.bel.trans (hb.mono h.bel.size)⟩
theorem BoS.start (w : World) (b : Bx) : BoS w b (w.alloc (.cells (bxA b) 23)) := ⟨At.new w 23 (bxA b), (Below.refl _ w).alloc (Nat.le_refl _) _⟩
theorem BoS.put {w y z : World} {b c : Bx} (h : BoS w b y) (ha : At z w.heap.size 23 (bxA c)) (hg : y.grownBy z (some w.heap.size)) : BoS w c z := ⟨ha, h.bel.grown hg h.bel.size (fun j e => by injection e with e; omega)⟩
set_option maxHeartbeats 25600000 in
theorem Halves_any (b : Bx) (x y : Int) (A : Option Addr) (n c : Nat) (w : World) (hl : BoL w A n) (hn : n ≤ maxLen) : Calls Try.prog 7 #[.agg (bxA b), .int .i64 x, .int .i64 y, .slice A n c] w (RetV w (.bool true)) := by
  have HB0 := Lib.hid (BoS.start w b)
  have HL := Lib.hid hl
  have HN := Lib.hid hn
  clear hl hn
  obtain ⟨r, hr⟩ : ∃ r, rightX b = r := ⟨_, rfl⟩
  have HR := Lib.hid hr
  clear hr
  go_enter Try.func7, Try.ntmps7
  go_upto_region 1 with fail
  generalize w.alloc (.cells (bxA b) 23) = y0 at HB0 ⊢
  go_wp2_with (first
    | ((with_reducible show wpList _ _ _ (⟨some 16, _, _, _, _, _⟩ :: _) _ _); refine wpList_load_at 23 16 (.tmp 4) rfl rfl rfl (w.heap.size) rfl (bxA b) 4 strX rfl HB0.out.a ?_)
    )
  refine (xRight_any b _).mono ?_
  rintro e z1 ⟨rfl, hk⟩
  rw [HR.out]
  have HB := Lib.hid (HB0.out.call hk)
  clear hk HB0
  cases r
  · go_wp2_with fail
    refine (works_any _).mono ?_
    rintro e z2 ⟨rfl, hk⟩
    replace HB := Lib.hid (HB.out.call hk)
    clear hk
    go_wp2_with fail
    go_ret
    exact ⟨rfl, HB.out.bel⟩
  · by_cases h20 : 20 < n
    · go_wp2_with fail
      refine (works_any _).mono ?_
      rintro e z3 ⟨rfl, hk⟩
      replace HB := Lib.hid (HB.out.call hk)
      clear hk
      go_wp2_with fail
      go_ret
      exact ⟨rfl, HB.out.bel⟩
    · have HRT := Lib.hid ((rightX_iff b).1 HR.out)
      obtain ⟨lo, hi, two, hq⟩ := halvQ HRT.out
      have HQ := Lib.hid hq
      clear hq
      go_wp2_with (first
        | ((with_reducible show wpList _ _ _ (⟨some 26, _, _, _, _, _⟩ :: _) _ _); refine wpList_load_at 23 26 (.tmp 4) rfl rfl rfl (w.heap.size) rfl (bxA b) 4 strX rfl HB.out.a ?_)
        )
      refine (xHalves_any b _ HRT.out).mono ?_
      rintro e z2 ⟨rfl, hk⟩
      rw [HQ.out.e]
      replace HB := Lib.hid (HB.out.call hk)
      clear hk
      go_upto_region 4 with (first
        | ((with_reducible show wpList _ _ _ (⟨none, _, _, _, _, _⟩ :: _) _ _); refine wpList_store_at 23 (.tmp 9) (.tmp 28) rfl rfl rfl z2.heap.size rfl (bxA lo) (bxA zbx) 4 rfl strX rfl rfl (bxA_one _) ((At.new z2 23 (bxA zbx)).alloc (.cells (bxA zbx) 23)) ?_; intro w3 h3 g3; have H2 := Lib.hid h3; have HT := Lib.hid (two_new g3); clear h3 g3)
        | ((with_reducible show wpList _ _ _ (⟨none, _, _, _, _, _⟩ :: _) _ _); refine wpList_store_at 23 (.tmp 10) (.tmp 29) rfl rfl rfl (z2.heap.size + 1) rfl (bxA hi) (bxA zbx) 4 rfl strX rfl rfl (bxA_one _) HT.out.2 ?_; intro w4 h4 g4; have hk : Below z2.heap.size z2 w4 := HT.out.1.grown g4 HT.out.1.size (fun j e => by injection e with e; omega); replace HB := Lib.hid (HB.out.call hk); have B9 := Lib.hid (H2.out.grown g4 (fun e => by injection e with e; omega)); have B10 := Lib.hid h4; clear hk h4 g4 HT H2; generalize z2.heap.size + 1 = g10 at B10 ⊢; generalize z2.heap.size = g9 at B9 ⊢)
        )
      go_cut [76] from 31 to 77 (fun s wx => s = .bool false ∧ Hid (Below w4.heap.size w4 wx))
      case first =>
        clear h20
        cases two
        · skip
          refine wp_region_held_drew (S := Below w4.heap.size w4) (by kernel_rfl) (Below.refl _ w4).drew (fun hS => ?_)
          refine tkS 0 hS ?_
          refine tkS 1 hS ?_
          refine skS 2 hS ?_
          refine skS 3 hS ?_
          refine skS 4 hS ?_
          refine skS 5 hS ?_
          refine skS 6 hS ?_
          refine skS 7 hS ?_
          refine skS 8 hS ?_
          refine skS 9 hS ?_
          refine skS 10 hS ?_
          refine skS 11 hS ?_
          refine skS 12 hS ?_
          refine skS 13 hS ?_
          refine skS 14 hS ?_
          refine skS 15 hS ?_
          refine skS 16 hS ?_
          refine tkS 17 hS ?_
          refine tkS 18 hS ?_
          refine tkS 19 hS ?_
          refine tkS 20 hS ?_
          refine skS 21 hS ?_
          refine skS 22 hS ?_
          refine skS 23 hS ?_
          refine skS 24 hS ?_
          refine tkS 25 hS ?_
          refine tkS 26 hS ?_
          refine skS 27 hS ?_
          refine skS 28 hS ?_
          refine skS 29 hS ?_
          refine skS 30 hS ?_
          refine tkS 31 hS ?_
          refine tkS 32 hS ?_
          refine tkS 33 hS ?_
          refine tkS 34 hS ?_
          refine tkS 35 hS ?_
          refine skS 36 hS ?_
          refine skS 37 hS ?_
          refine skS 38 hS ?_
          refine skS 39 hS ?_
          refine skS 40 hS ?_
          refine skS 41 hS ?_
          refine skS 42 hS ?_
          refine skS 43 hS ?_
          refine tkS 44 hS ?_
          refine tkS 45 hS ?_
          refine wpAnyH_done (by kernel_rfl) ?_ _
          go_wp2_with fail
          go_meet
          exact ⟨rfl, Lib.hid hS⟩
        · have HRL : Hid (rightX lo = true) := (rightX_iff lo).2 (HQ.out.r rfl).1
          have HRH : Hid (rightX hi = true) := (rightX_iff hi).2 (HQ.out.r rfl).2
          obtain ⟨p, hp⟩ : ∃ p, hasX lo x y = p := ⟨_, rfl⟩
          obtain ⟨q, hq⟩ : ∃ q, hasX hi x y = q := ⟨_, rfl⟩
          have hm := HQ.out.m rfl x y
          rw [hp, hq] at hm
          have HLO := Lib.hid hp
          have HHI := Lib.hid hq
          obtain ⟨hm1, hm2⟩ := hm
          clear hp hq
          cases p <;> cases q
          · have HBB : Hid (hasX b x y = false) := hm1.symm
            clear hm1 hm2
            refine wp_region_held_drew (S := Below w4.heap.size w4) (by kernel_rfl) (Below.refl _ w4).drew (fun hS => ?_)
            refine tkS 0 hS ?_
            refine tkS 1 hS ?_
            refine tkS (v := .agg (bxA lo)) 2 hS ?_ (hy := by intro wz hz; exact exec_load_at 23 (.tmp 9) rfl (g9) rfl (bxA lo) 4 strX rfl ((B9.out).under hz (B9.out).lt))
            refine tkS 3 hS ?_
            refine tkS 4 hS ?_
            refine tkS (v := .agg (bxA b)) 12 hS ?_ (hy := by intro wz hz; exact exec_load_at 23 (.tmp 4) rfl (w.heap.size) rfl (bxA b) 4 strX rfl ((HB.out.a).under hz (HB.out.a).lt))
            refine tkS 13 hS ?_
            refine tkS 14 hS ?_
            refine wpAnyH_ready (rs := [5]) (by kernel_rfl) (by simp) ?_
            refine AllReadyH.cons rfl (fun K hK => ?_) AllReadyH.nil
            go_simp
            refine (xHas_any lo x y _).mono ?_
            rintro e z5 ⟨rfl, hb2⟩
            rw [HLO.out]
            have hb : True := trivial
            have HS5 := Lib.hid (Below.trans hS (hb2.mono (Below.size hS)))
            clear hb2
            refine hK.out _ _ (HS5.out) (fun hT => ?_)
            clear hK hb hS
            have hS := hT
            clear hT
            refine tkS 6 hS ?_
            refine tkS (v := .agg (bxA hi)) 7 hS ?_ (hy := by intro wz hz; exact exec_load_at 23 (.tmp 10) rfl (g10) rfl (bxA hi) 4 strX rfl ((B10.out).under hz (B10.out).lt))
            refine tkS 8 hS ?_
            refine tkS 9 hS ?_
            refine wpAnyH_ready (rs := [10]) (by kernel_rfl) (by simp) ?_
            refine AllReadyH.cons rfl (fun K hK => ?_) AllReadyH.nil
            go_simp
            refine (xHas_any hi x y _).mono ?_
            rintro e z10 ⟨rfl, hb2⟩
            rw [HHI.out]
            have hb : True := trivial
            have HS10 := Lib.hid (Below.trans hS (hb2.mono (Below.size hS)))
            clear hb2
            refine hK.out _ _ (HS10.out) (fun hT => ?_)
            clear hK hb hS
            have hS := hT
            clear hT
            refine tkS 11 hS ?_
            refine wpAnyH_ready (rs := [15]) (by kernel_rfl) (by simp) ?_
            refine AllReadyH.cons rfl (fun K hK => ?_) AllReadyH.nil
            go_simp
            refine (xHas_any b x y _).mono ?_
            rintro e z15 ⟨rfl, hb2⟩
            rw [HBB.out]
            have hb : True := trivial
            have HS15 := Lib.hid (Below.trans hS (hb2.mono (Below.size hS)))
            clear hb2
            refine hK.out _ _ (HS15.out) (fun hT => ?_)
            clear hK hb hS
            have hS := hT
            clear hT
            refine tkS (v := .bool false) 16 hS ?_ (hy := by intro wz hz; go_simp <;> simp)
            refine tkS 17 hS ?_
            refine tkS 18 hS ?_
            refine tkS 19 hS ?_
            refine tkS 20 hS ?_
            refine tkS (v := .agg (bxA lo)) 21 hS ?_ (hy := by intro wz hz; exact exec_load_at 23 (.tmp 9) rfl (g9) rfl (bxA lo) 4 strX rfl ((B9.out).under hz (B9.out).lt))
            refine tkS 22 hS ?_
            refine tkS 23 hS ?_
            refine wpAnyH_ready (rs := [24]) (by kernel_rfl) (by simp) ?_
            refine AllReadyH.cons rfl (fun K hK => ?_) AllReadyH.nil
            go_simp
            refine (xHas_any lo x y _).mono ?_
            rintro e z24 ⟨rfl, hb2⟩
            rw [HLO.out]
            have hb : True := trivial
            have HS24 := Lib.hid (Below.trans hS (hb2.mono (Below.size hS)))
            clear hb2
            refine hK.out _ _ (HS24.out) (fun hT => ?_)
            clear hK hb hS
            have hS := hT
            clear hT
            refine tkS 25 hS ?_
            refine tkS 26 hS ?_
            refine skS 27 hS ?_
            refine skS 28 hS ?_
            refine skS 29 hS ?_
            refine skS 30 hS ?_
            refine tkS 31 hS ?_
            refine tkS 32 hS ?_
            refine tkS 33 hS ?_
            refine tkS 34 hS ?_
            refine tkS 35 hS ?_
            refine tkS (v := .agg (bxA lo)) 36 hS ?_ (hy := by intro wz hz; exact exec_load_at 23 (.tmp 9) rfl (g9) rfl (bxA lo) 4 strX rfl ((B9.out).under hz (B9.out).lt))
            refine wpAnyH_ready (rs := [37]) (by kernel_rfl) (by simp) ?_
            refine AllReadyH.cons rfl (fun K hK => ?_) AllReadyH.nil
            go_simp
            refine (xRight_any lo _).mono ?_
            rintro e z37 ⟨rfl, hb2⟩
            rw [HRL.out]
            have hb : True := trivial
            have HS37 := Lib.hid (Below.trans hS (hb2.mono (Below.size hS)))
            clear hb2
            refine hK.out _ _ (HS37.out) (fun hT => ?_)
            clear hK hb hS
            have hS := hT
            clear hT
            refine tkS 38 hS ?_
            refine tkS 39 hS ?_
            refine tkS (v := .agg (bxA hi)) 40 hS ?_ (hy := by intro wz hz; exact exec_load_at 23 (.tmp 10) rfl (g10) rfl (bxA hi) 4 strX rfl ((B10.out).under hz (B10.out).lt))
            refine wpAnyH_ready (rs := [41]) (by kernel_rfl) (by simp) ?_
            refine AllReadyH.cons rfl (fun K hK => ?_) AllReadyH.nil
            go_simp
            refine (xRight_any hi _).mono ?_
            rintro e z41 ⟨rfl, hb2⟩
            rw [HRH.out]
            have hb : True := trivial
            have HS41 := Lib.hid (Below.trans hS (hb2.mono (Below.size hS)))
            clear hb2
            refine hK.out _ _ (HS41.out) (fun hT => ?_)
            clear hK hb hS
            have hS := hT
            clear hT
            refine tkS 42 hS ?_
            refine tkS 43 hS ?_
            refine tkS 44 hS ?_
            refine tkS 45 hS ?_
            refine wpAnyH_done (by kernel_rfl) ?_ _
            go_wp2_with fail
            go_meet
            exact ⟨rfl, Lib.hid hS⟩
          · have HBB : Hid (hasX b x y = true) := hm1.symm
            clear hm1 hm2
            refine wp_region_held_drew (S := Below w4.heap.size w4) (by kernel_rfl) (Below.refl _ w4).drew (fun hS => ?_)
            refine tkS 0 hS ?_
            refine tkS 1 hS ?_
            refine tkS (v := .agg (bxA lo)) 2 hS ?_ (hy := by intro wz hz; exact exec_load_at 23 (.tmp 9) rfl (g9) rfl (bxA lo) 4 strX rfl ((B9.out).under hz (B9.out).lt))
            refine tkS 3 hS ?_
            refine tkS 4 hS ?_
            refine tkS (v := .agg (bxA b)) 12 hS ?_ (hy := by intro wz hz; exact exec_load_at 23 (.tmp 4) rfl (w.heap.size) rfl (bxA b) 4 strX rfl ((HB.out.a).under hz (HB.out.a).lt))
            refine tkS 13 hS ?_
            refine tkS 14 hS ?_
            refine wpAnyH_ready (rs := [5]) (by kernel_rfl) (by simp) ?_
            refine AllReadyH.cons rfl (fun K hK => ?_) AllReadyH.nil
            go_simp
            refine (xHas_any lo x y _).mono ?_
            rintro e z5 ⟨rfl, hb2⟩
            rw [HLO.out]
            have hb : True := trivial
            have HS5 := Lib.hid (Below.trans hS (hb2.mono (Below.size hS)))
            clear hb2
            refine hK.out _ _ (HS5.out) (fun hT => ?_)
            clear hK hb hS
            have hS := hT
            clear hT
            refine tkS 6 hS ?_
            refine tkS (v := .agg (bxA hi)) 7 hS ?_ (hy := by intro wz hz; exact exec_load_at 23 (.tmp 10) rfl (g10) rfl (bxA hi) 4 strX rfl ((B10.out).under hz (B10.out).lt))
            refine tkS 8 hS ?_
            refine tkS 9 hS ?_
            refine wpAnyH_ready (rs := [10]) (by kernel_rfl) (by simp) ?_
            refine AllReadyH.cons rfl (fun K hK => ?_) AllReadyH.nil
            go_simp
            refine (xHas_any hi x y _).mono ?_
            rintro e z10 ⟨rfl, hb2⟩
            rw [HHI.out]
            have hb : True := trivial
            have HS10 := Lib.hid (Below.trans hS (hb2.mono (Below.size hS)))
            clear hb2
            refine hK.out _ _ (HS10.out) (fun hT => ?_)
            clear hK hb hS
            have hS := hT
            clear hT
            refine tkS 11 hS ?_
            refine wpAnyH_ready (rs := [15]) (by kernel_rfl) (by simp) ?_
            refine AllReadyH.cons rfl (fun K hK => ?_) AllReadyH.nil
            go_simp
            refine (xHas_any b x y _).mono ?_
            rintro e z15 ⟨rfl, hb2⟩
            rw [HBB.out]
            have hb : True := trivial
            have HS15 := Lib.hid (Below.trans hS (hb2.mono (Below.size hS)))
            clear hb2
            refine hK.out _ _ (HS15.out) (fun hT => ?_)
            clear hK hb hS
            have hS := hT
            clear hT
            refine tkS (v := .bool false) 16 hS ?_ (hy := by intro wz hz; go_simp <;> simp)
            refine tkS 17 hS ?_
            refine tkS 18 hS ?_
            refine tkS 19 hS ?_
            refine tkS 20 hS ?_
            refine tkS (v := .agg (bxA lo)) 21 hS ?_ (hy := by intro wz hz; exact exec_load_at 23 (.tmp 9) rfl (g9) rfl (bxA lo) 4 strX rfl ((B9.out).under hz (B9.out).lt))
            refine tkS 22 hS ?_
            refine tkS 23 hS ?_
            refine wpAnyH_ready (rs := [24]) (by kernel_rfl) (by simp) ?_
            refine AllReadyH.cons rfl (fun K hK => ?_) AllReadyH.nil
            go_simp
            refine (xHas_any lo x y _).mono ?_
            rintro e z24 ⟨rfl, hb2⟩
            rw [HLO.out]
            have hb : True := trivial
            have HS24 := Lib.hid (Below.trans hS (hb2.mono (Below.size hS)))
            clear hb2
            refine hK.out _ _ (HS24.out) (fun hT => ?_)
            clear hK hb hS
            have hS := hT
            clear hT
            refine tkS 25 hS ?_
            refine tkS 26 hS ?_
            refine skS 27 hS ?_
            refine skS 28 hS ?_
            refine skS 29 hS ?_
            refine skS 30 hS ?_
            refine tkS 31 hS ?_
            refine tkS 32 hS ?_
            refine tkS 33 hS ?_
            refine tkS 34 hS ?_
            refine tkS 35 hS ?_
            refine tkS (v := .agg (bxA lo)) 36 hS ?_ (hy := by intro wz hz; exact exec_load_at 23 (.tmp 9) rfl (g9) rfl (bxA lo) 4 strX rfl ((B9.out).under hz (B9.out).lt))
            refine wpAnyH_ready (rs := [37]) (by kernel_rfl) (by simp) ?_
            refine AllReadyH.cons rfl (fun K hK => ?_) AllReadyH.nil
            go_simp
            refine (xRight_any lo _).mono ?_
            rintro e z37 ⟨rfl, hb2⟩
            rw [HRL.out]
            have hb : True := trivial
            have HS37 := Lib.hid (Below.trans hS (hb2.mono (Below.size hS)))
            clear hb2
            refine hK.out _ _ (HS37.out) (fun hT => ?_)
            clear hK hb hS
            have hS := hT
            clear hT
            refine tkS 38 hS ?_
            refine tkS 39 hS ?_
            refine tkS (v := .agg (bxA hi)) 40 hS ?_ (hy := by intro wz hz; exact exec_load_at 23 (.tmp 10) rfl (g10) rfl (bxA hi) 4 strX rfl ((B10.out).under hz (B10.out).lt))
            refine wpAnyH_ready (rs := [41]) (by kernel_rfl) (by simp) ?_
            refine AllReadyH.cons rfl (fun K hK => ?_) AllReadyH.nil
            go_simp
            refine (xRight_any hi _).mono ?_
            rintro e z41 ⟨rfl, hb2⟩
            rw [HRH.out]
            have hb : True := trivial
            have HS41 := Lib.hid (Below.trans hS (hb2.mono (Below.size hS)))
            clear hb2
            refine hK.out _ _ (HS41.out) (fun hT => ?_)
            clear hK hb hS
            have hS := hT
            clear hT
            refine tkS 42 hS ?_
            refine tkS 43 hS ?_
            refine tkS 44 hS ?_
            refine tkS 45 hS ?_
            refine wpAnyH_done (by kernel_rfl) ?_ _
            go_wp2_with fail
            go_meet
            exact ⟨rfl, Lib.hid hS⟩
          · have HBB : Hid (hasX b x y = true) := hm1.symm
            clear hm1 hm2
            refine wp_region_held_drew (S := Below w4.heap.size w4) (by kernel_rfl) (Below.refl _ w4).drew (fun hS => ?_)
            refine tkS 0 hS ?_
            refine tkS 1 hS ?_
            refine tkS (v := .agg (bxA lo)) 2 hS ?_ (hy := by intro wz hz; exact exec_load_at 23 (.tmp 9) rfl (g9) rfl (bxA lo) 4 strX rfl ((B9.out).under hz (B9.out).lt))
            refine tkS 3 hS ?_
            refine tkS 4 hS ?_
            refine tkS (v := .agg (bxA b)) 12 hS ?_ (hy := by intro wz hz; exact exec_load_at 23 (.tmp 4) rfl (w.heap.size) rfl (bxA b) 4 strX rfl ((HB.out.a).under hz (HB.out.a).lt))
            refine tkS 13 hS ?_
            refine tkS 14 hS ?_
            refine wpAnyH_ready (rs := [5]) (by kernel_rfl) (by simp) ?_
            refine AllReadyH.cons rfl (fun K hK => ?_) AllReadyH.nil
            go_simp
            refine (xHas_any lo x y _).mono ?_
            rintro e z5 ⟨rfl, hb2⟩
            rw [HLO.out]
            have hb : True := trivial
            have HS5 := Lib.hid (Below.trans hS (hb2.mono (Below.size hS)))
            clear hb2
            refine hK.out _ _ (HS5.out) (fun hT => ?_)
            clear hK hb hS
            have hS := hT
            clear hT
            refine tkS 6 hS ?_
            refine skS 7 hS ?_
            refine skS 8 hS ?_
            refine skS 9 hS ?_
            refine skS 10 hS ?_
            refine tkS 11 hS ?_
            refine wpAnyH_ready (rs := [15]) (by kernel_rfl) (by simp) ?_
            refine AllReadyH.cons rfl (fun K hK => ?_) AllReadyH.nil
            go_simp
            refine (xHas_any b x y _).mono ?_
            rintro e z15 ⟨rfl, hb2⟩
            rw [HBB.out]
            have hb : True := trivial
            have HS15 := Lib.hid (Below.trans hS (hb2.mono (Below.size hS)))
            clear hb2
            refine hK.out _ _ (HS15.out) (fun hT => ?_)
            clear hK hb hS
            have hS := hT
            clear hT
            refine tkS (v := .bool false) 16 hS ?_ (hy := by intro wz hz; go_simp <;> simp)
            refine tkS 17 hS ?_
            refine tkS 18 hS ?_
            refine tkS 19 hS ?_
            refine tkS 20 hS ?_
            refine tkS (v := .agg (bxA lo)) 21 hS ?_ (hy := by intro wz hz; exact exec_load_at 23 (.tmp 9) rfl (g9) rfl (bxA lo) 4 strX rfl ((B9.out).under hz (B9.out).lt))
            refine tkS 22 hS ?_
            refine tkS 23 hS ?_
            refine wpAnyH_ready (rs := [24]) (by kernel_rfl) (by simp) ?_
            refine AllReadyH.cons rfl (fun K hK => ?_) AllReadyH.nil
            go_simp
            refine (xHas_any lo x y _).mono ?_
            rintro e z24 ⟨rfl, hb2⟩
            rw [HLO.out]
            have hb : True := trivial
            have HS24 := Lib.hid (Below.trans hS (hb2.mono (Below.size hS)))
            clear hb2
            refine hK.out _ _ (HS24.out) (fun hT => ?_)
            clear hK hb hS
            have hS := hT
            clear hT
            refine tkS 25 hS ?_
            refine tkS 26 hS ?_
            refine tkS (v := .agg (bxA hi)) 27 hS ?_ (hy := by intro wz hz; exact exec_load_at 23 (.tmp 10) rfl (g10) rfl (bxA hi) 4 strX rfl ((B10.out).under hz (B10.out).lt))
            refine tkS 28 hS ?_
            refine tkS 29 hS ?_
            refine wpAnyH_ready (rs := [30]) (by kernel_rfl) (by simp) ?_
            refine AllReadyH.cons rfl (fun K hK => ?_) AllReadyH.nil
            go_simp
            refine (xHas_any hi x y _).mono ?_
            rintro e z30 ⟨rfl, hb2⟩
            rw [HHI.out]
            have hb : True := trivial
            have HS30 := Lib.hid (Below.trans hS (hb2.mono (Below.size hS)))
            clear hb2
            refine hK.out _ _ (HS30.out) (fun hT => ?_)
            clear hK hb hS
            have hS := hT
            clear hT
            refine tkS 31 hS ?_
            refine tkS 32 hS ?_
            refine tkS 33 hS ?_
            refine tkS 34 hS ?_
            refine tkS 35 hS ?_
            refine tkS (v := .agg (bxA lo)) 36 hS ?_ (hy := by intro wz hz; exact exec_load_at 23 (.tmp 9) rfl (g9) rfl (bxA lo) 4 strX rfl ((B9.out).under hz (B9.out).lt))
            refine wpAnyH_ready (rs := [37]) (by kernel_rfl) (by simp) ?_
            refine AllReadyH.cons rfl (fun K hK => ?_) AllReadyH.nil
            go_simp
            refine (xRight_any lo _).mono ?_
            rintro e z37 ⟨rfl, hb2⟩
            rw [HRL.out]
            have hb : True := trivial
            have HS37 := Lib.hid (Below.trans hS (hb2.mono (Below.size hS)))
            clear hb2
            refine hK.out _ _ (HS37.out) (fun hT => ?_)
            clear hK hb hS
            have hS := hT
            clear hT
            refine tkS 38 hS ?_
            refine tkS 39 hS ?_
            refine tkS (v := .agg (bxA hi)) 40 hS ?_ (hy := by intro wz hz; exact exec_load_at 23 (.tmp 10) rfl (g10) rfl (bxA hi) 4 strX rfl ((B10.out).under hz (B10.out).lt))
            refine wpAnyH_ready (rs := [41]) (by kernel_rfl) (by simp) ?_
            refine AllReadyH.cons rfl (fun K hK => ?_) AllReadyH.nil
            go_simp
            refine (xRight_any hi _).mono ?_
            rintro e z41 ⟨rfl, hb2⟩
            rw [HRH.out]
            have hb : True := trivial
            have HS41 := Lib.hid (Below.trans hS (hb2.mono (Below.size hS)))
            clear hb2
            refine hK.out _ _ (HS41.out) (fun hT => ?_)
            clear hK hb hS
            have hS := hT
            clear hT
            refine tkS 42 hS ?_
            refine tkS 43 hS ?_
            refine tkS 44 hS ?_
            refine tkS 45 hS ?_
            refine wpAnyH_done (by kernel_rfl) ?_ _
            go_wp2_with fail
            go_meet
            exact ⟨rfl, Lib.hid hS⟩
          · cases hm2
      case rest =>
        obtain ⟨rfl, HBx⟩ := hcut
        replace HB := Lib.hid (HB.out.call HBx.out)
        clear HBx B9 B10 HQ HR
        have HST : Hid (0 + lgX b ≤ 6) := by
          have := lg_three (wX b)
          have := lg_three (hX b)
          show 0 + (lgS (wX b) + lgS (hX b)) ≤ 6
          omega
        go_wp2_with fail
        go_loopw [12] (fun vi wr => ∃ (k : Nat) (bx : Bx), k + lgX bx ≤ 6 ∧ vi = .int .i64 (k : Int) ∧ Hid (RtX bx) ∧ Hid (BoS w bx wr)) (fun i _ => 10 - (intOf i).toNat)
        case atStart => exact ⟨0, b, HST.out, by go_num, HRT, HB⟩
        case round =>
          clear HRT HB HST
          obtain ⟨k, bx, hk6, rfl, HRT, HB⟩ := hrel
          have hk10 : k ≤ 6 := by omega
          obtain ⟨lo, hi, two, hq⟩ := halvQ HRT.out
          have HQ := Lib.hid hq
          clear hq
          cases two
          · have HO := Lib.hid (HQ.out.o rfl)
            clear hk6
            go_wp2_with (first
              | ((with_reducible show wpList _ _ _ (⟨some 77, _, _, _, _, _⟩ :: _) _ _); refine wpList_load_at 23 77 (.tmp 4) rfl rfl rfl (w.heap.size) rfl (bxA bx) 4 strX rfl HB.out.a ?_)
              )
            refine (xCells_any bx _).mono ?_
            rintro e z2 ⟨rfl, hk⟩
            rw [HO.out]
            replace HB := Lib.hid (HB.out.call hk)
            clear hk
            have cc0 : z2.cell? ⟨w.heap.size, 0, none⟩ = some (.int .i64 bx.x0) := HB.out.a.cell 0
            have cc1 : z2.cell? ⟨w.heap.size, 1, none⟩ = some (.int .i64 bx.y0) := HB.out.a.cell 1
            have cc2 : z2.cell? ⟨w.heap.size, 2, none⟩ = some (.int .i64 bx.x1) := HB.out.a.cell 2
            have cc3 : z2.cell? ⟨w.heap.size, 3, none⟩ = some (.int .i64 bx.y1) := HB.out.a.cell 3
            go_wp2_with fail
            refine (xCells_any bx _).mono ?_
            rintro e z3 ⟨rfl, hk⟩
            rw [HO.out]
            replace HB := Lib.hid (HB.out.call hk)
            clear hk cc0 cc1 cc2 cc3
            go_wp2_with fail
            refine (works_any _).mono ?_
            rintro e z4 ⟨rfl, hk⟩
            replace HB := Lib.hid (HB.out.call hk)
            clear hk
            go_wp2_with fail
            go_ret
            exact ⟨rfl, HB.out.bel⟩
          · obtain ⟨cv, hcv⟩ : ∃ cv, cellsX bx = cv := ⟨_, rfl⟩
            have h1c : 1 < cv := by rw [← hcv]; exact HQ.out.g rfl
            have HCV := Lib.hid hcv
            clear hcv
            by_cases hlt : k < n
            · obtain ⟨b0, o0, q, rfl, hb0, hc0⟩ := HL.out k hlt
              have HC := Lib.hid hc0
              clear hc0
              cases q
              · skip
                go_wp2_with (first
                  | ((with_reducible show wpList _ _ _ (⟨some 77, _, _, _, _, _⟩ :: _) _ _); refine wpList_load_at 23 77 (.tmp 4) rfl rfl rfl (w.heap.size) rfl (bxA bx) 4 strX rfl HB.out.a ?_)
                  )
                refine (xCells_any bx _).mono ?_
                rintro e z1 ⟨rfl, hk⟩
                rw [HCV.out]
                replace HB := Lib.hid (HB.out.call hk)
                clear hk
                go_wp2_with (first
                  | ((with_reducible show wpList _ _ _ (⟨some 85, _, _, _, _, _⟩ :: _) _ _); refine wpList_load_at 23 85 (.tmp 4) rfl rfl rfl (w.heap.size) rfl (bxA bx) 4 strX rfl HB.out.a ?_)
                  )
                refine (xHalves_any bx _ HRT.out).mono ?_
                rintro e z2 ⟨rfl, hk⟩
                rw [HQ.out.e]
                replace HB := Lib.hid (HB.out.call hk)
                have l13 : Hid (w.heap.size < z2.heap.size) := HB.out.a.lt
                have l14 : Hid (w.heap.size < z2.heap.size + 1) := Nat.lt_succ_of_lt l13.out
                clear hk
                go_wp2_with (first
                  | ((with_reducible show wpList _ _ _ (⟨none, _, _, _, _, _⟩ :: _) _ _); refine wpList_store_at 23 (.tmp 13) (.tmp 87) rfl rfl rfl z2.heap.size rfl (bxA lo) (bxA zbx) 4 rfl strX rfl rfl (bxA_one _) ((At.new z2 23 (bxA zbx)).alloc (.cells (bxA zbx) 23)) ?_; intro w3 h3 g3; have H2 := Lib.hid h3; have HT := Lib.hid (two_new g3); clear h3 g3)
                  | ((with_reducible show wpList _ _ _ (⟨none, _, _, _, _, _⟩ :: _) _ _); refine wpList_store_at 23 (.tmp 14) (.tmp 88) rfl rfl rfl (z2.heap.size + 1) rfl (bxA hi) (bxA zbx) 4 rfl strX rfl rfl (bxA_one _) HT.out.2 ?_; intro w4 h4 g4; have hk : Below z2.heap.size z2 w4 := HT.out.1.grown g4 HT.out.1.size (fun j e => by injection e with e; omega); replace HB := Lib.hid (HB.out.call hk); have B13 := Lib.hid (H2.out.grown g4 (fun e => by injection e with e; omega)); have B14 := Lib.hid h4; clear hk h4 g4 HT H2; generalize z2.heap.size + 1 = g14 at B14 l14 ⊢; generalize z2.heap.size = g13 at B13 l13 ⊢)
                  | ((with_reducible show wpList _ _ _ (⟨some 90, _, _, _, _, _⟩ :: _) _ _); refine wpList_load_at 23 90 (.tmp 14) rfl rfl rfl g14 rfl (bxA hi) 4 strX rfl B14.out ?_)
                  | ((with_reducible show wpList _ _ _ (⟨none, _, _, _, _, _⟩ :: _) _ _); refine wpList_store_at 23 (.tmp 4) (.tmp 90) rfl rfl rfl (w.heap.size) rfl (bxA hi) (bxA bx) 4 rfl strX rfl rfl (bxA_one _) HB.out.a ?_; intro w7 h7 g7; have HB7 := Lib.hid (HB.out.put h7 g7); have C13 := Lib.hid (B13.out.grown g7 (fun e => by injection e with e; have := l13.out; omega)); clear h7 g7; have R1 : w7.cell? ⟨b0, o0 + k, none⟩ = some (.bool false) := (HB7.out.bel.cell (p := ⟨b0, o0 + k, none⟩) hb0).trans HC.out)
                  )
                exact ⟨⟨k + 1, hi, by have := (HQ.out.l rfl).2; omega, by go_num, Lib.hid (HQ.out.r rfl).2, HB7⟩, by simp [intOf]; omega⟩
              · skip
                go_wp2_with (first
                  | ((with_reducible show wpList _ _ _ (⟨some 77, _, _, _, _, _⟩ :: _) _ _); refine wpList_load_at 23 77 (.tmp 4) rfl rfl rfl (w.heap.size) rfl (bxA bx) 4 strX rfl HB.out.a ?_)
                  )
                refine (xCells_any bx _).mono ?_
                rintro e z1 ⟨rfl, hk⟩
                rw [HCV.out]
                replace HB := Lib.hid (HB.out.call hk)
                clear hk
                go_wp2_with (first
                  | ((with_reducible show wpList _ _ _ (⟨some 85, _, _, _, _, _⟩ :: _) _ _); refine wpList_load_at 23 85 (.tmp 4) rfl rfl rfl (w.heap.size) rfl (bxA bx) 4 strX rfl HB.out.a ?_)
                  )
                refine (xHalves_any bx _ HRT.out).mono ?_
                rintro e z2 ⟨rfl, hk⟩
                rw [HQ.out.e]
                replace HB := Lib.hid (HB.out.call hk)
                have l13 : Hid (w.heap.size < z2.heap.size) := HB.out.a.lt
                have l14 : Hid (w.heap.size < z2.heap.size + 1) := Nat.lt_succ_of_lt l13.out
                clear hk
                go_wp2_with (first
                  | ((with_reducible show wpList _ _ _ (⟨none, _, _, _, _, _⟩ :: _) _ _); refine wpList_store_at 23 (.tmp 13) (.tmp 87) rfl rfl rfl z2.heap.size rfl (bxA lo) (bxA zbx) 4 rfl strX rfl rfl (bxA_one _) ((At.new z2 23 (bxA zbx)).alloc (.cells (bxA zbx) 23)) ?_; intro w3 h3 g3; have H2 := Lib.hid h3; have HT := Lib.hid (two_new g3); clear h3 g3)
                  | ((with_reducible show wpList _ _ _ (⟨none, _, _, _, _, _⟩ :: _) _ _); refine wpList_store_at 23 (.tmp 14) (.tmp 88) rfl rfl rfl (z2.heap.size + 1) rfl (bxA hi) (bxA zbx) 4 rfl strX rfl rfl (bxA_one _) HT.out.2 ?_; intro w4 h4 g4; have hk : Below z2.heap.size z2 w4 := HT.out.1.grown g4 HT.out.1.size (fun j e => by injection e with e; omega); replace HB := Lib.hid (HB.out.call hk); have B13 := Lib.hid (H2.out.grown g4 (fun e => by injection e with e; omega)); have B14 := Lib.hid h4; clear hk h4 g4 HT H2; generalize z2.heap.size + 1 = g14 at B14 l14 ⊢; generalize z2.heap.size = g13 at B13 l13 ⊢)
                  | ((with_reducible show wpList _ _ _ (⟨some 90, _, _, _, _, _⟩ :: _) _ _); refine wpList_load_at 23 90 (.tmp 14) rfl rfl rfl g14 rfl (bxA hi) 4 strX rfl B14.out ?_)
                  | ((with_reducible show wpList _ _ _ (⟨none, _, _, _, _, _⟩ :: _) _ _); refine wpList_store_at 23 (.tmp 4) (.tmp 90) rfl rfl rfl (w.heap.size) rfl (bxA hi) (bxA bx) 4 rfl strX rfl rfl (bxA_one _) HB.out.a ?_; intro w7 h7 g7; have HB7 := Lib.hid (HB.out.put h7 g7); have C13 := Lib.hid (B13.out.grown g7 (fun e => by injection e with e; have := l13.out; omega)); clear h7 g7; have R1 : w7.cell? ⟨b0, o0 + k, none⟩ = some (.bool true) := (HB7.out.bel.cell (p := ⟨b0, o0 + k, none⟩) hb0).trans HC.out)
                  | ((with_reducible show wpList _ _ _ (⟨some 101, _, _, _, _, _⟩ :: _) _ _); refine wpList_load_at 23 101 (.tmp 13) rfl rfl rfl g13 rfl (bxA lo) 4 strX rfl C13.out ?_)
                  | ((with_reducible show wpList _ _ _ (⟨none, _, _, _, _, _⟩ :: _) _ _); refine wpList_store_at 23 (.tmp 4) (.tmp 101) rfl rfl rfl (w.heap.size) rfl (bxA lo) (bxA hi) 4 rfl strX rfl rfl (bxA_one _) HB7.out.a ?_; intro w8 h8 g8; have HB8 := Lib.hid (HB7.out.put h8 g8); clear h8 g8)
                  )
                exact ⟨⟨k + 1, lo, by have := (HQ.out.l rfl).1; omega, by go_num, Lib.hid (HQ.out.r rfl).1, HB8⟩, by simp [intOf]; omega⟩
            · skip
              go_wp2_with (first
                | ((with_reducible show wpList _ _ _ (⟨some 77, _, _, _, _, _⟩ :: _) _ _); refine wpList_load_at 23 77 (.tmp 4) rfl rfl rfl (w.heap.size) rfl (bxA bx) 4 strX rfl HB.out.a ?_)
                )
              refine (xCells_any bx _).mono ?_
              rintro e z1 ⟨rfl, hk⟩
              rw [HCV.out]
              replace HB := Lib.hid (HB.out.call hk)
              clear hk
              go_wp2_with (first
                | ((with_reducible show wpList _ _ _ (⟨some 85, _, _, _, _, _⟩ :: _) _ _); refine wpList_load_at 23 85 (.tmp 4) rfl rfl rfl (w.heap.size) rfl (bxA bx) 4 strX rfl HB.out.a ?_)
                )
              refine (xHalves_any bx _ HRT.out).mono ?_
              rintro e z2 ⟨rfl, hk⟩
              rw [HQ.out.e]
              replace HB := Lib.hid (HB.out.call hk)
              have l13 : Hid (w.heap.size < z2.heap.size) := HB.out.a.lt
              have l14 : Hid (w.heap.size < z2.heap.size + 1) := Nat.lt_succ_of_lt l13.out
              clear hk
              go_wp2_with (first
                | ((with_reducible show wpList _ _ _ (⟨none, _, _, _, _, _⟩ :: _) _ _); refine wpList_store_at 23 (.tmp 13) (.tmp 87) rfl rfl rfl z2.heap.size rfl (bxA lo) (bxA zbx) 4 rfl strX rfl rfl (bxA_one _) ((At.new z2 23 (bxA zbx)).alloc (.cells (bxA zbx) 23)) ?_; intro w3 h3 g3; have H2 := Lib.hid h3; have HT := Lib.hid (two_new g3); clear h3 g3)
                | ((with_reducible show wpList _ _ _ (⟨none, _, _, _, _, _⟩ :: _) _ _); refine wpList_store_at 23 (.tmp 14) (.tmp 88) rfl rfl rfl (z2.heap.size + 1) rfl (bxA hi) (bxA zbx) 4 rfl strX rfl rfl (bxA_one _) HT.out.2 ?_; intro w4 h4 g4; have hk : Below z2.heap.size z2 w4 := HT.out.1.grown g4 HT.out.1.size (fun j e => by injection e with e; omega); replace HB := Lib.hid (HB.out.call hk); have B13 := Lib.hid (H2.out.grown g4 (fun e => by injection e with e; omega)); have B14 := Lib.hid h4; clear hk h4 g4 HT H2; generalize z2.heap.size + 1 = g14 at B14 l14 ⊢; generalize z2.heap.size = g13 at B13 l13 ⊢)
                | ((with_reducible show wpList _ _ _ (⟨some 90, _, _, _, _, _⟩ :: _) _ _); refine wpList_load_at 23 90 (.tmp 14) rfl rfl rfl g14 rfl (bxA hi) 4 strX rfl B14.out ?_)
                | ((with_reducible show wpList _ _ _ (⟨none, _, _, _, _, _⟩ :: _) _ _); refine wpList_store_at 23 (.tmp 4) (.tmp 90) rfl rfl rfl (w.heap.size) rfl (bxA hi) (bxA bx) 4 rfl strX rfl rfl (bxA_one _) HB.out.a ?_; intro w7 h7 g7; have HB7 := Lib.hid (HB.out.put h7 g7); have C13 := Lib.hid (B13.out.grown g7 (fun e => by injection e with e; have := l13.out; omega)); clear h7 g7)
                )
              exact ⟨⟨k + 1, hi, by have := (HQ.out.l rfl).2; omega, by go_num, Lib.hid (HQ.out.r rfl).2, HB7⟩, by simp [intOf]; omega⟩
theorem Halves_law (a0_0 a0_1 a0_2 a0_3 a1 a2 : Int) (A : Option Addr) (n c : Nat) (W : World) (_ : (Lit.int .i64 a0_0).wf = true) (_ : (Lit.int .i64 a0_1).wf = true) (_ : (Lit.int .i64 a0_2).wf = true) (_ : (Lit.int .i64 a0_3).wf = true) (_ : (Lit.int .i64 a1).wf = true) (_ : (Lit.int .i64 a2).wf = true) (hl : BoL W A n) (hn : n ≤ maxLen) : Calls Try.prog 7 #[.agg #[.int .i64 a0_0, .int .i64 a0_1, .int .i64 a0_2, .int .i64 a0_3], .int .i64 a1, .int .i64 a2, .slice A n c] W (fun e z => e = .returned (.bool true) ∧ Below W.heap.size W z) := Halves_any ⟨a0_0, a0_1, a0_2, a0_3⟩ a1 a2 A n c W hl hn
end Go.Proofs.Ytgjkbnplpioloaa
