/-
  The law RegionBoxes where it runs.
  Conditions: none.
-/
import Derived.Test.YtgjkbnplpioloaaB28
namespace Go.Proofs.Ytgjkbnplpioloaa
open Go.RowKit
attribute [local go_sem] Oper.semAt_some
set_option maxRecDepth 20000

/-- The two boxes that came in. -/
structure BbS (w : World) (a b : Bx) (y : World) : Prop where
  a : At y w.heap.size 23 (bxA a)
  b : At y (w.heap.size + 1) 23 (bxA b)
  bel : Below w.heap.size w y
theorem BbS.call {w y z : World} {a b : Bx} (h : BbS w a b y) (hb : Below y.heap.size y z) : BbS w a b z := ⟨h.a.under hb h.a.lt, h.b.under hb h.b.lt, h.bel.trans (hb.mono h.bel.size)⟩
theorem BbS.start (w : World) (a b : Bx) : BbS w a b ((w.alloc (.cells (bxA a) 23)).alloc (.cells (bxA b) 23)) := by
  refine ⟨(At.new w 23 (bxA a)).alloc _, ?_, ((Below.refl _ w).alloc (Nat.le_refl _) _).alloc (by simp) _⟩
  have := At.new (w.alloc (.cells (bxA a) 23)) 23 (bxA b)
  rw [World.size_alloc] at this
  exact this
/-- The halves of a box that is right, and what the document says of them. -/
structure HalvP (a lo hi : Bx) (two : Bool) : Prop where
  e : halvesX a = (lo, hi, two)
  g : decide (1 < cellsX a) = two
  j : two = true → joinX lo hi = (a, true)
  c : two = true → cellsX lo + cellsX hi = cellsX a
  n : 1 ≤ cellsX a ∧ cellsX a ≤ 64
theorem halvP {a : Bx} (h : RtX a) : ∃ lo hi two, HalvP a lo hi two := by
  obtain ⟨h1, h2, h3⟩ := cells_one h
  by_cases h0 : oneX a = true
  · refine ⟨a, a, false, ⟨?_, ?_, (fun e => by cases e), (fun e => by cases e), h2, h3⟩⟩
    · unfold halvesX; rw [if_pos h0]
    · have := h1.2 h0
      exact decide_eq_false (by omega)
  · have hf : oneX a = false := by simpa using h0
    refine ⟨loX a, hiX a, true, ⟨?_, ?_, (fun _ => halves_join h hf), (fun _ => halves_cells h hf), h2, h3⟩⟩
    · unfold halvesX; rw [if_neg h0]
    · have : ¬ cellsX a < 2 := fun q => h0 (h1.1 q)
      exact decide_eq_true (by omega)
theorem neq_bool (q : Bool) (w : World) : (binOp .neq 4 (.bool q) (.bool q)).run Try.prog w = .ok (.bool false) w := by cases q <;> go_simp <;> rfl
set_option maxHeartbeats 25600000 in
theorem Boxes_any (a b : Bx) (x y : Int) (w : World) : Calls Try.prog 3 #[.agg (bxA a), .agg (bxA b), .int .i64 x, .int .i64 y] w (RetV w (.bool true)) := by
  have HB0 := Lib.hid (BbS.start w a b)
  obtain ⟨j, ok, hj⟩ : ∃ j ok, joinX a b = (j, ok) := ⟨_, _, rfl⟩
  obtain ⟨k, is, hk⟩ : ∃ k is, rJoinX a b = (k, is) := ⟨_, _, rfl⟩
  obtain ⟨hs1, hs2⟩ := join_same a b
  rw [hj, hk] at hs1 hs2
  obtain rfl : ok = is := hs1
  have HJ := Lib.hid hj
  have HK := Lib.hid hk
  have HS2 : Hid (ok = true → j = k) := hs2
  clear hj hk hs2
  go_enter Try.func3, Try.ntmps3
  go_upto_region 1 with fail
  generalize ((w.alloc (.cells (bxA a) 23)).alloc (.cells (bxA b) 23)) = y0 at HB0 ⊢
  refine wp_region_held_drew (S := Below y0.heap.size y0) (by kernel_rfl) (Below.refl _ y0).drew (fun hS => ?_)
  refine tkS (v := .agg (bxA a)) 0 hS ?_ (hy := by intro wz hz; exact exec_load_at 23 (.tmp 4) rfl (w.heap.size) rfl (bxA a) 4 strX rfl ((HB0.out.a).under hz (HB0.out.a).lt))
  refine tkS (v := .agg (bxA a)) 2 hS ?_ (hy := by intro wz hz; exact exec_load_at 23 (.tmp 4) rfl (w.heap.size) rfl (bxA a) 4 strX rfl ((HB0.out.a).under hz (HB0.out.a).lt))
  refine wpAnyH_ready (rs := [1]) (by kernel_rfl) (by simp) ?_
  refine AllReadyH.cons rfl (fun K hK => ?_) AllReadyH.nil
  go_simp
  refine (xRight_any a _).mono ?_
  rintro e z1 ⟨rfl, hb2⟩
  have hb : True := trivial
  have HS1 := Lib.hid (Below.trans hS (hb2.mono (Below.size hS)))
  clear hb2
  refine hK.out _ _ (HS1.out) (fun hT => ?_)
  clear hK hb hS
  have hS := hT
  clear hT
  refine wpAnyH_ready (rs := [3]) (by kernel_rfl) (by simp) ?_
  refine AllReadyH.cons rfl (fun K hK => ?_) AllReadyH.nil
  go_simp
  refine (own_any a _).mono ?_
  rintro e z3 ⟨rfl, hb2⟩
  have hb : True := trivial
  have HS3 := Lib.hid (Below.trans hS (hb2.mono (Below.size hS)))
  clear hb2
  refine hK.out _ _ (HS3.out) (fun hT => ?_)
  clear hK hb hS
  have hS := hT
  clear hT
  refine wpAnyH_ready (rs := [4]) (by kernel_rfl) (by simp) ?_
  refine AllReadyH.cons rfl (fun K hK => ?_) AllReadyH.nil
  go_simp
  refine (rRight_any a _).mono ?_
  rintro e z4 ⟨rfl, hb2⟩
  have hb : True := trivial
  have HS4 := Lib.hid (Below.trans hS (hb2.mono (Below.size hS)))
  clear hb2
  refine hK.out _ _ (HS4.out) (fun hT => ?_)
  clear hK hb hS
  have hS := hT
  clear hT
  refine tkS (v := .bool false) 5 hS ?_ (hy := by intro wz hz; go_simp <;> simp)
  refine tkS 6 hS ?_
  refine tkS (v := .agg (bxA a)) 7 hS ?_ (hy := by intro wz hz; exact exec_load_at 23 (.tmp 4) rfl (w.heap.size) rfl (bxA a) 4 strX rfl ((HB0.out.a).under hz (HB0.out.a).lt))
  refine tkS 8 hS ?_
  refine tkS 9 hS ?_
  refine tkS (v := .agg (bxA a)) 11 hS ?_ (hy := by intro wz hz; exact exec_load_at 23 (.tmp 4) rfl (w.heap.size) rfl (bxA a) 4 strX rfl ((HB0.out.a).under hz (HB0.out.a).lt))
  refine tkS 13 hS ?_
  refine tkS 14 hS ?_
  refine wpAnyH_ready (rs := [10]) (by kernel_rfl) (by simp) ?_
  refine AllReadyH.cons rfl (fun K hK => ?_) AllReadyH.nil
  go_simp
  refine (xHas_any a x y _).mono ?_
  rintro e z10 ⟨rfl, hb2⟩
  have hb : True := trivial
  have HS10 := Lib.hid (Below.trans hS (hb2.mono (Below.size hS)))
  clear hb2
  refine hK.out _ _ (HS10.out) (fun hT => ?_)
  clear hK hb hS
  have hS := hT
  clear hT
  refine wpAnyH_ready (rs := [12]) (by kernel_rfl) (by simp) ?_
  refine AllReadyH.cons rfl (fun K hK => ?_) AllReadyH.nil
  go_simp
  refine (own_any a _).mono ?_
  rintro e z12 ⟨rfl, hb2⟩
  have hb : True := trivial
  have HS12 := Lib.hid (Below.trans hS (hb2.mono (Below.size hS)))
  clear hb2
  refine hK.out _ _ (HS12.out) (fun hT => ?_)
  clear hK hb hS
  have hS := hT
  clear hT
  refine wpAnyH_ready (rs := [15]) (by kernel_rfl) (by simp) ?_
  refine AllReadyH.cons rfl (fun K hK => ?_) AllReadyH.nil
  go_simp
  refine (rHas_any a x y _).mono ?_
  rintro e z15 ⟨rfl, hb2⟩
  have hb : True := trivial
  have HS15 := Lib.hid (Below.trans hS (hb2.mono (Below.size hS)))
  clear hb2
  refine hK.out _ _ (HS15.out) (fun hT => ?_)
  clear hK hb hS
  have hS := hT
  clear hT
  refine tkS (v := .bool false) 16 hS ?_ (hy := by intro wz hz; go_simp <;> simp)
  refine tkS 17 hS ?_
  refine wpAnyH_done (by kernel_rfl) ?_ _
  have HB1 := Lib.hid (HB0.out.call hS)
  clear hS
  go_upto_region 4 with (first
    | ((with_reducible show wpList _ _ _ (⟨some 40, _, _, _, _, _⟩ :: _) _ _); refine wpList_load_at 23 40 (.tmp 4) rfl rfl rfl (w.heap.size) rfl (bxA a) 4 strX rfl HB1.out.a ?_)
    | ((with_reducible show wpList _ _ _ (⟨some 41, _, _, _, _, _⟩ :: _) _ _); refine wpList_load_at 23 41 (.tmp 5) rfl rfl rfl (w.heap.size + 1) rfl (bxA b) 4 strX rfl HB1.out.b ?_)
    | (go_at_call 13; refine (Join_any a b _).mono ?_; rw [HJ.out]; rintro e z2 ⟨rfl, hz⟩; have HB3 := Lib.hid (HB1.out.call hz); clear hz)
    | ((with_reducible show wpList _ _ _ (⟨none, _, _, _, _, _⟩ :: _) _ _); refine wpList_store_new 23 (.tmp 9) (.tmp 43) rfl rfl rfl z2.heap.size z2 rfl rfl (bxA j) _ 4 rfl strX rfl rfl (bxA_one _) rfl ?_; have hk := (Below.refl z2.heap.size z2).alloc (Nat.le_refl _) (.cells (bxA j) 23); replace HB3 := Lib.hid (HB3.out.call hk); clear hk; have HJ9 := Lib.hid (At.new z2 23 (bxA j)); generalize z2.alloc (.cells (bxA j) 23) = y3 at HB3 HJ9 ⊢; generalize z2.heap.size = g9 at HJ9 ⊢)
    )
  have zb0 : Hid ((#[Value.int .i64 0, .int .i64 0, .int .i64 0, .int .i64 0] : Array Value) = bxA zbx) := rfl
  go_cut [11, 12] from 45 to 53 (fun s11 s12 wx => ∃ gx : Nat, s11 = .pointer (some ⟨gx, 0, none⟩) ∧ s12 = .bool ok ∧ Hid (At wx gx 26 (bxA k)) ∧ Hid (Below y3.heap.size y3 wx))
  case first =>
    refine wp_region_held_drew (S := Below y3.heap.size y3) (by kernel_rfl) (Below.refl _ y3).drew (fun hS => ?_)
    generalize y3.drew = yd at hS ⊢
    have HQ3 := Lib.hid HB3.out
    refine tkS (v := .agg (bxA a)) 0 hS ?_ (hy := by intro wz hz; exact exec_load_at 23 (.tmp 4) rfl (w.heap.size) rfl (bxA a) 4 strX rfl ((HB3.out.a).under hz (HB3.out.a).lt))
    refine tkS (v := .agg (bxA b)) 2 hS ?_ (hy := by intro wz hz; exact exec_load_at 23 (.tmp 5) rfl (w.heap.size + 1) rfl (bxA b) 4 strX rfl ((HB3.out.b).under hz (HB3.out.b).lt))
    refine wpAnyH_ready (rs := [1, 8]) (by kernel_rfl) (by simp) ?_
    refine AllReadyH.cons rfl (fun K hK => ?_) (AllReadyH.cons rfl (fun K hK => ?_) AllReadyH.nil)
    · go_simp
      refine (own_any a _).mono ?_
      rintro e z0 ⟨rfl, hb2⟩
      have hb : True := trivial
      have HS0 := Lib.hid (Below.trans hS (hb2.mono (Below.size hS)))
      clear hb2
      refine hK.out _ _ (HS0.out) (fun hT => ?_)
      clear hK hS
      have hS := hT
      clear hT
      refine wpAnyH_ready (rs := [3, 8]) (by kernel_rfl) (by simp) ?_
      refine AllReadyH.cons rfl (fun K hK => ?_) (AllReadyH.cons rfl (fun K hK => ?_) AllReadyH.nil)
      · go_simp
        refine (own_any b _).mono ?_
        rintro e z1 ⟨rfl, hb2⟩
        have hb : True := trivial
        have HS1 := Lib.hid (Below.trans hS (hb2.mono (Below.size hS)))
        clear hb2
        refine hK.out _ _ (HS1.out) (fun hT => ?_)
        clear hK hS
        have hS := hT
        clear hT
        refine wpAnyH_ready (rs := [4, 8]) (by kernel_rfl) (by simp) ?_
        refine AllReadyH.cons rfl (fun K hK => ?_) (AllReadyH.cons rfl (fun K hK => ?_) AllReadyH.nil)
        · go_simp
          refine (rJoin_any a b _).mono ?_
          rw [HK.out]
          rintro e z2 ⟨rfl, hb2⟩
          have hb : True := trivial
          have HS2 := Lib.hid (Below.trans hS (hb2.mono (Below.size hS)))
          clear hb2
          refine hK.out _ _ (HS2.out) (fun hT => ?_)
          clear hK hS
          have hS := hT
          clear hT
          refine tkS 5 hS ?_
          refine tkS 6 hS ?_
          refine tkS 7 hS ?_
          refine wpAnyH_ready (rs := [8]) (by kernel_rfl) (by simp) ?_
          refine AllReadyH.cons rfl (fun K hK => ?_) AllReadyH.nil
          go_simp
          rw [zb0.out]
          have AX := Lib.hid (At.new z2 26 (bxA zbx))
          have HT0 := Below.alloc hS (Below.size hS) (.cells (bxA zbx) 26)
          have hgx : y3.heap.size ≤ z2.heap.size := Below.size hS
          generalize z2.alloc (.cells (bxA zbx) 26) = q3 at AX HT0 ⊢
          generalize z2.heap.size = gx at AX hgx ⊢
          refine hK.out _ _ (HT0) (fun hT => ?_)
          clear hK hS
          have hS := hT
          clear hT
          refine wpAnyH_ready (rs := [9]) (by kernel_rfl) (by simp) ?_
          refine AllReadyH.cons rfl (fun K hK => ?_) AllReadyH.nil
          rw [if_pos (by rfl)]
          refine wp_store_at 26 (.tmp 11) (.tmp 51) rfl rfl gx rfl (bxA k) (bxA zbx) 4 rfl strXr rfl rfl (bxA_one _) AX.out ?_
          intro w9 h9 g9
          have H9 := Lib.hid h9
          have HS9 := Lib.hid (Below.grown hS g9 (Below.size hS) (fun j e => by injection e with e; omega))
          clear h9 g9
          refine hK.out _ _ (HS9.out) (fun hT => ?_)
          clear hK hS
          have hS := hT
          clear hT
          refine tkS 10 hS ?_
          refine wpAnyH_done (by kernel_rfl) ?_ _
          clear hS
          go_wp2_with fail
          go_meet
          exact ⟨gx, rfl, rfl, H9, HS9⟩
        · go_simp
          rw [zb0.out]
          have AX := Lib.hid (At.new z1 26 (bxA zbx))
          have HT0 := Below.alloc hS (Below.size hS) (.cells (bxA zbx) 26)
          have hgx : y3.heap.size ≤ z1.heap.size := Below.size hS
          generalize z1.alloc (.cells (bxA zbx) 26) = q2 at AX HT0 ⊢
          generalize z1.heap.size = gx at AX hgx ⊢
          refine hK.out _ _ (HT0) (fun hT => ?_)
          clear hK hS
          have hS := hT
          clear hT
          refine wpAnyH_ready (rs := [4]) (by kernel_rfl) (by simp) ?_
          refine AllReadyH.cons rfl (fun K hK => ?_) AllReadyH.nil
          go_simp
          refine (rJoin_any a b _).mono ?_
          rw [HK.out]
          rintro e z3 ⟨rfl, hb2⟩
          have hb : True := trivial
          have HS3 := Lib.hid (Below.trans hS (hb2.mono (Below.size hS)))
          replace AX := Lib.hid (AX.out.under hb2 AX.out.lt)
          clear hb2
          refine hK.out _ _ (HS3.out) (fun hT => ?_)
          clear hK hS
          have hS := hT
          clear hT
          refine tkS 5 hS ?_
          refine tkS 6 hS ?_
          refine tkS 7 hS ?_
          refine wpAnyH_ready (rs := [9]) (by kernel_rfl) (by simp) ?_
          refine AllReadyH.cons rfl (fun K hK => ?_) AllReadyH.nil
          rw [if_pos (by rfl)]
          refine wp_store_at 26 (.tmp 11) (.tmp 51) rfl rfl gx rfl (bxA k) (bxA zbx) 4 rfl strXr rfl rfl (bxA_one _) AX.out ?_
          intro w9 h9 g9
          have H9 := Lib.hid h9
          have HS9 := Lib.hid (Below.grown hS g9 (Below.size hS) (fun j e => by injection e with e; omega))
          clear h9 g9
          refine hK.out _ _ (HS9.out) (fun hT => ?_)
          clear hK hS
          have hS := hT
          clear hT
          refine tkS 10 hS ?_
          refine wpAnyH_done (by kernel_rfl) ?_ _
          clear hS
          go_wp2_with fail
          go_meet
          exact ⟨gx, rfl, rfl, H9, HS9⟩
      · go_simp
        rw [zb0.out]
        have AX := Lib.hid (At.new z0 26 (bxA zbx))
        have HT0 := Below.alloc hS (Below.size hS) (.cells (bxA zbx) 26)
        have hgx : y3.heap.size ≤ z0.heap.size := Below.size hS
        generalize z0.alloc (.cells (bxA zbx) 26) = q1 at AX HT0 ⊢
        generalize z0.heap.size = gx at AX hgx ⊢
        refine hK.out _ _ (HT0) (fun hT => ?_)
        clear hK hS
        have hS := hT
        clear hT
        refine wpAnyH_ready (rs := [3]) (by kernel_rfl) (by simp) ?_
        refine AllReadyH.cons rfl (fun K hK => ?_) AllReadyH.nil
        go_simp
        refine (own_any b _).mono ?_
        rintro e z2 ⟨rfl, hb2⟩
        have hb : True := trivial
        have HS2 := Lib.hid (Below.trans hS (hb2.mono (Below.size hS)))
        replace AX := Lib.hid (AX.out.under hb2 AX.out.lt)
        clear hb2
        refine hK.out _ _ (HS2.out) (fun hT => ?_)
        clear hK hS
        have hS := hT
        clear hT
        refine wpAnyH_ready (rs := [4]) (by kernel_rfl) (by simp) ?_
        refine AllReadyH.cons rfl (fun K hK => ?_) AllReadyH.nil
        go_simp
        refine (rJoin_any a b _).mono ?_
        rw [HK.out]
        rintro e z3 ⟨rfl, hb2⟩
        have hb : True := trivial
        have HS3 := Lib.hid (Below.trans hS (hb2.mono (Below.size hS)))
        replace AX := Lib.hid (AX.out.under hb2 AX.out.lt)
        clear hb2
        refine hK.out _ _ (HS3.out) (fun hT => ?_)
        clear hK hS
        have hS := hT
        clear hT
        refine tkS 5 hS ?_
        refine tkS 6 hS ?_
        refine tkS 7 hS ?_
        refine wpAnyH_ready (rs := [9]) (by kernel_rfl) (by simp) ?_
        refine AllReadyH.cons rfl (fun K hK => ?_) AllReadyH.nil
        rw [if_pos (by rfl)]
        refine wp_store_at 26 (.tmp 11) (.tmp 51) rfl rfl gx rfl (bxA k) (bxA zbx) 4 rfl strXr rfl rfl (bxA_one _) AX.out ?_
        intro w9 h9 g9
        have H9 := Lib.hid h9
        have HS9 := Lib.hid (Below.grown hS g9 (Below.size hS) (fun j e => by injection e with e; omega))
        clear h9 g9
        refine hK.out _ _ (HS9.out) (fun hT => ?_)
        clear hK hS
        have hS := hT
        clear hT
        refine tkS 10 hS ?_
        refine wpAnyH_done (by kernel_rfl) ?_ _
        clear hS
        go_wp2_with fail
        go_meet
        exact ⟨gx, rfl, rfl, H9, HS9⟩
    · go_simp
      rw [zb0.out]
      have AX := Lib.hid (At.new yd 26 (bxA zbx))
      have HT0 := Below.alloc hS (Below.size hS) (.cells (bxA zbx) 26)
      have hgx : y3.heap.size ≤ yd.heap.size := Below.size hS
      generalize yd.alloc (.cells (bxA zbx) 26) = q0 at AX HT0 ⊢
      generalize yd.heap.size = gx at AX hgx ⊢
      refine hK.out _ _ (HT0) (fun hT => ?_)
      clear hK hS
      have hS := hT
      clear hT
      refine wpAnyH_ready (rs := [1]) (by kernel_rfl) (by simp) ?_
      refine AllReadyH.cons rfl (fun K hK => ?_) AllReadyH.nil
      go_simp
      refine (own_any a _).mono ?_
      rintro e z1 ⟨rfl, hb2⟩
      have hb : True := trivial
      have HS1 := Lib.hid (Below.trans hS (hb2.mono (Below.size hS)))
      replace AX := Lib.hid (AX.out.under hb2 AX.out.lt)
      clear hb2
      refine hK.out _ _ (HS1.out) (fun hT => ?_)
      clear hK hS
      have hS := hT
      clear hT
      refine wpAnyH_ready (rs := [3]) (by kernel_rfl) (by simp) ?_
      refine AllReadyH.cons rfl (fun K hK => ?_) AllReadyH.nil
      go_simp
      refine (own_any b _).mono ?_
      rintro e z2 ⟨rfl, hb2⟩
      have hb : True := trivial
      have HS2 := Lib.hid (Below.trans hS (hb2.mono (Below.size hS)))
      replace AX := Lib.hid (AX.out.under hb2 AX.out.lt)
      clear hb2
      refine hK.out _ _ (HS2.out) (fun hT => ?_)
      clear hK hS
      have hS := hT
      clear hT
      refine wpAnyH_ready (rs := [4]) (by kernel_rfl) (by simp) ?_
      refine AllReadyH.cons rfl (fun K hK => ?_) AllReadyH.nil
      go_simp
      refine (rJoin_any a b _).mono ?_
      rw [HK.out]
      rintro e z3 ⟨rfl, hb2⟩
      have hb : True := trivial
      have HS3 := Lib.hid (Below.trans hS (hb2.mono (Below.size hS)))
      replace AX := Lib.hid (AX.out.under hb2 AX.out.lt)
      clear hb2
      refine hK.out _ _ (HS3.out) (fun hT => ?_)
      clear hK hS
      have hS := hT
      clear hT
      refine tkS 5 hS ?_
      refine tkS 6 hS ?_
      refine tkS 7 hS ?_
      refine wpAnyH_ready (rs := [9]) (by kernel_rfl) (by simp) ?_
      refine AllReadyH.cons rfl (fun K hK => ?_) AllReadyH.nil
      rw [if_pos (by rfl)]
      refine wp_store_at 26 (.tmp 11) (.tmp 51) rfl rfl gx rfl (bxA k) (bxA zbx) 4 rfl strXr rfl rfl (bxA_one _) AX.out ?_
      intro w9 h9 g9
      have H9 := Lib.hid h9
      have HS9 := Lib.hid (Below.grown hS g9 (Below.size hS) (fun j e => by injection e with e; omega))
      clear h9 g9
      refine hK.out _ _ (HS9.out) (fun hT => ?_)
      clear hK hS
      have hS := hT
      clear hT
      refine tkS 10 hS ?_
      refine wpAnyH_done (by kernel_rfl) ?_ _
      clear hS
      go_wp2_with fail
      go_meet
      exact ⟨gx, rfl, rfl, H9, HS9⟩
  case rest =>
    obtain ⟨gx, rfl, rfl, HK9, HBx⟩ := hcut
    have HB5 := Lib.hid (HB3.out.call HBx.out)
    replace HJ9 := Lib.hid (HJ9.out.call HBx.out)
    clear HB1 HB3 HB0 HBx
    go_upto_region 5 with fail
    go_cut [64] from 53 to 65 (fun s64 wx => s64 = .bool false ∧ Hid (Below wc.heap.size wc wx))
    case first =>
      cases ok
      · skip
        refine wp_region_held_drew (S := Below wc.heap.size wc) (by kernel_rfl) (Below.refl _ wc).drew (fun hS => ?_)
        refine tkS 0 hS ?_
        refine tkS 1 hS ?_
        refine tkS (v := .bool false) 2 hS ?_ (hy := by intro wz hz; go_simp)
        refine tkS 3 hS ?_
        refine tkS 4 hS ?_
        refine tkS 5 hS ?_
        refine skS 6 hS ?_
        refine skS 7 hS ?_
        refine skS 8 hS ?_
        refine skS 9 hS ?_
        refine tkS 10 hS ?_
        refine tkS 11 hS ?_
        refine wpAnyH_done (by kernel_rfl) ?_ _
        go_wp2_with fail
        go_meet
        exact ⟨rfl, Lib.hid hS⟩
      · have HJK : Hid (sameX j k = true) := (sameX_iff j k).2 (HS2.out rfl)
        refine wp_region_held_drew (S := Below wc.heap.size wc) (by kernel_rfl) (Below.refl _ wc).drew (fun hS => ?_)
        refine tkS 0 hS ?_
        refine tkS 1 hS ?_
        refine tkS (v := .bool false) 2 hS ?_ (hy := by intro wz hz; go_simp)
        refine tkS 3 hS ?_
        refine tkS 4 hS ?_
        refine tkS 5 hS ?_
        refine tkS (v := .agg (bxA j)) 6 hS ?_ (hy := by intro wz hz; exact exec_load_at 23 (.tmp 9) rfl (g9) rfl (bxA j) 4 strX rfl ((HJ9.out).under hz (HJ9.out).lt))
        refine tkS (v := .agg (bxA k)) 8 hS ?_ (hy := by intro wz hz; exact exec_load_at 26 (.tmp 11) rfl (gx) rfl (bxA k) 4 strXr rfl ((HK9.out).under hz (HK9.out).lt))
        refine wpAnyH_ready (rs := [7]) (by kernel_rfl) (by simp) ?_
        refine AllReadyH.cons rfl (fun K hK => ?_) AllReadyH.nil
        go_simp
        refine (own_any j _).mono ?_
        rintro e z7 ⟨rfl, hb2⟩
        have hb : True := trivial
        have HS7 := Lib.hid (Below.trans hS (hb2.mono (Below.size hS)))
        clear hb2
        refine hK.out _ _ (HS7.out) (fun hT => ?_)
        clear hK hb hS
        have hS := hT
        clear hT
        refine tkS (v := .bool false) 9 hS ?_ (hy := by intro wz hz; exact exec_neq_br (.tmp 60) (.tmp 61) rfl j k _ true rfl rfl HJK.out)
        refine tkS 10 hS ?_
        refine tkS 11 hS ?_
        refine wpAnyH_done (by kernel_rfl) ?_ _
        go_wp2_with fail
        go_meet
        exact ⟨rfl, Lib.hid hS⟩
    case rest =>
      obtain ⟨rfl, HBx⟩ := hcut
      have HB := Lib.hid (HB5.out.call HBx.out)
      clear HB5 HBx HJ9 HK9
      obtain ⟨r, hr⟩ : ∃ r, rightX a = r := ⟨_, rfl⟩
      have HR := Lib.hid hr
      clear hr
      go_wp2_with (first
        | ((with_reducible show wpList _ _ _ (⟨some 65, _, _, _, _, _⟩ :: _) _ _); refine wpList_load_at 23 65 (.tmp 4) rfl rfl rfl (w.heap.size) rfl (bxA a) 4 strX rfl HB.out.a ?_)
        )
      refine (xRight_any a _).mono ?_
      rintro e z1 ⟨rfl, hk⟩
      rw [HR.out]
      replace HB := Lib.hid (HB.out.call hk)
      clear hk
      cases r
      · skip
        go_wp2_with fail
        refine (works_any _).mono ?_
        rintro e z2 ⟨rfl, hk⟩
        replace HB := Lib.hid (HB.out.call hk)
        clear hk
        go_wp2_with fail
        go_ret
        exact ⟨rfl, HB.out.bel⟩
      · have HRT := Lib.hid ((rightX_iff a).1 HR.out)
        obtain ⟨lo, hi, two, hp⟩ := halvP HRT.out
        have HP := Lib.hid hp
        clear hp
        cases two
        · skip
          go_wp2_with (first
            | ((with_reducible show wpList _ _ _ (⟨some 70, _, _, _, _, _⟩ :: _) _ _); refine wpList_load_at 23 70 (.tmp 4) rfl rfl rfl (w.heap.size) rfl (bxA a) 4 strX rfl HB.out.a ?_)
            )
          refine (xHalves_any a _ HRT.out).mono ?_
          rintro e z2 ⟨rfl, hk⟩
          rw [HP.out.e]
          replace HB := Lib.hid (HB.out.call hk)
          clear hk
          go_wp2_with (first
            | ((with_reducible show wpList _ _ _ (⟨none, _, _, _, _, _⟩ :: _) _ _); refine wpList_store_at 23 (.tmp 13) (.tmp 72) rfl rfl rfl z2.heap.size rfl (bxA lo) (bxA zbx) 4 rfl strX rfl rfl (bxA_one _) ((At.new z2 23 (bxA zbx)).alloc (.cells (bxA zbx) 23)) ?_; intro w3 h3 g3; have H2 := Lib.hid h3; have HT := Lib.hid (two_new g3); clear h3 g3)
            | ((with_reducible show wpList _ _ _ (⟨none, _, _, _, _, _⟩ :: _) _ _); refine wpList_store_at 23 (.tmp 14) (.tmp 73) rfl rfl rfl (z2.heap.size + 1) rfl (bxA hi) (bxA zbx) 4 rfl strX rfl rfl (bxA_one _) HT.out.2 ?_; intro w4 h4 g4; have hk : Below z2.heap.size z2 w4 := HT.out.1.grown g4 HT.out.1.size (fun j e => by injection e with e; omega); replace HB := Lib.hid (HB.out.call hk); have B13 := Lib.hid (H2.out.grown g4 (fun e => by injection e with e; omega)); have B14 := Lib.hid h4; clear hk h4 g4 HT H2; generalize z2.heap.size + 1 = g14 at B14 ⊢; generalize z2.heap.size = g13 at B13 ⊢)
            | ((with_reducible show wpList _ _ _ (⟨some 76, _, _, _, _, _⟩ :: _) _ _); refine wpList_load_at 23 76 (.tmp 4) rfl rfl rfl (w.heap.size) rfl (bxA a) 4 strX rfl HB.out.a ?_)
            )
          refine (own_any a _).mono ?_
          rintro e z3 ⟨rfl, hk⟩
          replace HB := Lib.hid (HB.out.call hk)
          replace B13 := Lib.hid (B13.out.call hk)
          replace B14 := Lib.hid (B14.out.call hk)
          clear hk
          go_wp2_with fail
          refine (rHalves_any a _ HRT.out).mono ?_
          rintro e z4 ⟨rfl, hk⟩
          rw [HP.out.e]
          replace HB := Lib.hid (HB.out.call hk)
          replace B13 := Lib.hid (B13.out.call hk)
          replace B14 := Lib.hid (B14.out.call hk)
          clear hk
          go_upto_region 11 with (first
            | ((with_reducible show wpList _ _ _ (⟨none, _, _, _, _, _⟩ :: _) _ _); refine wpList_store_at 26 (.tmp 16) (.tmp 79) rfl rfl rfl z4.heap.size rfl (bxA lo) (bxA zbx) 4 rfl strXr rfl rfl (bxA_one _) ((At.new z4 26 (bxA zbx)).alloc (.cells (bxA zbx) 26)) ?_; intro w3 h3 g3; have H2 := Lib.hid h3; have HT := Lib.hid (two_new g3); clear h3 g3)
            | ((with_reducible show wpList _ _ _ (⟨none, _, _, _, _, _⟩ :: _) _ _); refine wpList_store_at 26 (.tmp 17) (.tmp 80) rfl rfl rfl (z4.heap.size + 1) rfl (bxA hi) (bxA zbx) 4 rfl strXr rfl rfl (bxA_one _) HT.out.2 ?_; intro w6 h4 g4; have hk : Below z4.heap.size z4 w6 := HT.out.1.grown g4 HT.out.1.size (fun j e => by injection e with e; omega); replace HB := Lib.hid (HB.out.call hk); replace B13 := Lib.hid (B13.out.call hk); replace B14 := Lib.hid (B14.out.call hk); have B16 := Lib.hid (H2.out.grown g4 (fun e => by injection e with e; omega)); have B17 := Lib.hid h4; clear hk h4 g4 HT H2; generalize z4.heap.size + 1 = g17 at B17 ⊢; generalize z4.heap.size = g16 at B16 ⊢)
            )
          go_cut [103] from 82 to 104 (fun s wx => s = .bool false ∧ Hid (Below w6.heap.size w6 wx))
          case first =>
            refine wp_region_held_drew (S := Below w6.heap.size w6) (by kernel_rfl) (Below.refl _ w6).drew (fun hS => ?_)
            refine tkS 0 hS ?_
            refine tkS 1 hS ?_
            refine tkS (v := .bool false) 2 hS ?_ (hy := by intro wz hz; go_simp <;> simp)
            refine tkS 3 hS ?_
            refine tkS (v := .agg (bxA lo)) 4 hS ?_ (hy := by intro wz hz; exact exec_load_at 23 (.tmp 13) rfl (g13) rfl (bxA lo) 4 strX rfl ((B13.out).under hz (B13.out).lt))
            refine tkS (v := .agg (bxA lo)) 6 hS ?_ (hy := by intro wz hz; exact exec_load_at 26 (.tmp 16) rfl (g16) rfl (bxA lo) 4 strXr rfl ((B16.out).under hz (B16.out).lt))
            refine wpAnyH_ready (rs := [5]) (by kernel_rfl) (by simp) ?_
            refine AllReadyH.cons rfl (fun K hK => ?_) AllReadyH.nil
            go_simp
            refine (own_any lo _).mono ?_
            rintro e z5 ⟨rfl, hb2⟩
            have hb : True := trivial
            have HS5 := Lib.hid (Below.trans hS (hb2.mono (Below.size hS)))
            clear hb2
            refine hK.out _ _ (HS5.out) (fun hT => ?_)
            clear hK hb hS
            have hS := hT
            clear hT
            refine tkS (v := .bool false) 7 hS ?_ (hy := by intro wz hz; exact exec_neq_br (.tmp 87) (.tmp 88) rfl lo lo _ true rfl rfl (sameX_refl lo))
            refine tkS 8 hS ?_
            refine tkS 9 hS ?_
            refine tkS (v := .agg (bxA hi)) 10 hS ?_ (hy := by intro wz hz; exact exec_load_at 23 (.tmp 14) rfl (g14) rfl (bxA hi) 4 strX rfl ((B14.out).under hz (B14.out).lt))
            refine tkS (v := .agg (bxA hi)) 12 hS ?_ (hy := by intro wz hz; exact exec_load_at 26 (.tmp 17) rfl (g17) rfl (bxA hi) 4 strXr rfl ((B17.out).under hz (B17.out).lt))
            refine wpAnyH_ready (rs := [11]) (by kernel_rfl) (by simp) ?_
            refine AllReadyH.cons rfl (fun K hK => ?_) AllReadyH.nil
            go_simp
            refine (own_any hi _).mono ?_
            rintro e z11 ⟨rfl, hb2⟩
            have hb : True := trivial
            have HS11 := Lib.hid (Below.trans hS (hb2.mono (Below.size hS)))
            clear hb2
            refine hK.out _ _ (HS11.out) (fun hT => ?_)
            clear hK hb hS
            have hS := hT
            clear hT
            refine tkS (v := .bool false) 13 hS ?_ (hy := by intro wz hz; exact exec_neq_br (.tmp 93) (.tmp 94) rfl hi hi _ true rfl rfl (sameX_refl hi))
            refine tkS 14 hS ?_
            refine tkS 15 hS ?_
            refine tkS 16 hS ?_
            refine tkS (v := .agg (bxA a)) 17 hS ?_ (hy := by intro wz hz; exact exec_load_at 23 (.tmp 4) rfl (w.heap.size) rfl (bxA a) 4 strX rfl ((HB.out.a).under hz (HB.out.a).lt))
            refine wpAnyH_ready (rs := [18]) (by kernel_rfl) (by simp) ?_
            refine AllReadyH.cons rfl (fun K hK => ?_) AllReadyH.nil
            go_simp
            refine (xCells_any a _).mono ?_
            rintro e z18 ⟨rfl, hb2⟩
            have hb : True := trivial
            have HS18 := Lib.hid (Below.trans hS (hb2.mono (Below.size hS)))
            clear hb2
            refine hK.out _ _ (HS18.out) (fun hT => ?_)
            clear hK hb hS
            have hS := hT
            clear hT
            refine tkS (v := .bool false) 19 hS ?_ (hy := by intro wz hz; have hg := HP.out.g; go_simp <;> simp [hg])
            refine tkS (v := .bool false) 20 hS ?_ (hy := by intro wz hz; go_simp <;> simp)
            refine tkS 21 hS ?_
            refine wpAnyH_done (by kernel_rfl) ?_ _
            go_wp2_with fail
            go_meet
            exact ⟨rfl, Lib.hid hS⟩
          case rest =>
            obtain ⟨rfl, HBx⟩ := hcut
            replace HB := Lib.hid (HB.out.call HBx.out)
            replace B13 := Lib.hid (B13.out.call HBx.out)
            replace B14 := Lib.hid (B14.out.call HBx.out)
            replace B16 := Lib.hid (B16.out.call HBx.out)
            replace B17 := Lib.hid (B17.out.call HBx.out)
            clear HBx
            go_wp2_with fail
            refine (works_any _).mono ?_
            rintro e z30 ⟨rfl, hk⟩
            replace HB := Lib.hid (HB.out.call hk)
            clear hk
            go_wp2_with fail
            go_ret
            exact ⟨rfl, HB.out.bel⟩
        · skip
          go_wp2_with (first
            | ((with_reducible show wpList _ _ _ (⟨some 70, _, _, _, _, _⟩ :: _) _ _); refine wpList_load_at 23 70 (.tmp 4) rfl rfl rfl (w.heap.size) rfl (bxA a) 4 strX rfl HB.out.a ?_)
            )
          refine (xHalves_any a _ HRT.out).mono ?_
          rintro e z2 ⟨rfl, hk⟩
          rw [HP.out.e]
          replace HB := Lib.hid (HB.out.call hk)
          clear hk
          go_wp2_with (first
            | ((with_reducible show wpList _ _ _ (⟨none, _, _, _, _, _⟩ :: _) _ _); refine wpList_store_at 23 (.tmp 13) (.tmp 72) rfl rfl rfl z2.heap.size rfl (bxA lo) (bxA zbx) 4 rfl strX rfl rfl (bxA_one _) ((At.new z2 23 (bxA zbx)).alloc (.cells (bxA zbx) 23)) ?_; intro w3 h3 g3; have H2 := Lib.hid h3; have HT := Lib.hid (two_new g3); clear h3 g3)
            | ((with_reducible show wpList _ _ _ (⟨none, _, _, _, _, _⟩ :: _) _ _); refine wpList_store_at 23 (.tmp 14) (.tmp 73) rfl rfl rfl (z2.heap.size + 1) rfl (bxA hi) (bxA zbx) 4 rfl strX rfl rfl (bxA_one _) HT.out.2 ?_; intro w4 h4 g4; have hk : Below z2.heap.size z2 w4 := HT.out.1.grown g4 HT.out.1.size (fun j e => by injection e with e; omega); replace HB := Lib.hid (HB.out.call hk); have B13 := Lib.hid (H2.out.grown g4 (fun e => by injection e with e; omega)); have B14 := Lib.hid h4; clear hk h4 g4 HT H2; generalize z2.heap.size + 1 = g14 at B14 ⊢; generalize z2.heap.size = g13 at B13 ⊢)
            | ((with_reducible show wpList _ _ _ (⟨some 76, _, _, _, _, _⟩ :: _) _ _); refine wpList_load_at 23 76 (.tmp 4) rfl rfl rfl (w.heap.size) rfl (bxA a) 4 strX rfl HB.out.a ?_)
            )
          refine (own_any a _).mono ?_
          rintro e z3 ⟨rfl, hk⟩
          replace HB := Lib.hid (HB.out.call hk)
          replace B13 := Lib.hid (B13.out.call hk)
          replace B14 := Lib.hid (B14.out.call hk)
          clear hk
          go_wp2_with fail
          refine (rHalves_any a _ HRT.out).mono ?_
          rintro e z4 ⟨rfl, hk⟩
          rw [HP.out.e]
          replace HB := Lib.hid (HB.out.call hk)
          replace B13 := Lib.hid (B13.out.call hk)
          replace B14 := Lib.hid (B14.out.call hk)
          clear hk
          go_upto_region 11 with (first
            | ((with_reducible show wpList _ _ _ (⟨none, _, _, _, _, _⟩ :: _) _ _); refine wpList_store_at 26 (.tmp 16) (.tmp 79) rfl rfl rfl z4.heap.size rfl (bxA lo) (bxA zbx) 4 rfl strXr rfl rfl (bxA_one _) ((At.new z4 26 (bxA zbx)).alloc (.cells (bxA zbx) 26)) ?_; intro w3 h3 g3; have H2 := Lib.hid h3; have HT := Lib.hid (two_new g3); clear h3 g3)
            | ((with_reducible show wpList _ _ _ (⟨none, _, _, _, _, _⟩ :: _) _ _); refine wpList_store_at 26 (.tmp 17) (.tmp 80) rfl rfl rfl (z4.heap.size + 1) rfl (bxA hi) (bxA zbx) 4 rfl strXr rfl rfl (bxA_one _) HT.out.2 ?_; intro w6 h4 g4; have hk : Below z4.heap.size z4 w6 := HT.out.1.grown g4 HT.out.1.size (fun j e => by injection e with e; omega); replace HB := Lib.hid (HB.out.call hk); replace B13 := Lib.hid (B13.out.call hk); replace B14 := Lib.hid (B14.out.call hk); have B16 := Lib.hid (H2.out.grown g4 (fun e => by injection e with e; omega)); have B17 := Lib.hid h4; clear hk h4 g4 HT H2; generalize z4.heap.size + 1 = g17 at B17 ⊢; generalize z4.heap.size = g16 at B16 ⊢)
            )
          go_cut [103] from 82 to 104 (fun s wx => s = .bool false ∧ Hid (Below w6.heap.size w6 wx))
          case first =>
            refine wp_region_held_drew (S := Below w6.heap.size w6) (by kernel_rfl) (Below.refl _ w6).drew (fun hS => ?_)
            refine tkS 0 hS ?_
            refine tkS 1 hS ?_
            refine tkS (v := .bool false) 2 hS ?_ (hy := by intro wz hz; go_simp <;> simp)
            refine tkS 3 hS ?_
            refine tkS (v := .agg (bxA lo)) 4 hS ?_ (hy := by intro wz hz; exact exec_load_at 23 (.tmp 13) rfl (g13) rfl (bxA lo) 4 strX rfl ((B13.out).under hz (B13.out).lt))
            refine tkS (v := .agg (bxA lo)) 6 hS ?_ (hy := by intro wz hz; exact exec_load_at 26 (.tmp 16) rfl (g16) rfl (bxA lo) 4 strXr rfl ((B16.out).under hz (B16.out).lt))
            refine wpAnyH_ready (rs := [5]) (by kernel_rfl) (by simp) ?_
            refine AllReadyH.cons rfl (fun K hK => ?_) AllReadyH.nil
            go_simp
            refine (own_any lo _).mono ?_
            rintro e z5 ⟨rfl, hb2⟩
            have hb : True := trivial
            have HS5 := Lib.hid (Below.trans hS (hb2.mono (Below.size hS)))
            clear hb2
            refine hK.out _ _ (HS5.out) (fun hT => ?_)
            clear hK hb hS
            have hS := hT
            clear hT
            refine tkS (v := .bool false) 7 hS ?_ (hy := by intro wz hz; exact exec_neq_br (.tmp 87) (.tmp 88) rfl lo lo _ true rfl rfl (sameX_refl lo))
            refine tkS 8 hS ?_
            refine tkS 9 hS ?_
            refine tkS (v := .agg (bxA hi)) 10 hS ?_ (hy := by intro wz hz; exact exec_load_at 23 (.tmp 14) rfl (g14) rfl (bxA hi) 4 strX rfl ((B14.out).under hz (B14.out).lt))
            refine tkS (v := .agg (bxA hi)) 12 hS ?_ (hy := by intro wz hz; exact exec_load_at 26 (.tmp 17) rfl (g17) rfl (bxA hi) 4 strXr rfl ((B17.out).under hz (B17.out).lt))
            refine wpAnyH_ready (rs := [11]) (by kernel_rfl) (by simp) ?_
            refine AllReadyH.cons rfl (fun K hK => ?_) AllReadyH.nil
            go_simp
            refine (own_any hi _).mono ?_
            rintro e z11 ⟨rfl, hb2⟩
            have hb : True := trivial
            have HS11 := Lib.hid (Below.trans hS (hb2.mono (Below.size hS)))
            clear hb2
            refine hK.out _ _ (HS11.out) (fun hT => ?_)
            clear hK hb hS
            have hS := hT
            clear hT
            refine tkS (v := .bool false) 13 hS ?_ (hy := by intro wz hz; exact exec_neq_br (.tmp 93) (.tmp 94) rfl hi hi _ true rfl rfl (sameX_refl hi))
            refine tkS 14 hS ?_
            refine tkS 15 hS ?_
            refine tkS 16 hS ?_
            refine tkS (v := .agg (bxA a)) 17 hS ?_ (hy := by intro wz hz; exact exec_load_at 23 (.tmp 4) rfl (w.heap.size) rfl (bxA a) 4 strX rfl ((HB.out.a).under hz (HB.out.a).lt))
            refine wpAnyH_ready (rs := [18]) (by kernel_rfl) (by simp) ?_
            refine AllReadyH.cons rfl (fun K hK => ?_) AllReadyH.nil
            go_simp
            refine (xCells_any a _).mono ?_
            rintro e z18 ⟨rfl, hb2⟩
            have hb : True := trivial
            have HS18 := Lib.hid (Below.trans hS (hb2.mono (Below.size hS)))
            clear hb2
            refine hK.out _ _ (HS18.out) (fun hT => ?_)
            clear hK hb hS
            have hS := hT
            clear hT
            refine tkS (v := .bool true) 19 hS ?_ (hy := by intro wz hz; have hg := HP.out.g; go_simp <;> simp [hg])
            refine tkS (v := .bool false) 20 hS ?_ (hy := by intro wz hz; go_simp <;> simp)
            refine tkS 21 hS ?_
            refine wpAnyH_done (by kernel_rfl) ?_ _
            go_wp2_with fail
            go_meet
            exact ⟨rfl, Lib.hid hS⟩
          case rest =>
            obtain ⟨rfl, HBx⟩ := hcut
            replace HB := Lib.hid (HB.out.call HBx.out)
            replace B13 := Lib.hid (B13.out.call HBx.out)
            replace B14 := Lib.hid (B14.out.call HBx.out)
            replace B16 := Lib.hid (B16.out.call HBx.out)
            replace B17 := Lib.hid (B17.out.call HBx.out)
            clear HBx
            go_wp2_with (first
              | ((with_reducible show wpList _ _ _ (⟨some 108, _, _, _, _, _⟩ :: _) _ _); refine wpList_load_at 23 108 (.tmp 13) rfl rfl rfl g13 rfl (bxA lo) 4 strX rfl B13.out ?_)
              | ((with_reducible show wpList _ _ _ (⟨some 109, _, _, _, _, _⟩ :: _) _ _); refine wpList_load_at 23 109 (.tmp 14) rfl rfl rfl g14 rfl (bxA hi) 4 strX rfl B14.out ?_)
              )
            refine (Join_any lo hi _).mono ?_
            rintro e z21 ⟨rfl, hk⟩
            rw [HP.out.j rfl]
            replace HB := Lib.hid (HB.out.call hk)
            replace B13 := Lib.hid (B13.out.call hk)
            replace B14 := Lib.hid (B14.out.call hk)
            replace B16 := Lib.hid (B16.out.call hk)
            replace B17 := Lib.hid (B17.out.call hk)
            clear hk
            go_upto_region 16 with (first
              | ((with_reducible show wpList _ _ _ (⟨none, _, _, _, _, _⟩ :: _) _ _); refine wpList_store_new 23 (.tmp 19) (.tmp 111) rfl rfl rfl z21.heap.size z21 rfl rfl (bxA a) _ 4 rfl strX rfl rfl (bxA_one _) rfl ?_; have hk := (Below.refl z21.heap.size z21).alloc (Nat.le_refl _) (.cells (bxA a) 23); replace HB := Lib.hid (HB.out.call hk); replace B13 := Lib.hid (B13.out.call hk); replace B14 := Lib.hid (B14.out.call hk); replace B16 := Lib.hid (B16.out.call hk); replace B17 := Lib.hid (B17.out.call hk); clear hk; have B19 := Lib.hid (At.new z21 23 (bxA a)); generalize z21.alloc (.cells (bxA a) 23) = y22 at HB B13 B14 B16 B17 B19 ⊢; generalize z21.heap.size = g19 at B19 ⊢)
              )
            refine wp_region_held_drew (S := Below y22.heap.size y22) (by kernel_rfl) (Below.refl _ y22).drew (fun hS => ?_)
            refine tkS 0 hS ?_
            refine tkS 1 hS ?_
            refine tkS (v := .agg (bxA a)) 2 hS ?_ (hy := by intro wz hz; exact exec_load_at 23 (.tmp 19) rfl (g19) rfl (bxA a) 4 strX rfl ((B19.out).under hz (B19.out).lt))
            refine tkS (v := .agg (bxA a)) 3 hS ?_ (hy := by intro wz hz; exact exec_load_at 23 (.tmp 4) rfl (w.heap.size) rfl (bxA a) 4 strX rfl ((HB.out.a).under hz (HB.out.a).lt))
            refine tkS (v := .bool true) 4 hS ?_ (hy := by intro wz hz; exact exec_eql_bx (.tmp 115) (.tmp 116) rfl a a _ true rfl rfl (sameX_refl a))
            refine tkS 5 hS ?_
            refine tkS 6 hS ?_
            refine tkS (v := .agg (bxA lo)) 7 hS ?_ (hy := by intro wz hz; exact exec_load_at 23 (.tmp 13) rfl (g13) rfl (bxA lo) 4 strX rfl ((B13.out).under hz (B13.out).lt))
            refine tkS (v := .agg (bxA hi)) 9 hS ?_ (hy := by intro wz hz; exact exec_load_at 23 (.tmp 14) rfl (g14) rfl (bxA hi) 4 strX rfl ((B14.out).under hz (B14.out).lt))
            refine tkS (v := .agg (bxA a)) 12 hS ?_ (hy := by intro wz hz; exact exec_load_at 23 (.tmp 4) rfl (w.heap.size) rfl (bxA a) 4 strX rfl ((HB.out.a).under hz (HB.out.a).lt))
            refine wpAnyH_ready (rs := [8]) (by kernel_rfl) (by simp) ?_
            refine AllReadyH.cons rfl (fun K hK => ?_) AllReadyH.nil
            go_simp
            refine (xCells_any lo _).mono ?_
            rintro e z8 ⟨rfl, hb2⟩
            have hb : True := trivial
            have HS8 := Lib.hid (Below.trans hS (hb2.mono (Below.size hS)))
            clear hb2
            refine hK.out _ _ (HS8.out) (fun hT => ?_)
            clear hK hb hS
            have hS := hT
            clear hT
            refine wpAnyH_ready (rs := [10]) (by kernel_rfl) (by simp) ?_
            refine AllReadyH.cons rfl (fun K hK => ?_) AllReadyH.nil
            go_simp
            refine (xCells_any hi _).mono ?_
            rintro e z10 ⟨rfl, hb2⟩
            have hb : True := trivial
            have HS10 := Lib.hid (Below.trans hS (hb2.mono (Below.size hS)))
            clear hb2
            refine hK.out _ _ (HS10.out) (fun hT => ?_)
            clear hK hb hS
            have hS := hT
            clear hT
            refine tkS (v := .int .i64 (cellsX a)) 11 hS ?_ (hy := by intro wz hz; have hc := HP.out.c rfl; have hn := HP.out.n; go_simp; rw [IntKind.wrap_i64]; omega)
            refine wpAnyH_ready (rs := [13]) (by kernel_rfl) (by simp) ?_
            refine AllReadyH.cons rfl (fun K hK => ?_) AllReadyH.nil
            go_simp
            refine (xCells_any a _).mono ?_
            rintro e z13 ⟨rfl, hb2⟩
            have hb : True := trivial
            have HS13 := Lib.hid (Below.trans hS (hb2.mono (Below.size hS)))
            clear hb2
            refine hK.out _ _ (HS13.out) (fun hT => ?_)
            clear hK hb hS
            have hS := hT
            clear hT
            refine tkS (v := .bool true) 14 hS ?_ (hy := by intro wz hz; go_simp <;> simp)
            refine tkS 15 hS ?_
            refine tkS 16 hS ?_
            refine wpAnyH_ready (rs := [17]) (by kernel_rfl) (by simp) ?_
            refine AllReadyH.cons rfl (fun K hK => ?_) AllReadyH.nil
            go_simp
            refine (works_any _).mono ?_
            rintro e z17 ⟨rfl, hb2⟩
            have hb : True := trivial
            have HS17 := Lib.hid (Below.trans hS (hb2.mono (Below.size hS)))
            clear hb2
            refine hK.out _ _ (HS17.out) (fun hT => ?_)
            clear hK hb hS
            have hS := hT
            clear hT
            refine tkS 18 hS ?_
            refine tkS 19 hS ?_
            refine wpAnyH_done (by kernel_rfl) ?_ _
            have HE := Lib.hid (HB.out.call hS)
            clear hS
            go_wp2_with fail
            go_ret
            exact ⟨rfl, HE.out.bel⟩
theorem Boxes_law (a0_0 a0_1 a0_2 a0_3 a1_0 a1_1 a1_2 a1_3 a2 a3 : Int) (W : World) (_ : (Lit.int .i64 a0_0).wf = true) (_ : (Lit.int .i64 a0_1).wf = true) (_ : (Lit.int .i64 a0_2).wf = true) (_ : (Lit.int .i64 a0_3).wf = true) (_ : (Lit.int .i64 a1_0).wf = true) (_ : (Lit.int .i64 a1_1).wf = true) (_ : (Lit.int .i64 a1_2).wf = true) (_ : (Lit.int .i64 a1_3).wf = true) (_ : (Lit.int .i64 a2).wf = true) (_ : (Lit.int .i64 a3).wf = true) : Calls Try.prog 3 #[.agg #[.int .i64 a0_0, .int .i64 a0_1, .int .i64 a0_2, .int .i64 a0_3], .agg #[.int .i64 a1_0, .int .i64 a1_1, .int .i64 a1_2, .int .i64 a1_3], .int .i64 a2, .int .i64 a3] W (fun e z => e = .returned (.bool true) ∧ Below W.heap.size W z) := Boxes_any ⟨a0_0, a0_1, a0_2, a0_3⟩ ⟨a1_0, a1_1, a1_2, a1_3⟩ a2 a3 W
end Go.Proofs.Ytgjkbnplpioloaa
