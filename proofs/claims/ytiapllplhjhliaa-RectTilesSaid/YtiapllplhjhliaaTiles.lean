/-
  The law RectTiles: whatever the rectangle, the point and the number, it returns true.
  Conditions: coordinates are those of a uint32, the number that of an int.
-/
import Derived.Test.YtiapllplhjhliaaTInv
import Derived.Sort.CutIn
namespace Go.Proofs.Ytiapllplhjhliaa
open Go.RowKit Go.Shelf
attribute [local go_sem] Oper.semAt_some

set_option maxRecDepth 100000 in
set_option maxHeartbeats 4000000 in
theorem tiles_any (r0 r1 r2 r3 x y t : Int) (w : World) (hu : U4 r0 r1 r2 r3) (hx : 0 ≤ x ∧ x < 4294967296) (hy : 0 ≤ y ∧ y < 4294967296) :
    Calls Try.prog 5 #[.agg #[.int .u32 r0, .int .u32 r1, .int .u32 r2, .int .u32 r3], .int .u32 x, .int .u32 y, .int .i64 t] w fun e w' => e = .returned (.bool true) ∧ Below w.heap.size w w' := by
  obtain ⟨k, hk⟩ : ∃ k, tileI x y = k := ⟨_, rfl⟩
  have hr := tile_range x y hx hy
  rw [hk] at hr
  obtain ⟨hk0, hk1⟩ := hr
  have dk0 : decide (k < 0) = false := by simp; omega
  have dk1 : decide (63 < k) = false := by simp; omega
  have HHK : Hid (hasB (oA k) (oB k) (oC k) (oD k) x y = true) := by show _ = _; rw [o_has k x y hx hy, hk]; simp
  have HOT := Lib.hid (o_has t x y hx hy)
  rw [hk] at HOT
  have HK := Lib.hid hk
  clear hk
  refine (callsIn_wide (n := 3)).1 ?_
  refine callsIn_of_wp_marks Try.func5 rfl trivial ?_ rfl
  simp only [Try.ntmps5, List.size_toArray, List.length_cons, List.length_nil, Nat.reduceAdd, Nat.reduceSub, Array.replicate_succ, Array.replicate_zero, List.push_toArray, List.append_toArray, List.nil_append, List.cons_append]
  gi_wp2_with fail
  refine wcall2 ((tile_pure HK.out hx.1 hx.2 hy.1 hy.2 _).mono ?_)
  rintro e w1 ⟨rfl, rfl⟩
  gi_wp2_with fail
  have HB := Lib.hid (St.start (w := w) (r0 := r0) (r1 := r1) (r2 := r2) (r3 := r3) (k := k))
  refine region_wide (S := fun z => St w z r0 r1 r2 r3 k) (by kernel_rfl) HB.out.drew (fun hS => ?_)
  refine takeH (i := 0) (d := 18) (v := ?va0) rfl (by kernel_rfl) (by kernel_rfl) (by kernel_rfl) (fun _ _ _ h => h) rfl (by rfl) ?ya0 hS ?ra0
  case ya0 => (intro wz hz; obtain ⟨c0, c1, c2, c3, cr, fr, ck⟩ := hz.cells; go_simp <;> with_reducible rfl)
  simp only [List.setIfInBounds_toArray, List.set_cons_zero, List.set_cons_succ]
  refine takeH (i := 1) (d := 19) (v := ?va1) rfl (by kernel_rfl) (by kernel_rfl) (by kernel_rfl) (fun _ _ _ h => h) rfl (by rfl) ?ya1 hS ?ra1
  case ya1 => (intro wz hz; obtain ⟨c0, c1, c2, c3, cr, fr, ck⟩ := hz.cells; go_simp <;> with_reducible rfl)
  simp only [List.setIfInBounds_toArray, List.set_cons_zero, List.set_cons_succ]
  refine takeH (i := 2) (d := 20) (v := ?va2) rfl (by kernel_rfl) (by kernel_rfl) (by kernel_rfl) (fun _ _ _ h => h) rfl (by rfl) ?ya2 hS ?ra2
  case ya2 => (intro wz hz; obtain ⟨c0, c1, c2, c3, cr, fr, ck⟩ := hz.cells; go_simp <;> with_reducible rfl)
  simp only [List.setIfInBounds_toArray, List.set_cons_zero, List.set_cons_succ]
  refine wpAnyH_ready (rs := [3]) (by kernel_rfl) (by simp) ?_
  refine AllReadyH.cons rfl (fun K hK => ?_) AllReadyH.nil
  go_simp
  refine (refTile_is HK.out hx.1 hx.2 hy.1 hy.2 _).mono ?_
  rintro e w1 ⟨rfl, hb⟩
  refine hK.out _ _ (hS.call hb) (fun hT => ?_)
  clear hK hb hS
  have hS := hT
  clear hT
  refine takeH (i := 4) (d := 22) (v := ?va4) rfl (by kernel_rfl) (by kernel_rfl) (by kernel_rfl) (fun _ _ _ h => h) rfl (by rfl) ?ya4 hS ?ra4
  case ya4 => (intro wz hz; obtain ⟨c0, c1, c2, c3, cr, fr, ck⟩ := hz.cells; go_simp <;> with_reducible rfl)
  simp only [List.setIfInBounds_toArray, List.set_cons_zero, List.set_cons_succ]
  refine takeH (i := 5) (d := 23) (v := ?va5) rfl (by kernel_rfl) (by kernel_rfl) (by kernel_rfl) (fun _ _ _ h => h) rfl (by rfl) ?ya5 hS ?ra5
  case ya5 => (intro wz hz; obtain ⟨c0, c1, c2, c3, cr, fr, ck⟩ := hz.cells; go_simp <;> with_reducible rfl)
  simp only [List.setIfInBounds_toArray, List.set_cons_zero, List.set_cons_succ]
  refine takeH (i := 6) (d := 24) (v := ?va6) rfl (by kernel_rfl) (by kernel_rfl) (by kernel_rfl) (fun _ _ _ h => h) rfl (by rfl) ?ya6 hS ?ra6
  case ya6 => (intro wz hz; obtain ⟨c0, c1, c2, c3, cr, fr, ck⟩ := hz.cells; go_simp <;> with_reducible rfl)
  simp only [List.setIfInBounds_toArray, List.set_cons_zero, List.set_cons_succ]
  refine takeH (i := 7) (d := 25) (v := ?va7) rfl (by kernel_rfl) (by kernel_rfl) (by kernel_rfl) (fun _ _ _ h => h) rfl (by rfl) ?ya7 hS ?ra7
  case ya7 => (intro wz hz; obtain ⟨c0, c1, c2, c3, cr, fr, ck⟩ := hz.cells; go_simp <;> with_reducible rfl)
  simp only [List.setIfInBounds_toArray, List.set_cons_zero, List.set_cons_succ]
  refine takeH (i := 8) (d := 26) (v := ?va8) rfl (by kernel_rfl) (by kernel_rfl) (by kernel_rfl) (fun _ _ _ h => h) rfl (by rfl) ?ya8 hS ?ra8
  case ya8 => (intro wz hz; obtain ⟨c0, c1, c2, c3, cr, fr, ck⟩ := hz.cells; go_simp <;> with_reducible rfl)
  simp only [List.setIfInBounds_toArray, List.set_cons_zero, List.set_cons_succ]
  refine takeH (i := 9) (d := 27) (v := ?va9) rfl (by kernel_rfl) (by kernel_rfl) (by kernel_rfl) (fun _ _ _ h => h) rfl (by rfl) ?ya9 hS ?ra9
  case ya9 => (intro wz hz; obtain ⟨c0, c1, c2, c3, cr, fr, ck⟩ := hz.cells; go_simp <;> with_reducible rfl)
  simp only [List.setIfInBounds_toArray, List.set_cons_zero, List.set_cons_succ]
  refine takeH (i := 10) (d := 28) (v := ?va10) rfl (by kernel_rfl) (by kernel_rfl) (by kernel_rfl) (fun _ _ _ h => h) rfl (by rfl) ?ya10 hS ?ra10
  case ya10 => (intro wz hz; obtain ⟨c0, c1, c2, c3, cr, fr, ck⟩ := hz.cells; go_simp <;> with_reducible rfl)
  simp only [List.setIfInBounds_toArray, List.set_cons_zero, List.set_cons_succ]
  refine takeH (i := 11) (d := 29) (v := ?va11) rfl (by kernel_rfl) (by kernel_rfl) (by kernel_rfl) (fun _ _ _ h => h) rfl (by rfl) ?ya11 hS ?ra11
  case ya11 => (intro wz hz; obtain ⟨c0, c1, c2, c3, cr, fr, ck⟩ := hz.cells; go_simp <;> with_reducible rfl)
  simp only [List.setIfInBounds_toArray, List.set_cons_zero, List.set_cons_succ]
  refine takeH (i := 12) (d := 30) (v := ?va12) rfl (by kernel_rfl) (by kernel_rfl) (by kernel_rfl) (fun _ _ _ h => h) rfl (by rfl) ?ya12 hS ?ra12
  case ya12 => (intro wz hz; obtain ⟨c0, c1, c2, c3, cr, fr, ck⟩ := hz.cells; go_simp <;> with_reducible rfl)
  simp only [List.setIfInBounds_toArray, List.set_cons_zero, List.set_cons_succ]
  refine takeH (i := 13) (d := 31) (v := ?va13) rfl (by kernel_rfl) (by kernel_rfl) (by kernel_rfl) (fun _ _ _ h => h) rfl (by rfl) ?ya13 hS ?ra13
  case ya13 => (intro wz hz; obtain ⟨c0, c1, c2, c3, cr, fr, ck⟩ := hz.cells; go_simp <;> with_reducible rfl)
  simp only [List.setIfInBounds_toArray, List.set_cons_zero, List.set_cons_succ]
  refine takeH (i := 14) (d := 32) (v := ?va14) rfl (by kernel_rfl) (by kernel_rfl) (by kernel_rfl) (fun _ _ _ h => h) rfl (by rfl) ?ya14 hS ?ra14
  case ya14 => (intro wz hz; obtain ⟨c0, c1, c2, c3, cr, fr, ck⟩ := hz.cells; go_simp <;> with_reducible rfl)
  simp only [List.setIfInBounds_toArray, List.set_cons_zero, List.set_cons_succ]
  refine takeH (i := 16) (d := 34) (v := ?va16) rfl (by kernel_rfl) (by kernel_rfl) (by kernel_rfl) (fun _ _ _ h => h) rfl (by rfl) ?ya16 hS ?ra16
  case ya16 => (intro wz hz; obtain ⟨c0, c1, c2, c3, cr, fr, ck⟩ := hz.cells; go_simp <;> with_reducible rfl)
  simp only [List.setIfInBounds_toArray, List.set_cons_zero, List.set_cons_succ]
  refine takeH (i := 17) (d := 35) (v := ?va17) rfl (by kernel_rfl) (by kernel_rfl) (by kernel_rfl) (fun _ _ _ h => h) rfl (by rfl) ?ya17 hS ?ra17
  case ya17 => (intro wz hz; obtain ⟨c0, c1, c2, c3, cr, fr, ck⟩ := hz.cells; go_simp <;> with_reducible rfl)
  simp only [List.setIfInBounds_toArray, List.set_cons_zero, List.set_cons_succ]
  refine wpAnyH_ready (rs := [15]) (by kernel_rfl) (by simp) ?_
  refine AllReadyH.cons rfl (fun K hK => ?_) AllReadyH.nil
  go_simp
  refine (of_t _ _).mono ?_
  rintro e w1 ⟨rfl, hb⟩
  refine hK.out _ _ (hS.call hb) (fun hT => ?_)
  clear hK hb hS
  have hS := hT
  clear hT
  refine wpAnyH_ready (rs := [18]) (by kernel_rfl) (by simp) ?_
  refine AllReadyH.cons rfl (fun K hK => ?_) AllReadyH.nil
  go_simp
  refine (has_is HHK.out _).mono ?_
  rintro e w1 ⟨rfl, hb⟩
  refine hK.out _ _ (hS.call hb) (fun hT => ?_)
  clear hK hb hS
  have hS := hT
  clear hT
  refine takeH (i := 19) (d := 37) (v := ?va19) rfl (by kernel_rfl) (by kernel_rfl) (by kernel_rfl) (fun _ _ _ h => h) rfl (by rfl) ?ya19 hS ?ra19
  case ya19 => (intro wz hz; obtain ⟨c0, c1, c2, c3, cr, fr, ck⟩ := hz.cells; go_simp <;> with_reducible rfl)
  simp only [List.setIfInBounds_toArray, List.set_cons_zero, List.set_cons_succ]
  refine takeH (i := 20) (d := 38) (v := ?va20) rfl (by kernel_rfl) (by kernel_rfl) (by kernel_rfl) (fun _ _ _ h => h) rfl (by rfl) ?ya20 hS ?ra20
  case ya20 => (intro wz hz; obtain ⟨c0, c1, c2, c3, cr, fr, ck⟩ := hz.cells; go_simp <;> with_reducible rfl)
  simp only [List.setIfInBounds_toArray, List.set_cons_zero, List.set_cons_succ]
  refine wpAnyH_done (by kernel_rfl) ?_ _
  refine only_done ?_
  have HB2 := Lib.hid hS
  clear hS HB
  have HB := HB2
  clear HB2
  gi_upto_region 4 with fail
  gi_cut [59] from 15 (fun s59 wx => s59 = .bool false ∧ Hid (St w wx r0 r1 r2 r3 k))
  case first =>
    have HE := Lib.hid (o_empty t)
    by_cases h1 : t < 0
    · have d1 : decide (t < 0) = true := by simpa using h1
      have d3 : (t == k) = false := by simp; omega
      have d4 : decide (t = k) = false := by simp; omega
      have HE : Hid (emptyB (oA t) (oB t) (oC t) (oD t) = true) := by show _ = _; rw [HE.out, d1]; rfl
      have HHT : Hid (hasB (oA t) (oB t) (oC t) (oD t) x y = false) := HOT.out.trans d4
      refine region_wide (S := fun z => St w z r0 r1 r2 r3 k) (by kernel_rfl) HB.out.drew (fun hS => ?_)
      refine takeH (i := 0) (d := 39) (v := ?vn0) rfl (by kernel_rfl) (by kernel_rfl) (by kernel_rfl) (fun _ _ _ h => h) rfl (by rfl) ?yn0 hS ?rn0
      case yn0 => (intro wz hz; obtain ⟨c0, c1, c2, c3, cr, fr, ck⟩ := hz.cells; go_simp <;> with_reducible rfl)
      simp only [List.setIfInBounds_toArray, List.set_cons_zero, List.set_cons_succ]
      refine takeH (i := 1) (d := 40) (v := ?vn1) rfl (by kernel_rfl) (by kernel_rfl) (by kernel_rfl) (fun _ _ _ h => h) rfl (by rfl) ?yn1 hS ?rn1
      case yn1 => (intro wz hz; obtain ⟨c0, c1, c2, c3, cr, fr, ck⟩ := hz.cells; go_simp <;> with_reducible rfl)
      simp only [List.setIfInBounds_toArray, List.set_cons_zero, List.set_cons_succ]
      refine takeH (i := 2) (d := 41) (v := ?vn2) rfl (by kernel_rfl) (by kernel_rfl) (by kernel_rfl) (fun _ _ _ h => h) rfl (by rfl) ?yn2 hS ?rn2
      case yn2 => (intro wz hz; obtain ⟨c0, c1, c2, c3, cr, fr, ck⟩ := hz.cells; go_simp <;> with_reducible rfl)
      simp only [List.setIfInBounds_toArray, List.set_cons_zero, List.set_cons_succ]
      refine skipH (i := 3) (d := 42) rfl (by kernel_rfl) (by kernel_rfl) (by kernel_rfl) (fun _ _ _ h => h) rfl (by rfl) hS ?_
      simp only [List.setIfInBounds_toArray, List.set_cons_zero, List.set_cons_succ]
      refine skipH (i := 4) (d := 43) rfl (by kernel_rfl) (by kernel_rfl) (by kernel_rfl) (fun _ _ _ h => h) rfl (by rfl) hS ?_
      simp only [List.setIfInBounds_toArray, List.set_cons_zero, List.set_cons_succ]
      refine takeH (i := 5) (d := 44) (v := ?vn5) rfl (by kernel_rfl) (by kernel_rfl) (by kernel_rfl) (fun _ _ _ h => h) rfl (by rfl) ?yn5 hS ?rn5
      case yn5 => (intro wz hz; obtain ⟨c0, c1, c2, c3, cr, fr, ck⟩ := hz.cells; go_simp <;> with_reducible rfl)
      simp only [List.setIfInBounds_toArray, List.set_cons_zero, List.set_cons_succ]
      refine takeH (i := 6) (d := 45) (v := ?vn6) rfl (by kernel_rfl) (by kernel_rfl) (by kernel_rfl) (fun _ _ _ h => h) rfl (by rfl) ?yn6 hS ?rn6
      case yn6 => (intro wz hz; obtain ⟨c0, c1, c2, c3, cr, fr, ck⟩ := hz.cells; go_simp <;> with_reducible rfl)
      simp only [List.setIfInBounds_toArray, List.set_cons_zero, List.set_cons_succ]
      refine wpAnyH_ready (rs := [7]) (by kernel_rfl) (by simp) ?_
      refine AllReadyH.cons rfl (fun K hK => ?_) AllReadyH.nil
      go_simp
      refine (of_t _ _).mono ?_
      rintro e w1 ⟨rfl, hb⟩
      refine hK.out _ _ (hS.call hb) (fun hT => ?_)
      clear hK hb hS
      have hS := hT
      clear hT
      refine wpAnyH_ready (rs := [8]) (by kernel_rfl) (by simp) ?_
      refine AllReadyH.cons rfl (fun K hK => ?_) AllReadyH.nil
      go_simp
      refine (empty_is HE.out _).mono ?_
      rintro e w1 ⟨rfl, hb⟩
      refine hK.out _ _ (hS.call hb) (fun hT => ?_)
      clear hK hb hS
      have hS := hT
      clear hT
      refine takeH (i := 9) (d := 48) (v := ?vn9) rfl (by kernel_rfl) (by kernel_rfl) (by kernel_rfl) (fun _ _ _ h => h) rfl (by rfl) ?yn9 hS ?rn9
      case yn9 => (intro wz hz; obtain ⟨c0, c1, c2, c3, cr, fr, ck⟩ := hz.cells; go_simp <;> with_reducible rfl)
      simp only [List.setIfInBounds_toArray, List.set_cons_zero, List.set_cons_succ]
      refine takeH (i := 10) (d := 49) (v := ?vn10) rfl (by kernel_rfl) (by kernel_rfl) (by kernel_rfl) (fun _ _ _ h => h) rfl (by rfl) ?yn10 hS ?rn10
      case yn10 => (intro wz hz; obtain ⟨c0, c1, c2, c3, cr, fr, ck⟩ := hz.cells; go_simp <;> with_reducible rfl)
      simp only [List.setIfInBounds_toArray, List.set_cons_zero, List.set_cons_succ]
      refine takeH (i := 11) (d := 50) (v := ?vn11) rfl (by kernel_rfl) (by kernel_rfl) (by kernel_rfl) (fun _ _ _ h => h) rfl (by rfl) ?yn11 hS ?rn11
      case yn11 => (intro wz hz; obtain ⟨c0, c1, c2, c3, cr, fr, ck⟩ := hz.cells; go_simp <;> with_reducible rfl)
      simp only [List.setIfInBounds_toArray, List.set_cons_zero, List.set_cons_succ]
      refine takeH (i := 13) (d := 52) (v := ?vn13) rfl (by kernel_rfl) (by kernel_rfl) (by kernel_rfl) (fun _ _ _ h => h) rfl (by rfl) ?yn13 hS ?rn13
      case yn13 => (intro wz hz; obtain ⟨c0, c1, c2, c3, cr, fr, ck⟩ := hz.cells; go_simp <;> with_reducible rfl)
      simp only [List.setIfInBounds_toArray, List.set_cons_zero, List.set_cons_succ]
      refine takeH (i := 14) (d := 53) (v := ?vn14) rfl (by kernel_rfl) (by kernel_rfl) (by kernel_rfl) (fun _ _ _ h => h) rfl (by rfl) ?yn14 hS ?rn14
      case yn14 => (intro wz hz; obtain ⟨c0, c1, c2, c3, cr, fr, ck⟩ := hz.cells; go_simp <;> with_reducible rfl)
      simp only [List.setIfInBounds_toArray, List.set_cons_zero, List.set_cons_succ]
      refine takeH (i := 16) (d := 55) (v := ?vn16) rfl (by kernel_rfl) (by kernel_rfl) (by kernel_rfl) (fun _ _ _ h => h) rfl (by rfl) ?yn16 hS ?rn16
      case yn16 => (intro wz hz; obtain ⟨c0, c1, c2, c3, cr, fr, ck⟩ := hz.cells; go_simp <;> with_reducible rfl)
      simp only [List.setIfInBounds_toArray, List.set_cons_zero, List.set_cons_succ]
      refine takeH (i := 17) (d := 56) (v := ?vn17) rfl (by kernel_rfl) (by kernel_rfl) (by kernel_rfl) (fun _ _ _ h => h) rfl (by rfl) ?yn17 hS ?rn17
      case yn17 => (intro wz hz; obtain ⟨c0, c1, c2, c3, cr, fr, ck⟩ := hz.cells; go_simp <;> with_reducible rfl)
      simp only [List.setIfInBounds_toArray, List.set_cons_zero, List.set_cons_succ]
      refine takeH (i := 18) (d := 57) (v := ?vn18) rfl (by kernel_rfl) (by kernel_rfl) (by kernel_rfl) (fun _ _ _ h => h) rfl (by rfl) ?yn18 hS ?rn18
      case yn18 => (intro wz hz; obtain ⟨c0, c1, c2, c3, cr, fr, ck⟩ := hz.cells; go_simp <;> with_reducible rfl)
      simp only [List.setIfInBounds_toArray, List.set_cons_zero, List.set_cons_succ]
      refine wpAnyH_ready (rs := [12]) (by kernel_rfl) (by simp) ?_
      refine AllReadyH.cons rfl (fun K hK => ?_) AllReadyH.nil
      go_simp
      refine (of_t _ _).mono ?_
      rintro e w1 ⟨rfl, hb⟩
      refine hK.out _ _ (hS.call hb) (fun hT => ?_)
      clear hK hb hS
      have hS := hT
      clear hT
      refine wpAnyH_ready (rs := [15]) (by kernel_rfl) (by simp) ?_
      refine AllReadyH.cons rfl (fun K hK => ?_) AllReadyH.nil
      go_simp
      refine (has_is HHT.out _).mono ?_
      rintro e w1 ⟨rfl, hb⟩
      refine hK.out _ _ (hS.call hb) (fun hT => ?_)
      clear hK hb hS
      have hS := hT
      clear hT
      refine takeH (i := 19) (d := 58) (v := ?vn19) rfl (by kernel_rfl) (by kernel_rfl) (by kernel_rfl) (fun _ _ _ h => h) rfl (by rfl) ?yn19 hS ?rn19
      case yn19 => (intro wz hz; obtain ⟨c0, c1, c2, c3, cr, fr, ck⟩ := hz.cells; go_simp <;> with_reducible rfl)
      simp only [List.setIfInBounds_toArray, List.set_cons_zero, List.set_cons_succ]
      refine takeH (i := 20) (d := 59) (v := ?vn20) rfl (by kernel_rfl) (by kernel_rfl) (by kernel_rfl) (fun _ _ _ h => h) rfl (by rfl) ?yn20 hS ?rn20
      case yn20 => (intro wz hz; obtain ⟨c0, c1, c2, c3, cr, fr, ck⟩ := hz.cells; go_simp <;> with_reducible rfl)
      simp only [List.setIfInBounds_toArray, List.set_cons_zero, List.set_cons_succ]
      refine wpAnyH_done (by kernel_rfl) ?_ _
      refine only_done ?_
      have HS := Lib.hid hS
      clear hS
      gi_wp2_with fail
      gi_meet
      exact ⟨rfl, HS⟩
    · have d1 : decide (t < 0) = false := by simpa using h1
      by_cases h2 : 63 < t
      · have d2 : decide (63 < t) = true := by simpa using h2
        have d3 : (t == k) = false := by simp; omega
        have d4 : decide (t = k) = false := by simp; omega
        have HE : Hid (emptyB (oA t) (oB t) (oC t) (oD t) = true) := by show _ = _; rw [HE.out, d1, d2]; rfl
        have HHT : Hid (hasB (oA t) (oB t) (oC t) (oD t) x y = false) := HOT.out.trans d4
        refine region_wide (S := fun z => St w z r0 r1 r2 r3 k) (by kernel_rfl) HB.out.drew (fun hS => ?_)
        refine takeH (i := 0) (d := 39) (v := ?vp0) rfl (by kernel_rfl) (by kernel_rfl) (by kernel_rfl) (fun _ _ _ h => h) rfl (by rfl) ?yp0 hS ?rp0
        case yp0 => (intro wz hz; obtain ⟨c0, c1, c2, c3, cr, fr, ck⟩ := hz.cells; go_simp <;> with_reducible rfl)
        simp only [List.setIfInBounds_toArray, List.set_cons_zero, List.set_cons_succ]
        refine takeH (i := 1) (d := 40) (v := ?vp1) rfl (by kernel_rfl) (by kernel_rfl) (by kernel_rfl) (fun _ _ _ h => h) rfl (by rfl) ?yp1 hS ?rp1
        case yp1 => (intro wz hz; obtain ⟨c0, c1, c2, c3, cr, fr, ck⟩ := hz.cells; go_simp <;> with_reducible rfl)
        simp only [List.setIfInBounds_toArray, List.set_cons_zero, List.set_cons_succ]
        refine takeH (i := 2) (d := 41) (v := ?vp2) rfl (by kernel_rfl) (by kernel_rfl) (by kernel_rfl) (fun _ _ _ h => h) rfl (by rfl) ?yp2 hS ?rp2
        case yp2 => (intro wz hz; obtain ⟨c0, c1, c2, c3, cr, fr, ck⟩ := hz.cells; go_simp <;> with_reducible rfl)
        simp only [List.setIfInBounds_toArray, List.set_cons_zero, List.set_cons_succ]
        refine takeH (i := 3) (d := 42) (v := ?vp3) rfl (by kernel_rfl) (by kernel_rfl) (by kernel_rfl) (fun _ _ _ h => h) rfl (by rfl) ?yp3 hS ?rp3
        case yp3 => (intro wz hz; obtain ⟨c0, c1, c2, c3, cr, fr, ck⟩ := hz.cells; go_simp <;> with_reducible rfl)
        simp only [List.setIfInBounds_toArray, List.set_cons_zero, List.set_cons_succ]
        refine takeH (i := 4) (d := 43) (v := ?vp4) rfl (by kernel_rfl) (by kernel_rfl) (by kernel_rfl) (fun _ _ _ h => h) rfl (by rfl) ?yp4 hS ?rp4
        case yp4 => (intro wz hz; obtain ⟨c0, c1, c2, c3, cr, fr, ck⟩ := hz.cells; go_simp <;> with_reducible rfl)
        simp only [List.setIfInBounds_toArray, List.set_cons_zero, List.set_cons_succ]
        refine takeH (i := 5) (d := 44) (v := ?vp5) rfl (by kernel_rfl) (by kernel_rfl) (by kernel_rfl) (fun _ _ _ h => h) rfl (by rfl) ?yp5 hS ?rp5
        case yp5 => (intro wz hz; obtain ⟨c0, c1, c2, c3, cr, fr, ck⟩ := hz.cells; go_simp <;> with_reducible rfl)
        simp only [List.setIfInBounds_toArray, List.set_cons_zero, List.set_cons_succ]
        refine takeH (i := 6) (d := 45) (v := ?vp6) rfl (by kernel_rfl) (by kernel_rfl) (by kernel_rfl) (fun _ _ _ h => h) rfl (by rfl) ?yp6 hS ?rp6
        case yp6 => (intro wz hz; obtain ⟨c0, c1, c2, c3, cr, fr, ck⟩ := hz.cells; go_simp <;> with_reducible rfl)
        simp only [List.setIfInBounds_toArray, List.set_cons_zero, List.set_cons_succ]
        refine wpAnyH_ready (rs := [7]) (by kernel_rfl) (by simp) ?_
        refine AllReadyH.cons rfl (fun K hK => ?_) AllReadyH.nil
        go_simp
        refine (of_t _ _).mono ?_
        rintro e w1 ⟨rfl, hb⟩
        refine hK.out _ _ (hS.call hb) (fun hT => ?_)
        clear hK hb hS
        have hS := hT
        clear hT
        refine wpAnyH_ready (rs := [8]) (by kernel_rfl) (by simp) ?_
        refine AllReadyH.cons rfl (fun K hK => ?_) AllReadyH.nil
        go_simp
        refine (empty_is HE.out _).mono ?_
        rintro e w1 ⟨rfl, hb⟩
        refine hK.out _ _ (hS.call hb) (fun hT => ?_)
        clear hK hb hS
        have hS := hT
        clear hT
        refine takeH (i := 9) (d := 48) (v := ?vp9) rfl (by kernel_rfl) (by kernel_rfl) (by kernel_rfl) (fun _ _ _ h => h) rfl (by rfl) ?yp9 hS ?rp9
        case yp9 => (intro wz hz; obtain ⟨c0, c1, c2, c3, cr, fr, ck⟩ := hz.cells; go_simp <;> with_reducible rfl)
        simp only [List.setIfInBounds_toArray, List.set_cons_zero, List.set_cons_succ]
        refine takeH (i := 10) (d := 49) (v := ?vp10) rfl (by kernel_rfl) (by kernel_rfl) (by kernel_rfl) (fun _ _ _ h => h) rfl (by rfl) ?yp10 hS ?rp10
        case yp10 => (intro wz hz; obtain ⟨c0, c1, c2, c3, cr, fr, ck⟩ := hz.cells; go_simp <;> with_reducible rfl)
        simp only [List.setIfInBounds_toArray, List.set_cons_zero, List.set_cons_succ]
        refine takeH (i := 11) (d := 50) (v := ?vp11) rfl (by kernel_rfl) (by kernel_rfl) (by kernel_rfl) (fun _ _ _ h => h) rfl (by rfl) ?yp11 hS ?rp11
        case yp11 => (intro wz hz; obtain ⟨c0, c1, c2, c3, cr, fr, ck⟩ := hz.cells; go_simp <;> with_reducible rfl)
        simp only [List.setIfInBounds_toArray, List.set_cons_zero, List.set_cons_succ]
        refine takeH (i := 13) (d := 52) (v := ?vp13) rfl (by kernel_rfl) (by kernel_rfl) (by kernel_rfl) (fun _ _ _ h => h) rfl (by rfl) ?yp13 hS ?rp13
        case yp13 => (intro wz hz; obtain ⟨c0, c1, c2, c3, cr, fr, ck⟩ := hz.cells; go_simp <;> with_reducible rfl)
        simp only [List.setIfInBounds_toArray, List.set_cons_zero, List.set_cons_succ]
        refine takeH (i := 14) (d := 53) (v := ?vp14) rfl (by kernel_rfl) (by kernel_rfl) (by kernel_rfl) (fun _ _ _ h => h) rfl (by rfl) ?yp14 hS ?rp14
        case yp14 => (intro wz hz; obtain ⟨c0, c1, c2, c3, cr, fr, ck⟩ := hz.cells; go_simp <;> with_reducible rfl)
        simp only [List.setIfInBounds_toArray, List.set_cons_zero, List.set_cons_succ]
        refine takeH (i := 16) (d := 55) (v := ?vp16) rfl (by kernel_rfl) (by kernel_rfl) (by kernel_rfl) (fun _ _ _ h => h) rfl (by rfl) ?yp16 hS ?rp16
        case yp16 => (intro wz hz; obtain ⟨c0, c1, c2, c3, cr, fr, ck⟩ := hz.cells; go_simp <;> with_reducible rfl)
        simp only [List.setIfInBounds_toArray, List.set_cons_zero, List.set_cons_succ]
        refine takeH (i := 17) (d := 56) (v := ?vp17) rfl (by kernel_rfl) (by kernel_rfl) (by kernel_rfl) (fun _ _ _ h => h) rfl (by rfl) ?yp17 hS ?rp17
        case yp17 => (intro wz hz; obtain ⟨c0, c1, c2, c3, cr, fr, ck⟩ := hz.cells; go_simp <;> with_reducible rfl)
        simp only [List.setIfInBounds_toArray, List.set_cons_zero, List.set_cons_succ]
        refine takeH (i := 18) (d := 57) (v := ?vp18) rfl (by kernel_rfl) (by kernel_rfl) (by kernel_rfl) (fun _ _ _ h => h) rfl (by rfl) ?yp18 hS ?rp18
        case yp18 => (intro wz hz; obtain ⟨c0, c1, c2, c3, cr, fr, ck⟩ := hz.cells; go_simp <;> with_reducible rfl)
        simp only [List.setIfInBounds_toArray, List.set_cons_zero, List.set_cons_succ]
        refine wpAnyH_ready (rs := [12]) (by kernel_rfl) (by simp) ?_
        refine AllReadyH.cons rfl (fun K hK => ?_) AllReadyH.nil
        go_simp
        refine (of_t _ _).mono ?_
        rintro e w1 ⟨rfl, hb⟩
        refine hK.out _ _ (hS.call hb) (fun hT => ?_)
        clear hK hb hS
        have hS := hT
        clear hT
        refine wpAnyH_ready (rs := [15]) (by kernel_rfl) (by simp) ?_
        refine AllReadyH.cons rfl (fun K hK => ?_) AllReadyH.nil
        go_simp
        refine (has_is HHT.out _).mono ?_
        rintro e w1 ⟨rfl, hb⟩
        refine hK.out _ _ (hS.call hb) (fun hT => ?_)
        clear hK hb hS
        have hS := hT
        clear hT
        refine takeH (i := 19) (d := 58) (v := ?vp19) rfl (by kernel_rfl) (by kernel_rfl) (by kernel_rfl) (fun _ _ _ h => h) rfl (by rfl) ?yp19 hS ?rp19
        case yp19 => (intro wz hz; obtain ⟨c0, c1, c2, c3, cr, fr, ck⟩ := hz.cells; go_simp <;> with_reducible rfl)
        simp only [List.setIfInBounds_toArray, List.set_cons_zero, List.set_cons_succ]
        refine takeH (i := 20) (d := 59) (v := ?vp20) rfl (by kernel_rfl) (by kernel_rfl) (by kernel_rfl) (fun _ _ _ h => h) rfl (by rfl) ?yp20 hS ?rp20
        case yp20 => (intro wz hz; obtain ⟨c0, c1, c2, c3, cr, fr, ck⟩ := hz.cells; go_simp <;> with_reducible rfl)
        simp only [List.setIfInBounds_toArray, List.set_cons_zero, List.set_cons_succ]
        refine wpAnyH_done (by kernel_rfl) ?_ _
        refine only_done ?_
        have HS := Lib.hid hS
        clear hS
        gi_wp2_with fail
        gi_meet
        exact ⟨rfl, HS⟩
      · have d2 : decide (63 < t) = false := by simpa using h2
        have HE : Hid (emptyB (oA t) (oB t) (oC t) (oD t) = false) := by show _ = _; rw [HE.out, d1, d2]; rfl
        by_cases h3 : t = k
        · subst h3
          have HHT := HHK
          refine region_wide (S := fun z => St w z r0 r1 r2 r3 t) (by kernel_rfl) HB.out.drew (fun hS => ?_)
          refine takeH (i := 0) (d := 39) (v := ?vq0) rfl (by kernel_rfl) (by kernel_rfl) (by kernel_rfl) (fun _ _ _ h => h) rfl (by rfl) ?yq0 hS ?rq0
          case yq0 => (intro wz hz; obtain ⟨c0, c1, c2, c3, cr, fr, ck⟩ := hz.cells; go_simp <;> with_reducible rfl)
          simp only [List.setIfInBounds_toArray, List.set_cons_zero, List.set_cons_succ]
          refine takeH (i := 1) (d := 40) (v := ?vq1) rfl (by kernel_rfl) (by kernel_rfl) (by kernel_rfl) (fun _ _ _ h => h) rfl (by rfl) ?yq1 hS ?rq1
          case yq1 => (intro wz hz; obtain ⟨c0, c1, c2, c3, cr, fr, ck⟩ := hz.cells; go_simp <;> with_reducible rfl)
          simp only [List.setIfInBounds_toArray, List.set_cons_zero, List.set_cons_succ]
          refine takeH (i := 2) (d := 41) (v := ?vq2) rfl (by kernel_rfl) (by kernel_rfl) (by kernel_rfl) (fun _ _ _ h => h) rfl (by rfl) ?yq2 hS ?rq2
          case yq2 => (intro wz hz; obtain ⟨c0, c1, c2, c3, cr, fr, ck⟩ := hz.cells; go_simp <;> with_reducible rfl)
          simp only [List.setIfInBounds_toArray, List.set_cons_zero, List.set_cons_succ]
          refine takeH (i := 3) (d := 42) (v := ?vq3) rfl (by kernel_rfl) (by kernel_rfl) (by kernel_rfl) (fun _ _ _ h => h) rfl (by rfl) ?yq3 hS ?rq3
          case yq3 => (intro wz hz; obtain ⟨c0, c1, c2, c3, cr, fr, ck⟩ := hz.cells; go_simp <;> with_reducible rfl)
          simp only [List.setIfInBounds_toArray, List.set_cons_zero, List.set_cons_succ]
          refine takeH (i := 4) (d := 43) (v := ?vq4) rfl (by kernel_rfl) (by kernel_rfl) (by kernel_rfl) (fun _ _ _ h => h) rfl (by rfl) ?yq4 hS ?rq4
          case yq4 => (intro wz hz; obtain ⟨c0, c1, c2, c3, cr, fr, ck⟩ := hz.cells; go_simp <;> with_reducible rfl)
          simp only [List.setIfInBounds_toArray, List.set_cons_zero, List.set_cons_succ]
          refine takeH (i := 5) (d := 44) (v := ?vq5) rfl (by kernel_rfl) (by kernel_rfl) (by kernel_rfl) (fun _ _ _ h => h) rfl (by rfl) ?yq5 hS ?rq5
          case yq5 => (intro wz hz; obtain ⟨c0, c1, c2, c3, cr, fr, ck⟩ := hz.cells; go_simp <;> with_reducible rfl)
          simp only [List.setIfInBounds_toArray, List.set_cons_zero, List.set_cons_succ]
          refine takeH (i := 6) (d := 45) (v := ?vq6) rfl (by kernel_rfl) (by kernel_rfl) (by kernel_rfl) (fun _ _ _ h => h) rfl (by rfl) ?yq6 hS ?rq6
          case yq6 => (intro wz hz; obtain ⟨c0, c1, c2, c3, cr, fr, ck⟩ := hz.cells; go_simp <;> with_reducible rfl)
          simp only [List.setIfInBounds_toArray, List.set_cons_zero, List.set_cons_succ]
          refine wpAnyH_ready (rs := [7]) (by kernel_rfl) (by simp) ?_
          refine AllReadyH.cons rfl (fun K hK => ?_) AllReadyH.nil
          go_simp
          refine (of_t _ _).mono ?_
          rintro e w1 ⟨rfl, hb⟩
          refine hK.out _ _ (hS.call hb) (fun hT => ?_)
          clear hK hb hS
          have hS := hT
          clear hT
          refine wpAnyH_ready (rs := [8]) (by kernel_rfl) (by simp) ?_
          refine AllReadyH.cons rfl (fun K hK => ?_) AllReadyH.nil
          go_simp
          refine (empty_is HE.out _).mono ?_
          rintro e w1 ⟨rfl, hb⟩
          refine hK.out _ _ (hS.call hb) (fun hT => ?_)
          clear hK hb hS
          have hS := hT
          clear hT
          refine takeH (i := 9) (d := 48) (v := ?vq9) rfl (by kernel_rfl) (by kernel_rfl) (by kernel_rfl) (fun _ _ _ h => h) rfl (by rfl) ?yq9 hS ?rq9
          case yq9 => (intro wz hz; obtain ⟨c0, c1, c2, c3, cr, fr, ck⟩ := hz.cells; go_simp <;> with_reducible rfl)
          simp only [List.setIfInBounds_toArray, List.set_cons_zero, List.set_cons_succ]
          refine takeH (i := 10) (d := 49) (v := ?vq10) rfl (by kernel_rfl) (by kernel_rfl) (by kernel_rfl) (fun _ _ _ h => h) rfl (by rfl) ?yq10 hS ?rq10
          case yq10 => (intro wz hz; obtain ⟨c0, c1, c2, c3, cr, fr, ck⟩ := hz.cells; go_simp <;> with_reducible rfl)
          simp only [List.setIfInBounds_toArray, List.set_cons_zero, List.set_cons_succ]
          refine takeH (i := 11) (d := 50) (v := ?vq11) rfl (by kernel_rfl) (by kernel_rfl) (by kernel_rfl) (fun _ _ _ h => h) rfl (by rfl) ?yq11 hS ?rq11
          case yq11 => (intro wz hz; obtain ⟨c0, c1, c2, c3, cr, fr, ck⟩ := hz.cells; go_simp <;> with_reducible rfl)
          simp only [List.setIfInBounds_toArray, List.set_cons_zero, List.set_cons_succ]
          refine takeH (i := 13) (d := 52) (v := ?vq13) rfl (by kernel_rfl) (by kernel_rfl) (by kernel_rfl) (fun _ _ _ h => h) rfl (by rfl) ?yq13 hS ?rq13
          case yq13 => (intro wz hz; obtain ⟨c0, c1, c2, c3, cr, fr, ck⟩ := hz.cells; go_simp <;> with_reducible rfl)
          simp only [List.setIfInBounds_toArray, List.set_cons_zero, List.set_cons_succ]
          refine takeH (i := 14) (d := 53) (v := ?vq14) rfl (by kernel_rfl) (by kernel_rfl) (by kernel_rfl) (fun _ _ _ h => h) rfl (by rfl) ?yq14 hS ?rq14
          case yq14 => (intro wz hz; obtain ⟨c0, c1, c2, c3, cr, fr, ck⟩ := hz.cells; go_simp <;> with_reducible rfl)
          simp only [List.setIfInBounds_toArray, List.set_cons_zero, List.set_cons_succ]
          refine takeH (i := 16) (d := 55) (v := ?vq16) rfl (by kernel_rfl) (by kernel_rfl) (by kernel_rfl) (fun _ _ _ h => h) rfl (by rfl) ?yq16 hS ?rq16
          case yq16 => (intro wz hz; obtain ⟨c0, c1, c2, c3, cr, fr, ck⟩ := hz.cells; go_simp <;> with_reducible rfl)
          simp only [List.setIfInBounds_toArray, List.set_cons_zero, List.set_cons_succ]
          refine takeH (i := 17) (d := 56) (v := ?vq17) rfl (by kernel_rfl) (by kernel_rfl) (by kernel_rfl) (fun _ _ _ h => h) rfl (by rfl) ?yq17 hS ?rq17
          case yq17 => (intro wz hz; obtain ⟨c0, c1, c2, c3, cr, fr, ck⟩ := hz.cells; go_simp <;> with_reducible rfl)
          simp only [List.setIfInBounds_toArray, List.set_cons_zero, List.set_cons_succ]
          refine takeH (i := 18) (d := 57) (v := ?vq18) rfl (by kernel_rfl) (by kernel_rfl) (by kernel_rfl) (fun _ _ _ h => h) rfl (by rfl) ?yq18 hS ?rq18
          case yq18 => (intro wz hz; obtain ⟨c0, c1, c2, c3, cr, fr, ck⟩ := hz.cells; go_simp <;> with_reducible rfl)
          simp only [List.setIfInBounds_toArray, List.set_cons_zero, List.set_cons_succ]
          refine wpAnyH_ready (rs := [12]) (by kernel_rfl) (by simp) ?_
          refine AllReadyH.cons rfl (fun K hK => ?_) AllReadyH.nil
          go_simp
          refine (of_t _ _).mono ?_
          rintro e w1 ⟨rfl, hb⟩
          refine hK.out _ _ (hS.call hb) (fun hT => ?_)
          clear hK hb hS
          have hS := hT
          clear hT
          refine wpAnyH_ready (rs := [15]) (by kernel_rfl) (by simp) ?_
          refine AllReadyH.cons rfl (fun K hK => ?_) AllReadyH.nil
          go_simp
          refine (has_is HHT.out _).mono ?_
          rintro e w1 ⟨rfl, hb⟩
          refine hK.out _ _ (hS.call hb) (fun hT => ?_)
          clear hK hb hS
          have hS := hT
          clear hT
          refine takeH (i := 19) (d := 58) (v := ?vq19) rfl (by kernel_rfl) (by kernel_rfl) (by kernel_rfl) (fun _ _ _ h => h) rfl (by rfl) ?yq19 hS ?rq19
          case yq19 => (intro wz hz; obtain ⟨c0, c1, c2, c3, cr, fr, ck⟩ := hz.cells; go_simp <;> with_reducible rfl)
          simp only [List.setIfInBounds_toArray, List.set_cons_zero, List.set_cons_succ]
          refine takeH (i := 20) (d := 59) (v := ?vq20) rfl (by kernel_rfl) (by kernel_rfl) (by kernel_rfl) (fun _ _ _ h => h) rfl (by rfl) ?yq20 hS ?rq20
          case yq20 => (intro wz hz; obtain ⟨c0, c1, c2, c3, cr, fr, ck⟩ := hz.cells; go_simp <;> with_reducible rfl)
          simp only [List.setIfInBounds_toArray, List.set_cons_zero, List.set_cons_succ]
          refine wpAnyH_done (by kernel_rfl) ?_ _
          refine only_done ?_
          have HS := Lib.hid hS
          clear hS
          gi_wp2_with fail
          gi_meet
          exact ⟨rfl, HS⟩
        · have d3 : (t == k) = false := by simpa using h3
          have d4 : decide (t = k) = false := by simpa using h3
          have HHT : Hid (hasB (oA t) (oB t) (oC t) (oD t) x y = false) := HOT.out.trans d4
          refine region_wide (S := fun z => St w z r0 r1 r2 r3 k) (by kernel_rfl) HB.out.drew (fun hS => ?_)
          refine takeH (i := 0) (d := 39) (v := ?vr0) rfl (by kernel_rfl) (by kernel_rfl) (by kernel_rfl) (fun _ _ _ h => h) rfl (by rfl) ?yr0 hS ?rr0
          case yr0 => (intro wz hz; obtain ⟨c0, c1, c2, c3, cr, fr, ck⟩ := hz.cells; go_simp <;> with_reducible rfl)
          simp only [List.setIfInBounds_toArray, List.set_cons_zero, List.set_cons_succ]
          refine takeH (i := 1) (d := 40) (v := ?vr1) rfl (by kernel_rfl) (by kernel_rfl) (by kernel_rfl) (fun _ _ _ h => h) rfl (by rfl) ?yr1 hS ?rr1
          case yr1 => (intro wz hz; obtain ⟨c0, c1, c2, c3, cr, fr, ck⟩ := hz.cells; go_simp <;> with_reducible rfl)
          simp only [List.setIfInBounds_toArray, List.set_cons_zero, List.set_cons_succ]
          refine takeH (i := 2) (d := 41) (v := ?vr2) rfl (by kernel_rfl) (by kernel_rfl) (by kernel_rfl) (fun _ _ _ h => h) rfl (by rfl) ?yr2 hS ?rr2
          case yr2 => (intro wz hz; obtain ⟨c0, c1, c2, c3, cr, fr, ck⟩ := hz.cells; go_simp <;> with_reducible rfl)
          simp only [List.setIfInBounds_toArray, List.set_cons_zero, List.set_cons_succ]
          refine takeH (i := 3) (d := 42) (v := ?vr3) rfl (by kernel_rfl) (by kernel_rfl) (by kernel_rfl) (fun _ _ _ h => h) rfl (by rfl) ?yr3 hS ?rr3
          case yr3 => (intro wz hz; obtain ⟨c0, c1, c2, c3, cr, fr, ck⟩ := hz.cells; go_simp <;> with_reducible rfl)
          simp only [List.setIfInBounds_toArray, List.set_cons_zero, List.set_cons_succ]
          refine takeH (i := 4) (d := 43) (v := ?vr4) rfl (by kernel_rfl) (by kernel_rfl) (by kernel_rfl) (fun _ _ _ h => h) rfl (by rfl) ?yr4 hS ?rr4
          case yr4 => (intro wz hz; obtain ⟨c0, c1, c2, c3, cr, fr, ck⟩ := hz.cells; go_simp <;> with_reducible rfl)
          simp only [List.setIfInBounds_toArray, List.set_cons_zero, List.set_cons_succ]
          refine takeH (i := 5) (d := 44) (v := ?vr5) rfl (by kernel_rfl) (by kernel_rfl) (by kernel_rfl) (fun _ _ _ h => h) rfl (by rfl) ?yr5 hS ?rr5
          case yr5 => (intro wz hz; obtain ⟨c0, c1, c2, c3, cr, fr, ck⟩ := hz.cells; go_simp <;> with_reducible rfl)
          simp only [List.setIfInBounds_toArray, List.set_cons_zero, List.set_cons_succ]
          refine takeH (i := 6) (d := 45) (v := ?vr6) rfl (by kernel_rfl) (by kernel_rfl) (by kernel_rfl) (fun _ _ _ h => h) rfl (by rfl) ?yr6 hS ?rr6
          case yr6 => (intro wz hz; obtain ⟨c0, c1, c2, c3, cr, fr, ck⟩ := hz.cells; go_simp <;> with_reducible rfl)
          simp only [List.setIfInBounds_toArray, List.set_cons_zero, List.set_cons_succ]
          refine wpAnyH_ready (rs := [7]) (by kernel_rfl) (by simp) ?_
          refine AllReadyH.cons rfl (fun K hK => ?_) AllReadyH.nil
          go_simp
          refine (of_t _ _).mono ?_
          rintro e w1 ⟨rfl, hb⟩
          refine hK.out _ _ (hS.call hb) (fun hT => ?_)
          clear hK hb hS
          have hS := hT
          clear hT
          refine wpAnyH_ready (rs := [8]) (by kernel_rfl) (by simp) ?_
          refine AllReadyH.cons rfl (fun K hK => ?_) AllReadyH.nil
          go_simp
          refine (empty_is HE.out _).mono ?_
          rintro e w1 ⟨rfl, hb⟩
          refine hK.out _ _ (hS.call hb) (fun hT => ?_)
          clear hK hb hS
          have hS := hT
          clear hT
          refine takeH (i := 9) (d := 48) (v := ?vr9) rfl (by kernel_rfl) (by kernel_rfl) (by kernel_rfl) (fun _ _ _ h => h) rfl (by rfl) ?yr9 hS ?rr9
          case yr9 => (intro wz hz; obtain ⟨c0, c1, c2, c3, cr, fr, ck⟩ := hz.cells; go_simp <;> with_reducible rfl)
          simp only [List.setIfInBounds_toArray, List.set_cons_zero, List.set_cons_succ]
          refine takeH (i := 10) (d := 49) (v := ?vr10) rfl (by kernel_rfl) (by kernel_rfl) (by kernel_rfl) (fun _ _ _ h => h) rfl (by rfl) ?yr10 hS ?rr10
          case yr10 => (intro wz hz; obtain ⟨c0, c1, c2, c3, cr, fr, ck⟩ := hz.cells; go_simp <;> with_reducible rfl)
          simp only [List.setIfInBounds_toArray, List.set_cons_zero, List.set_cons_succ]
          refine takeH (i := 11) (d := 50) (v := ?vr11) rfl (by kernel_rfl) (by kernel_rfl) (by kernel_rfl) (fun _ _ _ h => h) rfl (by rfl) ?yr11 hS ?rr11
          case yr11 => (intro wz hz; obtain ⟨c0, c1, c2, c3, cr, fr, ck⟩ := hz.cells; go_simp <;> with_reducible rfl)
          simp only [List.setIfInBounds_toArray, List.set_cons_zero, List.set_cons_succ]
          refine takeH (i := 13) (d := 52) (v := ?vr13) rfl (by kernel_rfl) (by kernel_rfl) (by kernel_rfl) (fun _ _ _ h => h) rfl (by rfl) ?yr13 hS ?rr13
          case yr13 => (intro wz hz; obtain ⟨c0, c1, c2, c3, cr, fr, ck⟩ := hz.cells; go_simp <;> with_reducible rfl)
          simp only [List.setIfInBounds_toArray, List.set_cons_zero, List.set_cons_succ]
          refine takeH (i := 14) (d := 53) (v := ?vr14) rfl (by kernel_rfl) (by kernel_rfl) (by kernel_rfl) (fun _ _ _ h => h) rfl (by rfl) ?yr14 hS ?rr14
          case yr14 => (intro wz hz; obtain ⟨c0, c1, c2, c3, cr, fr, ck⟩ := hz.cells; go_simp <;> with_reducible rfl)
          simp only [List.setIfInBounds_toArray, List.set_cons_zero, List.set_cons_succ]
          refine takeH (i := 16) (d := 55) (v := ?vr16) rfl (by kernel_rfl) (by kernel_rfl) (by kernel_rfl) (fun _ _ _ h => h) rfl (by rfl) ?yr16 hS ?rr16
          case yr16 => (intro wz hz; obtain ⟨c0, c1, c2, c3, cr, fr, ck⟩ := hz.cells; go_simp <;> with_reducible rfl)
          simp only [List.setIfInBounds_toArray, List.set_cons_zero, List.set_cons_succ]
          refine takeH (i := 17) (d := 56) (v := ?vr17) rfl (by kernel_rfl) (by kernel_rfl) (by kernel_rfl) (fun _ _ _ h => h) rfl (by rfl) ?yr17 hS ?rr17
          case yr17 => (intro wz hz; obtain ⟨c0, c1, c2, c3, cr, fr, ck⟩ := hz.cells; go_simp <;> with_reducible rfl)
          simp only [List.setIfInBounds_toArray, List.set_cons_zero, List.set_cons_succ]
          refine takeH (i := 18) (d := 57) (v := ?vr18) rfl (by kernel_rfl) (by kernel_rfl) (by kernel_rfl) (fun _ _ _ h => h) rfl (by rfl) ?yr18 hS ?rr18
          case yr18 => (intro wz hz; obtain ⟨c0, c1, c2, c3, cr, fr, ck⟩ := hz.cells; go_simp <;> with_reducible rfl)
          simp only [List.setIfInBounds_toArray, List.set_cons_zero, List.set_cons_succ]
          refine wpAnyH_ready (rs := [12]) (by kernel_rfl) (by simp) ?_
          refine AllReadyH.cons rfl (fun K hK => ?_) AllReadyH.nil
          go_simp
          refine (of_t _ _).mono ?_
          rintro e w1 ⟨rfl, hb⟩
          refine hK.out _ _ (hS.call hb) (fun hT => ?_)
          clear hK hb hS
          have hS := hT
          clear hT
          refine wpAnyH_ready (rs := [15]) (by kernel_rfl) (by simp) ?_
          refine AllReadyH.cons rfl (fun K hK => ?_) AllReadyH.nil
          go_simp
          refine (has_is HHT.out _).mono ?_
          rintro e w1 ⟨rfl, hb⟩
          refine hK.out _ _ (hS.call hb) (fun hT => ?_)
          clear hK hb hS
          have hS := hT
          clear hT
          refine takeH (i := 19) (d := 58) (v := ?vr19) rfl (by kernel_rfl) (by kernel_rfl) (by kernel_rfl) (fun _ _ _ h => h) rfl (by rfl) ?yr19 hS ?rr19
          case yr19 => (intro wz hz; obtain ⟨c0, c1, c2, c3, cr, fr, ck⟩ := hz.cells; go_simp <;> with_reducible rfl)
          simp only [List.setIfInBounds_toArray, List.set_cons_zero, List.set_cons_succ]
          refine takeH (i := 20) (d := 59) (v := ?vr20) rfl (by kernel_rfl) (by kernel_rfl) (by kernel_rfl) (fun _ _ _ h => h) rfl (by rfl) ?yr20 hS ?rr20
          case yr20 => (intro wz hz; obtain ⟨c0, c1, c2, c3, cr, fr, ck⟩ := hz.cells; go_simp <;> with_reducible rfl)
          simp only [List.setIfInBounds_toArray, List.set_cons_zero, List.set_cons_succ]
          refine wpAnyH_done (by kernel_rfl) ?_ _
          refine only_done ?_
          have HS := Lib.hid hS
          clear hS
          gi_wp2_with fail
          gi_meet
          exact ⟨rfl, HS⟩
  case rest =>
    obtain ⟨rfl, HB'⟩ := hcut
    clear HB
    have HB := HB'
    clear HB' HOT HHK dk0 dk1
    obtain ⟨c0, c1, c2, c3, cr, fr, ck⟩ := HB.out.cells
    have hfn := func_nil
    obtain ⟨L, hL⟩ : ∃ L, tch r0 r1 r2 r3 64 = L := ⟨_, rfl⟩
    gi_wp2_with fail
    refine wcall2 ((refTouched_any r0 r1 r2 r3 _ hu).mono ?_)
    rintro e w1 ⟨u, rfl, ho⟩
    rw [hL] at ho
    have HL := Lib.hid hL
    clear hL
    obtain ⟨A, cap, rfl, _, _⟩ := own_slice ho.row
    have HLi := Lib.hid (Lies.of_own ho.row)
    have HB' := Lib.hid (HB.out.call ho.old)
    clear HB c0 c1 c2 c3 cr fr ck ho
    have HB := HB'
    clear HB'
    obtain ⟨c0, c1, c2, c3, cr, fr, ck⟩ := (((HB.out.alloc (.cells #[.slice A L.length cap] 35)).alloc (.cells #[.int .i64 0] 3)).alloc (.cells #[.bool false] 4)).cells
    gi_wp2_with fail
    refine wcall2 ((touched_any _ _ _ _ _).mono ?_)
    rintro e w' ⟨rfl, rfl⟩
    clear c0 c1 c2 c3 cr fr ck
    gi_wp2_with fail
    have hLI := LoopI.start (w1 := w1) (r0 := r0) (r1 := r1) (r2 := r2) (r3 := r3) (k := k) (A := A) (cap := cap) (L := L)
    have hsz : ((((w1.alloc (.cells #[.slice A L.length cap] 35)).alloc (.cells #[.int .i64 0] 3)).alloc (.cells #[.bool false] 4)).alloc (.cells #[.int .u32 r0, .int .u32 r1, .int .u32 r2, .int .u32 r3] 24)).heap.size = w1.heap.size + 4 := by simp
    obtain ⟨W, hW⟩ : ∃ W, ((((w1.alloc (.cells #[.slice A L.length cap] 35)).alloc (.cells #[.int .i64 0] 3)).alloc (.cells #[.bool false] 4)).alloc (.cells #[.int .u32 r0, .int .u32 r1, .int .u32 r2, .int .u32 r3] 24)) = W := ⟨_, rfl⟩
    rw [hW] at hLI hsz ⊢
    clear hW hfn
    have hll : L.length ≤ 64 := by rw [← HL.out]; exact tch_le _ _ _ _ _
    have IS := iter_stops (3 - 1) (w1.heap.size + 1 + 1 + 1) r0 r1 r2 r3 hu W hLI.u
    rw [HL.out] at IS
    refine wpIn_rangeFunc_ownF rfl (by omega) (gf := 26) (lb := #[.pointer (some ⟨w1.heap.size + 1 + 1 + 1, 0, none⟩)]) rfl trivial (enters_of Try.func26 (by kernel_rfl) rfl)
      IS kpB_t (kpB_b (by omega)) (Below.refl _ _) (fun _ => rfl)
      (LoopI w1 r0 r1 r2 r3 A cap L k) (fun _ pre _ => ¬ pre <+: L) (loopI_own (by omega)) (fun _ => ownFrom_pure _ _) hLI
      (fun x' => { tmps := #[.agg #[.int .u32 r0, .int .u32 r1, .int .u32 r2, .int .u32 r3], .int .u32 x, .int .u32 y, .int .i64 t, .pointer (some ⟨w.heap.size, 0, none⟩), undef, undef, undef, .pointer (some ⟨w.heap.size + 1, 0, none⟩), .pointer (some ⟨w.heap.size + 1 + 1, 0, none⟩), .pointer (some ⟨w1.heap.size, 0, none⟩), .pointer (some ⟨w1.heap.size + 1, 0, none⟩), .pointer (some ⟨w1.heap.size + 1 + 1, 0, none⟩), .func (.func 26) #[] #[.pointer (some ⟨w1.heap.size + 1 + 1 + 1, 0, none⟩)], .int .i64 (x' : Int), u15, u16, u17, u18, u19, u20, u21, u22, u23, u24, u25, u26, u27, u28, u29, u30, u31, u32, u33, u34, u35, u36, u37, u38, u39, u40, u41, u42, u43, u44, u45, u46, u47, u48, u49, u50, u51, u52, u53, u54, u55, u56, u57, u58, .bool false, .agg #[.int .u32 r0, .int .u32 r1, .int .u32 r2, .int .u32 r3], .slice A L.length cap, .agg #[.int .u32 r0, .int .u32 r1, .int .u32 r2, .int .u32 r3], .func (.func 26) #[] #[.pointer (some ⟨w1.heap.size + 1 + 1 + 1, 0, none⟩)], .func (.func 26) #[] #[.pointer (some ⟨w1.heap.size + 1 + 1 + 1, 0, none⟩)], .bool false, .func (.func 26) #[] #[.pointer (some ⟨w1.heap.size + 1 + 1 + 1, 0, none⟩)], .int .i64 (x' : Int), u68, u69, u70, u71, u72, u73, u74, u75, u76, u77, u78, u79, u80, u81, u82, u83, u84, u85, u86, u87, u88, u89, u90, u91, u92, u93, u94, u95, u96, u97, u98, u99, u100, u101, u102, u103, u104, u105, u106, u107, u108, u109, u110, u111, u112, u113, u114, u115, u116, u117], defers := [] }) ?assign ?body ?done ?stop
    case assign =>
      intro l x' W K hK
      gi_wp2
      simpa using hK
    case body =>
      rintro l pre x' W' hI hlt
      obtain ⟨a, v, hA, hab, hv, hcell⟩ := (HLi.out.under hI.low).get hlt
      rw [IC_get L _ hlt] at hv
      injection hv with hv
      subst hv
      subst hA
      have hst := HB.out.call hI.low
      obtain ⟨c0, c1, c2, c3, cr, fr, ck⟩ := hst.cells
      have hS0 : Hid (LC w w1 r0 r1 r2 r3 (some a) cap L pre.length (a.add pre.length) (L[pre.length]) W') := ⟨c0, c1, c2, c3, hI.l.cell, hI.n.cell, hcell⟩
      have HI := Lib.hid hI
      have hps := prefix_snoc hI.is hlt
      have hpl : ∀ x, pre ++ [x] <+: L → x = L[pre.length] := fun x h => prefix_last hlt h
      have hin : L[pre.length] ∈ tch r0 r1 r2 r3 64 := by rw [HL.out]; exact List.getElem_mem _
      generalize L[pre.length] = v at hS0 hps hpl hin
      have hlen : pre.length < L.length := hlt
      have hd1 : decide (L.length ≤ pre.length) = false := by simp; omega
      clear c0 c1 c2 c3 cr fr ck hI hcell
      by_cases hxv : x' = v
      · subst hxv
        have htb := (mem_tch.1 hin).2
        have h64 := (mem_tch.1 hin).1
        have HMT : Hid (meetsB (oA (x' : Int)) (oB (x' : Int)) (oC (x' : Int)) (oD (x' : Int)) r0 r1 r2 r3 = true) := (o_meets r0 r1 r2 r3 (x' : Int) hu (by omega) (by omega)).trans htb
        have HPS := Lib.hid hps
        clear hin hpl htb hps
        gi_wp2_with fail
        refine region_round (S := fun z => LC w w1 r0 r1 r2 r3 (some a) cap L pre.length (a.add pre.length) x' z ∧ Below W'.heap.size W' z) (by kernel_rfl) (by kernel_rfl) ⟨hS0.out.drew, (Below.refl _ _).drew⟩ (fun hS => ?_)
        refine takeH (i := 0) (d := 68) (v := ?vs0) rfl (by kernel_rfl) (by kernel_rfl) (by kernel_rfl) (fun _ _ _ h => h) rfl (by rfl) ?ys0 hS ?rs0
        case ys0 => (intro wz hz; obtain ⟨⟨c0, c1, c2, c3, cl, cn, cv⟩, _⟩ := hz; go_simp <;> with_reducible rfl)
        simp only [List.setIfInBounds_toArray, List.set_cons_zero, List.set_cons_succ]
        refine takeH (i := 1) (d := 69) (v := ?vs1) rfl (by kernel_rfl) (by kernel_rfl) (by kernel_rfl) (fun _ _ _ h => h) rfl (by rfl) ?ys1 hS ?rs1
        case ys1 => (intro wz hz; obtain ⟨⟨c0, c1, c2, c3, cl, cn, cv⟩, _⟩ := hz; go_simp <;> with_reducible rfl)
        simp only [List.setIfInBounds_toArray, List.set_cons_zero, List.set_cons_succ]
        refine takeH (i := 2) (d := 70) (v := ?vs2) rfl (by kernel_rfl) (by kernel_rfl) (by kernel_rfl) (fun _ _ _ h => h) rfl (by rfl) ?ys2 hS ?rs2
        case ys2 => (intro wz hz; obtain ⟨⟨c0, c1, c2, c3, cl, cn, cv⟩, _⟩ := hz; go_simp <;> with_reducible rfl)
        simp only [List.setIfInBounds_toArray, List.set_cons_zero, List.set_cons_succ]
        refine takeH (i := 3) (d := 71) (v := ?vs3) rfl (by kernel_rfl) (by kernel_rfl) (by kernel_rfl) (fun _ _ _ h => h) rfl (by rfl) ?ys3 hS ?rs3
        case ys3 => (intro wz hz; obtain ⟨⟨c0, c1, c2, c3, cl, cn, cv⟩, _⟩ := hz; go_simp <;> with_reducible rfl)
        simp only [List.setIfInBounds_toArray, List.set_cons_zero, List.set_cons_succ]
        refine takeH (i := 4) (d := 72) (v := ?vs4) rfl (by kernel_rfl) (by kernel_rfl) (by kernel_rfl) (fun _ _ _ h => h) rfl (by rfl) ?ys4 hS ?rs4
        case ys4 => (intro wz hz; obtain ⟨⟨c0, c1, c2, c3, cl, cn, cv⟩, _⟩ := hz; go_simp <;> with_reducible rfl)
        simp only [List.setIfInBounds_toArray, List.set_cons_zero, List.set_cons_succ]
        refine takeH (i := 5) (d := 73) (v := ?vs5) rfl (by kernel_rfl) (by kernel_rfl) (by kernel_rfl) (fun _ _ _ h => h) rfl (by rfl) ?ys5 hS ?rs5
        case ys5 => (intro wz hz; obtain ⟨⟨c0, c1, c2, c3, cl, cn, cv⟩, _⟩ := hz; go_simp <;> with_reducible rfl)
        simp only [List.setIfInBounds_toArray, List.set_cons_zero, List.set_cons_succ]
        refine takeH (i := 6) (d := 74) (v := ?vs6) rfl (by kernel_rfl) (by kernel_rfl) (by kernel_rfl) (fun _ _ _ h => h) rfl (by rfl) ?ys6 hS ?rs6
        case ys6 => (intro wz hz; obtain ⟨⟨c0, c1, c2, c3, cl, cn, cv⟩, _⟩ := hz; go_simp <;> with_reducible rfl)
        simp only [List.setIfInBounds_toArray, List.set_cons_zero, List.set_cons_succ]
        refine takeH (i := 7) (d := 75) (v := ?vs7) rfl (by kernel_rfl) (by kernel_rfl) (by kernel_rfl) (fun _ _ _ h => h) rfl (by rfl) ?ys7 hS ?rs7
        case ys7 => (intro wz hz; obtain ⟨⟨c0, c1, c2, c3, cl, cn, cv⟩, _⟩ := hz; go_simp <;> with_reducible rfl)
        simp only [List.setIfInBounds_toArray, List.set_cons_zero, List.set_cons_succ]
        refine takeH (i := 8) (d := 76) (v := ?vs8) rfl (by kernel_rfl) (by kernel_rfl) (by kernel_rfl) (fun _ _ _ h => h) rfl (by rfl) ?ys8 hS ?rs8
        case ys8 => (intro wz hz; obtain ⟨⟨c0, c1, c2, c3, cl, cn, cv⟩, _⟩ := hz; go_simp <;> with_reducible rfl)
        simp only [List.setIfInBounds_toArray, List.set_cons_zero, List.set_cons_succ]
        refine takeH (i := 9) (d := 77) (v := ?vs9) rfl (by kernel_rfl) (by kernel_rfl) (by kernel_rfl) (fun _ _ _ h => h) rfl (by rfl) ?ys9 hS ?rs9
        case ys9 => (intro wz hz; obtain ⟨⟨c0, c1, c2, c3, cl, cn, cv⟩, _⟩ := hz; go_simp <;> with_reducible rfl)
        simp only [List.setIfInBounds_toArray, List.set_cons_zero, List.set_cons_succ]
        refine takeH (i := 10) (d := 78) (v := ?vs10) rfl (by kernel_rfl) (by kernel_rfl) (by kernel_rfl) (fun _ _ _ h => h) rfl (by rfl) ?ys10 hS ?rs10
        case ys10 => (intro wz hz; obtain ⟨⟨c0, c1, c2, c3, cl, cn, cv⟩, _⟩ := hz; go_simp <;> with_reducible rfl)
        simp only [List.setIfInBounds_toArray, List.set_cons_zero, List.set_cons_succ]
        refine takeH (i := 11) (d := 79) (v := ?vs11) rfl (by kernel_rfl) (by kernel_rfl) (by kernel_rfl) (fun _ _ _ h => h) rfl (by rfl) ?ys11 hS ?rs11
        case ys11 => (intro wz hz; obtain ⟨⟨c0, c1, c2, c3, cl, cn, cv⟩, _⟩ := hz; go_simp <;> with_reducible rfl)
        simp only [List.setIfInBounds_toArray, List.set_cons_zero, List.set_cons_succ]
        refine takeH (i := 12) (d := 80) (v := ?vs12) rfl (by kernel_rfl) (by kernel_rfl) (by kernel_rfl) (fun _ _ _ h => h) rfl (by rfl) ?ys12 hS ?rs12
        case ys12 => (intro wz hz; obtain ⟨⟨c0, c1, c2, c3, cl, cn, cv⟩, _⟩ := hz; go_simp <;> with_reducible rfl)
        simp only [List.setIfInBounds_toArray, List.set_cons_zero, List.set_cons_succ]
        refine takeH (i := 13) (d := 81) (v := ?vs13) rfl (by kernel_rfl) (by kernel_rfl) (by kernel_rfl) (fun _ _ _ h => h) rfl (by rfl) ?ys13 hS ?rs13
        case ys13 => (intro wz hz; obtain ⟨⟨c0, c1, c2, c3, cl, cn, cv⟩, _⟩ := hz; go_simp <;> with_reducible rfl)
        simp only [List.setIfInBounds_toArray, List.set_cons_zero, List.set_cons_succ]
        refine takeH (i := 15) (d := 83) (v := ?vs15) rfl (by kernel_rfl) (by kernel_rfl) (by kernel_rfl) (fun _ _ _ h => h) rfl (by rfl) ?ys15 hS ?rs15
        case ys15 => (intro wz hz; obtain ⟨⟨c0, c1, c2, c3, cl, cn, cv⟩, _⟩ := hz; go_simp <;> with_reducible rfl)
        simp only [List.setIfInBounds_toArray, List.set_cons_zero, List.set_cons_succ]
        refine wpAnyH_ready (rs := [14]) (by kernel_rfl) (by simp) ?_
        refine AllReadyH.cons rfl (fun K hK => ?_) AllReadyH.nil
        go_simp
        refine (of_t _ _).mono ?_
        rintro e w2 ⟨rfl, hb⟩
        refine hK.out _ _ (show _ ∧ _ from ⟨hS.1.call hb, chain hS.2 hb (Nat.le_refl _)⟩) (fun hT => ?_)
        clear hK hb hS
        have hS := hT
        clear hT
        refine wpAnyH_ready (rs := [16]) (by kernel_rfl) (by simp) ?_
        refine AllReadyH.cons rfl (fun K hK => ?_) AllReadyH.nil
        go_simp
        refine (meets_is HMT.out _).mono ?_
        rintro e w2 ⟨rfl, hb⟩
        refine hK.out _ _ (show _ ∧ _ from ⟨hS.1.call hb, chain hS.2 hb (Nat.le_refl _)⟩) (fun hT => ?_)
        clear hK hb hS
        have hS := hT
        clear hT
        refine takeH (i := 17) (d := 85) (v := ?vs17) rfl (by kernel_rfl) (by kernel_rfl) (by kernel_rfl) (fun _ _ _ h => h) rfl (by rfl) ?ys17 hS ?rs17
        case ys17 => (intro wz hz; obtain ⟨⟨c0, c1, c2, c3, cl, cn, cv⟩, _⟩ := hz; go_simp <;> with_reducible rfl)
        simp only [List.setIfInBounds_toArray, List.set_cons_zero, List.set_cons_succ]
        refine takeH (i := 18) (d := 86) (v := ?vs18) rfl (by kernel_rfl) (by kernel_rfl) (by kernel_rfl) (fun _ _ _ h => h) rfl (by rfl) ?ys18 hS ?rs18
        case ys18 => (intro wz hz; obtain ⟨⟨c0, c1, c2, c3, cl, cn, cv⟩, _⟩ := hz; go_simp <;> with_reducible rfl)
        simp only [List.setIfInBounds_toArray, List.set_cons_zero, List.set_cons_succ]
        refine wpAnyH_done (by kernel_rfl) ?_ _
        refine only_done ?_
        have HI2 := Lib.hid (HI.out.call hS.2)
        have HS := Lib.hid hS.2
        have ck := (Boxed.call (HB.out.call HI.out.low).k hS.2).cell
        have cm := HI2.out.m.cell
        have fm := HI2.out.m.frozen
        have cn := HI2.out.n.cell
        have fn := HI2.out.n.frozen
        have hkeep := LoopI.kept (w1 := w1) hS.2 HI.out.u.lt
        clear hS
        have HKP := Lib.hid hkeep
        clear hkeep
        have hms := memB_snoc k pre x'
        cases hm : memB k pre
        · by_cases hxk : (x' : Int) = k
          · have d5 : ((x' : Int) == k) = true := by simpa using hxk
            rw [hm, hxk] at hms
            have HMS := Lib.hid (show memB k (pre ++ [x']) = true by rw [hms]; simp)
            clear hms hxk
            gi_wp2_with fail
            exact ⟨(HKP.out _ _).1, (HKP.out _ _).2, HI2.out.step HPS.out HMS.out⟩
          · have d5 : ((x' : Int) == k) = false := by simpa using hxk
            have HMS := Lib.hid (show memB k (pre ++ [x']) = false by rw [hms, hm]; simpa using hxk)
            clear hms
            gi_wp2_with fail
            exact ⟨(HKP.out _ _).1, (HKP.out _ _).2, HI2.out.step HPS.out HMS.out⟩
        · have HMS := Lib.hid (show memB k (pre ++ [x']) = true by rw [hms, hm]; rfl)
          clear hms
          gi_wp2_with fail
          exact ⟨(HKP.out _ _).1, (HKP.out _ _).2, HI2.out.step HPS.out HMS.out⟩
      · have hno : ¬ pre ++ [x'] <+: L := fun h => hxv (hpl x' h)
        have d6 : ((v : Int) != (x' : Int)) = true := by simp; omega
        have d7 : ((v : Int) == (x' : Int)) = false := by simp; omega
        have d8 : ¬ (v : Int) = (x' : Int) := by omega
        have d9 : ¬ v = x' := by omega
        have fr := (HB.out.call HI.out.low).res
        have HNO := Lib.hid hno
        clear hno hps hpl hin
        gi_wp2_with fail
        refine region_round (S := fun z => LC w w1 r0 r1 r2 r3 (some a) cap L pre.length (a.add pre.length) v z ∧ Below W'.heap.size W' z) (by kernel_rfl) (by kernel_rfl) ⟨hS0.out.drew, (Below.refl _ _).drew⟩ (fun hS => ?_)
        refine takeH (i := 0) (d := 68) (v := ?vw0) rfl (by kernel_rfl) (by kernel_rfl) (by kernel_rfl) (fun _ _ _ h => h) rfl (by rfl) ?yw0 hS ?rw0
        case yw0 => (intro wz hz; obtain ⟨⟨c0, c1, c2, c3, cl, cn, cv⟩, _⟩ := hz; go_simp <;> with_reducible rfl)
        simp only [List.setIfInBounds_toArray, List.set_cons_zero, List.set_cons_succ]
        refine takeH (i := 1) (d := 69) (v := ?vw1) rfl (by kernel_rfl) (by kernel_rfl) (by kernel_rfl) (fun _ _ _ h => h) rfl (by rfl) ?yw1 hS ?rw1
        case yw1 => (intro wz hz; obtain ⟨⟨c0, c1, c2, c3, cl, cn, cv⟩, _⟩ := hz; go_simp <;> with_reducible rfl)
        simp only [List.setIfInBounds_toArray, List.set_cons_zero, List.set_cons_succ]
        refine takeH (i := 2) (d := 70) (v := ?vw2) rfl (by kernel_rfl) (by kernel_rfl) (by kernel_rfl) (fun _ _ _ h => h) rfl (by rfl) ?yw2 hS ?rw2
        case yw2 => (intro wz hz; obtain ⟨⟨c0, c1, c2, c3, cl, cn, cv⟩, _⟩ := hz; go_simp <;> with_reducible rfl)
        simp only [List.setIfInBounds_toArray, List.set_cons_zero, List.set_cons_succ]
        refine takeH (i := 3) (d := 71) (v := ?vw3) rfl (by kernel_rfl) (by kernel_rfl) (by kernel_rfl) (fun _ _ _ h => h) rfl (by rfl) ?yw3 hS ?rw3
        case yw3 => (intro wz hz; obtain ⟨⟨c0, c1, c2, c3, cl, cn, cv⟩, _⟩ := hz; go_simp <;> with_reducible rfl)
        simp only [List.setIfInBounds_toArray, List.set_cons_zero, List.set_cons_succ]
        refine takeH (i := 4) (d := 72) (v := ?vw4) rfl (by kernel_rfl) (by kernel_rfl) (by kernel_rfl) (fun _ _ _ h => h) rfl (by rfl) ?yw4 hS ?rw4
        case yw4 => (intro wz hz; obtain ⟨⟨c0, c1, c2, c3, cl, cn, cv⟩, _⟩ := hz; go_simp <;> with_reducible rfl)
        simp only [List.setIfInBounds_toArray, List.set_cons_zero, List.set_cons_succ]
        refine takeH (i := 5) (d := 73) (v := ?vw5) rfl (by kernel_rfl) (by kernel_rfl) (by kernel_rfl) (fun _ _ _ h => h) rfl (by rfl) ?yw5 hS ?rw5
        case yw5 => (intro wz hz; obtain ⟨⟨c0, c1, c2, c3, cl, cn, cv⟩, _⟩ := hz; go_simp <;> with_reducible rfl)
        simp only [List.setIfInBounds_toArray, List.set_cons_zero, List.set_cons_succ]
        refine takeH (i := 6) (d := 74) (v := ?vw6) rfl (by kernel_rfl) (by kernel_rfl) (by kernel_rfl) (fun _ _ _ h => h) rfl (by rfl) ?yw6 hS ?rw6
        case yw6 => (intro wz hz; obtain ⟨⟨c0, c1, c2, c3, cl, cn, cv⟩, _⟩ := hz; go_simp <;> with_reducible rfl)
        simp only [List.setIfInBounds_toArray, List.set_cons_zero, List.set_cons_succ]
        refine takeH (i := 7) (d := 75) (v := ?vw7) rfl (by kernel_rfl) (by kernel_rfl) (by kernel_rfl) (fun _ _ _ h => h) rfl (by rfl) ?yw7 hS ?rw7
        case yw7 => (intro wz hz; obtain ⟨⟨c0, c1, c2, c3, cl, cn, cv⟩, _⟩ := hz; go_simp <;> with_reducible rfl)
        simp only [List.setIfInBounds_toArray, List.set_cons_zero, List.set_cons_succ]
        refine takeH (i := 8) (d := 76) (v := ?vw8) rfl (by kernel_rfl) (by kernel_rfl) (by kernel_rfl) (fun _ _ _ h => h) rfl (by rfl) ?yw8 hS ?rw8
        case yw8 => (intro wz hz; obtain ⟨⟨c0, c1, c2, c3, cl, cn, cv⟩, _⟩ := hz; go_simp <;> with_reducible rfl)
        simp only [List.setIfInBounds_toArray, List.set_cons_zero, List.set_cons_succ]
        refine takeH (i := 9) (d := 77) (v := ?vw9) rfl (by kernel_rfl) (by kernel_rfl) (by kernel_rfl) (fun _ _ _ h => h) rfl (by rfl) ?yw9 hS ?rw9
        case yw9 => (intro wz hz; obtain ⟨⟨c0, c1, c2, c3, cl, cn, cv⟩, _⟩ := hz; go_simp <;> with_reducible rfl)
        simp only [List.setIfInBounds_toArray, List.set_cons_zero, List.set_cons_succ]
        refine takeH (i := 10) (d := 78) (v := ?vw10) rfl (by kernel_rfl) (by kernel_rfl) (by kernel_rfl) (fun _ _ _ h => h) rfl (by rfl) ?yw10 hS ?rw10
        case yw10 => (intro wz hz; obtain ⟨⟨c0, c1, c2, c3, cl, cn, cv⟩, _⟩ := hz; go_simp <;> with_reducible rfl)
        simp only [List.setIfInBounds_toArray, List.set_cons_zero, List.set_cons_succ]
        refine takeH (i := 11) (d := 79) (v := ?vw11) rfl (by kernel_rfl) (by kernel_rfl) (by kernel_rfl) (fun _ _ _ h => h) rfl (by rfl) ?yw11 hS ?rw11
        case yw11 => (intro wz hz; obtain ⟨⟨c0, c1, c2, c3, cl, cn, cv⟩, _⟩ := hz; go_simp <;> with_reducible rfl)
        simp only [List.setIfInBounds_toArray, List.set_cons_zero, List.set_cons_succ]
        refine takeH (i := 12) (d := 80) (v := ?vw12) rfl (by kernel_rfl) (by kernel_rfl) (by kernel_rfl) (fun _ _ _ h => h) rfl (by rfl) ?yw12 hS ?rw12
        case yw12 => (intro wz hz; obtain ⟨⟨c0, c1, c2, c3, cl, cn, cv⟩, _⟩ := hz; go_simp <;> with_reducible rfl)
        simp only [List.setIfInBounds_toArray, List.set_cons_zero, List.set_cons_succ]
        refine skipH (i := 13) (d := 81) rfl (by kernel_rfl) (by kernel_rfl) (by kernel_rfl) (fun _ _ _ h => h) rfl (by rfl) hS ?_
        simp only [List.setIfInBounds_toArray, List.set_cons_zero, List.set_cons_succ]
        refine skipH (i := 14) (d := 82) rfl (by kernel_rfl) (by kernel_rfl) (by kernel_rfl) (fun _ _ _ h => h) rfl (by rfl) hS ?_
        simp only [List.setIfInBounds_toArray, List.set_cons_zero, List.set_cons_succ]
        refine skipH (i := 15) (d := 83) rfl (by kernel_rfl) (by kernel_rfl) (by kernel_rfl) (fun _ _ _ h => h) rfl (by rfl) hS ?_
        simp only [List.setIfInBounds_toArray, List.set_cons_zero, List.set_cons_succ]
        refine skipH (i := 16) (d := 84) rfl (by kernel_rfl) (by kernel_rfl) (by kernel_rfl) (fun _ _ _ h => h) rfl (by rfl) hS ?_
        simp only [List.setIfInBounds_toArray, List.set_cons_zero, List.set_cons_succ]
        refine skipH (i := 17) (d := 85) rfl (by kernel_rfl) (by kernel_rfl) (by kernel_rfl) (fun _ _ _ h => h) rfl (by rfl) hS ?_
        simp only [List.setIfInBounds_toArray, List.set_cons_zero, List.set_cons_succ]
        refine takeH (i := 18) (d := 86) (v := ?vw18) rfl (by kernel_rfl) (by kernel_rfl) (by kernel_rfl) (fun _ _ _ h => h) rfl (by rfl) ?yw18 hS ?rw18
        case yw18 => (intro wz hz; obtain ⟨⟨c0, c1, c2, c3, cl, cn, cv⟩, _⟩ := hz; go_simp <;> with_reducible rfl)
        simp only [List.setIfInBounds_toArray, List.set_cons_zero, List.set_cons_succ]
        refine wpAnyH_done (by kernel_rfl) ?_ _
        refine only_done ?_
        have cr := (Boxed.call fr hS.2).cell
        have fr2 := (Boxed.call fr hS.2).frozen
        have hk3 := Lib.hid (below_keeps hS.2)
        clear hS
        gi_wp2_with fail
        exact ⟨hk3.out.trans (KeepsOthers.setCell _ _ _), HNO.out⟩
    case done =>
      rintro D ys W' hD hys hI hK
      rw [hys] at hI
      clear hys ys
      have hst := HB.out.call hI.low
      have HLD := Lib.hid (show LD w w1 r0 r1 r2 r3 A cap L k D W' from ⟨hst.r, hI.l, hI.n, hI.m, ⟨_, hst.res⟩, hK, hst.old, Nat.lt_of_succ_lt (Boxed.lt HB.out.k), by omega⟩)
      have HCN := Lib.hid (show (tch r0 r1 r2 r3 64).length = L.length by rw [HL.out])
      clear hst hI hK hD hLI IS
      cases hp : hasB r0 r1 r2 r3 x y
      · have HP := Lib.hid hp
        clear hp
        gi_wp2_with fail
        refine region_wide (S := fun z => LD w w1 r0 r1 r2 r3 A cap L k D z) (by kernel_rfl) HLD.out.drew (fun hS => ?_)
        refine takeH (i := 0) (d := 95) (v := ?vxf0) rfl (by kernel_rfl) (by kernel_rfl) (by kernel_rfl) (fun _ _ _ h => h) rfl (by rfl) ?yxf0 hS ?rxf0
        case yxf0 => (intro wz hz; obtain ⟨c0, c1, c2, c3⟩ := hz.r.cells; have cl := hz.l.cell; have cn := hz.n.cell; have cm := hz.m.cell; go_simp <;> with_reducible rfl)
        simp only [List.setIfInBounds_toArray, List.set_cons_zero, List.set_cons_succ]
        refine takeH (i := 1) (d := 96) (v := ?vxf1) rfl (by kernel_rfl) (by kernel_rfl) (by kernel_rfl) (fun _ _ _ h => h) rfl (by rfl) ?yxf1 hS ?rxf1
        case yxf1 => (intro wz hz; obtain ⟨c0, c1, c2, c3⟩ := hz.r.cells; have cl := hz.l.cell; have cn := hz.n.cell; have cm := hz.m.cell; go_simp <;> with_reducible rfl)
        simp only [List.setIfInBounds_toArray, List.set_cons_zero, List.set_cons_succ]
        refine takeH (i := 2) (d := 97) (v := ?vxf2) rfl (by kernel_rfl) (by kernel_rfl) (by kernel_rfl) (fun _ _ _ h => h) rfl (by rfl) ?yxf2 hS ?rxf2
        case yxf2 => (intro wz hz; obtain ⟨c0, c1, c2, c3⟩ := hz.r.cells; have cl := hz.l.cell; have cn := hz.n.cell; have cm := hz.m.cell; go_simp <;> with_reducible rfl)
        simp only [List.setIfInBounds_toArray, List.set_cons_zero, List.set_cons_succ]
        refine takeH (i := 3) (d := 98) (v := ?vxf3) rfl (by kernel_rfl) (by kernel_rfl) (by kernel_rfl) (fun _ _ _ h => h) rfl (by rfl) ?yxf3 hS ?rxf3
        case yxf3 => (intro wz hz; obtain ⟨c0, c1, c2, c3⟩ := hz.r.cells; have cl := hz.l.cell; have cn := hz.n.cell; have cm := hz.m.cell; go_simp <;> with_reducible rfl)
        simp only [List.setIfInBounds_toArray, List.set_cons_zero, List.set_cons_succ]
        refine takeH (i := 4) (d := 99) (v := ?vxf4) rfl (by kernel_rfl) (by kernel_rfl) (by kernel_rfl) (fun _ _ _ h => h) rfl (by rfl) ?yxf4 hS ?rxf4
        case yxf4 => (intro wz hz; obtain ⟨c0, c1, c2, c3⟩ := hz.r.cells; have cl := hz.l.cell; have cn := hz.n.cell; have cm := hz.m.cell; go_simp <;> with_reducible rfl)
        simp only [List.setIfInBounds_toArray, List.set_cons_zero, List.set_cons_succ]
        refine takeH (i := 5) (d := 100) (v := ?vxf5) rfl (by kernel_rfl) (by kernel_rfl) (by kernel_rfl) (fun _ _ _ h => h) rfl (by rfl) ?yxf5 hS ?rxf5
        case yxf5 => (intro wz hz; obtain ⟨c0, c1, c2, c3⟩ := hz.r.cells; have cl := hz.l.cell; have cn := hz.n.cell; have cm := hz.m.cell; go_simp <;> with_reducible rfl)
        simp only [List.setIfInBounds_toArray, List.set_cons_zero, List.set_cons_succ]
        refine takeH (i := 7) (d := 102) (v := ?vxf7) rfl (by kernel_rfl) (by kernel_rfl) (by kernel_rfl) (fun _ _ _ h => h) rfl (by rfl) ?yxf7 hS ?rxf7
        case yxf7 => (intro wz hz; obtain ⟨c0, c1, c2, c3⟩ := hz.r.cells; have cl := hz.l.cell; have cn := hz.n.cell; have cm := hz.m.cell; go_simp <;> with_reducible rfl)
        simp only [List.setIfInBounds_toArray, List.set_cons_zero, List.set_cons_succ]
        refine wpAnyH_ready (rs := [6]) (by kernel_rfl) (by simp) ?_
        refine AllReadyH.cons rfl (fun K hK => ?_) AllReadyH.nil
        go_simp
        refine (count_is hu HCN.out _).mono ?_
        rintro e w2 ⟨rfl, hb⟩
        refine hK.out _ _ (by first | exact hS.call hb | exact hS.set _) (fun hT => ?_)
        clear hK hb hS
        have hS := hT
        clear hT
        refine takeH (i := 8) (d := 103) (v := ?vxf8) rfl (by kernel_rfl) (by kernel_rfl) (by kernel_rfl) (fun _ _ _ h => h) rfl (by rfl) ?yxf8 hS ?rxf8
        case yxf8 => (intro wz hz; obtain ⟨c0, c1, c2, c3⟩ := hz.r.cells; have cl := hz.l.cell; have cn := hz.n.cell; have cm := hz.m.cell; go_simp <;> with_reducible rfl)
        simp only [List.setIfInBounds_toArray, List.set_cons_zero, List.set_cons_succ]
        refine takeH (i := 9) (d := 104) (v := ?vxf9) rfl (by kernel_rfl) (by kernel_rfl) (by kernel_rfl) (fun _ _ _ h => h) rfl (by rfl) ?yxf9 hS ?rxf9
        case yxf9 => (intro wz hz; obtain ⟨c0, c1, c2, c3⟩ := hz.r.cells; have cl := hz.l.cell; have cn := hz.n.cell; have cm := hz.m.cell; go_simp <;> with_reducible rfl)
        simp only [List.setIfInBounds_toArray, List.set_cons_zero, List.set_cons_succ]
        refine takeH (i := 10) (d := 105) (v := ?vxf10) rfl (by kernel_rfl) (by kernel_rfl) (by kernel_rfl) (fun _ _ _ h => h) rfl (by rfl) ?yxf10 hS ?rxf10
        case yxf10 => (intro wz hz; obtain ⟨c0, c1, c2, c3⟩ := hz.r.cells; have cl := hz.l.cell; have cn := hz.n.cell; have cm := hz.m.cell; go_simp <;> with_reducible rfl)
        simp only [List.setIfInBounds_toArray, List.set_cons_zero, List.set_cons_succ]
        refine takeH (i := 11) (d := 106) (v := ?vxf11) rfl (by kernel_rfl) (by kernel_rfl) (by kernel_rfl) (fun _ _ _ h => h) rfl (by rfl) ?yxf11 hS ?rxf11
        case yxf11 => (intro wz hz; obtain ⟨c0, c1, c2, c3⟩ := hz.r.cells; have cl := hz.l.cell; have cn := hz.n.cell; have cm := hz.m.cell; go_simp <;> with_reducible rfl)
        simp only [List.setIfInBounds_toArray, List.set_cons_zero, List.set_cons_succ]
        refine takeH (i := 12) (d := 107) (v := ?vxf12) rfl (by kernel_rfl) (by kernel_rfl) (by kernel_rfl) (fun _ _ _ h => h) rfl (by rfl) ?yxf12 hS ?rxf12
        case yxf12 => (intro wz hz; obtain ⟨c0, c1, c2, c3⟩ := hz.r.cells; have cl := hz.l.cell; have cn := hz.n.cell; have cm := hz.m.cell; go_simp <;> with_reducible rfl)
        simp only [List.setIfInBounds_toArray, List.set_cons_zero, List.set_cons_succ]
        refine takeH (i := 13) (d := 108) (v := ?vxf13) rfl (by kernel_rfl) (by kernel_rfl) (by kernel_rfl) (fun _ _ _ h => h) rfl (by rfl) ?yxf13 hS ?rxf13
        case yxf13 => (intro wz hz; obtain ⟨c0, c1, c2, c3⟩ := hz.r.cells; have cl := hz.l.cell; have cn := hz.n.cell; have cm := hz.m.cell; go_simp <;> with_reducible rfl)
        simp only [List.setIfInBounds_toArray, List.set_cons_zero, List.set_cons_succ]
        refine wpAnyH_ready (rs := [14]) (by kernel_rfl) (by simp) ?_
        refine AllReadyH.cons rfl (fun K hK => ?_) AllReadyH.nil
        go_simp
        refine (has_is HP.out _).mono ?_
        rintro e w2 ⟨rfl, hb⟩
        refine hK.out _ _ (by first | exact hS.call hb | exact hS.set _) (fun hT => ?_)
        clear hK hb hS
        have hS := hT
        clear hT
        refine takeH (i := 15) (d := 110) (v := ?vxf15) rfl (by kernel_rfl) (by kernel_rfl) (by kernel_rfl) (fun _ _ _ h => h) rfl (by rfl) ?yxf15 hS ?rxf15
        case yxf15 => (intro wz hz; obtain ⟨c0, c1, c2, c3⟩ := hz.r.cells; have cl := hz.l.cell; have cn := hz.n.cell; have cm := hz.m.cell; go_simp <;> with_reducible rfl)
        simp only [List.setIfInBounds_toArray, List.set_cons_zero, List.set_cons_succ]
        refine takeH (i := 16) (d := 111) (v := ?vxf16) rfl (by kernel_rfl) (by kernel_rfl) (by kernel_rfl) (fun _ _ _ h => h) rfl (by rfl) ?yxf16 hS ?rxf16
        case yxf16 => (intro wz hz; obtain ⟨c0, c1, c2, c3⟩ := hz.r.cells; have cl := hz.l.cell; have cn := hz.n.cell; have cm := hz.m.cell; go_simp <;> with_reducible rfl)
        simp only [List.setIfInBounds_toArray, List.set_cons_zero, List.set_cons_succ]
        refine skipH (i := 17) (d := 112) rfl (by kernel_rfl) (by kernel_rfl) (by kernel_rfl) (fun _ _ _ h => h) rfl (by rfl) hS ?_
        simp only [List.setIfInBounds_toArray, List.set_cons_zero, List.set_cons_succ]
        refine takeH (i := 18) (d := 113) (v := ?vxf18) rfl (by kernel_rfl) (by kernel_rfl) (by kernel_rfl) (fun _ _ _ h => h) rfl (by rfl) ?yxf18 hS ?rxf18
        case yxf18 => (intro wz hz; obtain ⟨c0, c1, c2, c3⟩ := hz.r.cells; have cl := hz.l.cell; have cn := hz.n.cell; have cm := hz.m.cell; go_simp <;> with_reducible rfl)
        simp only [List.setIfInBounds_toArray, List.set_cons_zero, List.set_cons_succ]
        refine takeH (i := 19) (d := 114) (v := ?vxf19) rfl (by kernel_rfl) (by kernel_rfl) (by kernel_rfl) (fun _ _ _ h => h) rfl (by rfl) ?yxf19 hS ?rxf19
        case yxf19 => (intro wz hz; obtain ⟨c0, c1, c2, c3⟩ := hz.r.cells; have cl := hz.l.cell; have cn := hz.n.cell; have cm := hz.m.cell; go_simp <;> with_reducible rfl)
        simp only [List.setIfInBounds_toArray, List.set_cons_zero, List.set_cons_succ]
        refine takeH (i := 20) (d := 115) (v := ?vxf20) rfl (by kernel_rfl) (by kernel_rfl) (by kernel_rfl) (fun _ _ _ h => h) rfl (by rfl) ?yxf20 hS ?rxf20
        case yxf20 => (intro wz hz; obtain ⟨c0, c1, c2, c3⟩ := hz.r.cells; have cl := hz.l.cell; have cn := hz.n.cell; have cm := hz.m.cell; go_simp <;> with_reducible rfl)
        simp only [List.setIfInBounds_toArray, List.set_cons_zero, List.set_cons_succ]
        refine wpAnyH_ready (rs := [21]) (by kernel_rfl) (by simp) ?_
        refine AllReadyH.cons rfl (fun K hK => ?_) AllReadyH.nil
        go_simp
        refine (works_any _).mono ?_
        rintro e w2 ⟨rfl, hb⟩
        obtain ⟨vr, hvr⟩ := (hS.call hb).res
        have crr := hvr.cell
        have frr := hvr.frozen
        refine hK.out _ _ (by first | exact hS.call hb | exact hS.set _) (fun hT => ?_)
        clear hK hb hS
        have hS := hT
        clear hT
        refine takeH (i := 22) (d := 117) (v := ?vxf22) rfl (by kernel_rfl) (by kernel_rfl) (by kernel_rfl) (fun _ _ _ h => h) rfl (by rfl) ?yxf22 hS ?rxf22
        case yxf22 => (intro wz hz; obtain ⟨c0, c1, c2, c3⟩ := hz.r.cells; have cl := hz.l.cell; have cn := hz.n.cell; have cm := hz.m.cell; go_simp <;> with_reducible rfl)
        simp only [List.setIfInBounds_toArray, List.set_cons_zero, List.set_cons_succ]
        refine wpAnyH_ready (rs := [23]) (by kernel_rfl) (by simp) ?_
        refine AllReadyH.cons rfl (fun K hK => ?_) AllReadyH.nil
        go_simp
        have hb := trivial
        refine hK.out _ _ (by first | exact hS.call hb | exact hS.set _) (fun hT => ?_)
        clear hK hb hS
        have hS := hT
        clear hT
        refine wpAnyH_done (by kernel_rfl) ?_ _
        refine only_done ?_
        have HS := Lib.hid hS
        clear hS crr frr
        gi_wp2_with fail
        have hK' := HS.out.d
        refine ⟨by simp, .inl ⟨_, _, rfl, run_takeDeferred hK', ?_⟩⟩
        have hc5 := cell_kept (hvr.set (.bool true)).cell (grownBy_putObj' _ D (.deferred none)) (fun r e => by cases e; exact ⟨_, hK', rfl⟩)
        refine ⟨.bool true, ?_, rfl, HS.out.old.trans (belowK_b (w := w) (Nat.le_refl _) _ D _ _ (by have := HS.out.hD; have := HS.out.lt; omega) hK' rfl rfl)⟩
        simp [results, Try.f5, go_sem, hc5]
      · have HP := Lib.hid hp
        have htt := has_touch r0 r1 r2 r3 x y hp hx
        rw [HK.out] at htt
        have hmk : memB k L = true := by
          have e : ((k.toNat : Nat) : Int) = k := by omega
          refine memB_of (j := k.toNat) ?_ e
          rw [← HL.out]
          exact mem_tch.2 ⟨by omega, by rw [e]; exact htt⟩
        clear hp htt
        gi_wp2_with fail
        refine region_wide (S := fun z => LD w w1 r0 r1 r2 r3 A cap L k D z) (by kernel_rfl) HLD.out.drew (fun hS => ?_)
        refine takeH (i := 0) (d := 95) (v := ?vxt0) rfl (by kernel_rfl) (by kernel_rfl) (by kernel_rfl) (fun _ _ _ h => h) rfl (by rfl) ?yxt0 hS ?rxt0
        case yxt0 => (intro wz hz; obtain ⟨c0, c1, c2, c3⟩ := hz.r.cells; have cl := hz.l.cell; have cn := hz.n.cell; have cm := hz.m.cell; go_simp <;> with_reducible rfl)
        simp only [List.setIfInBounds_toArray, List.set_cons_zero, List.set_cons_succ]
        refine takeH (i := 1) (d := 96) (v := ?vxt1) rfl (by kernel_rfl) (by kernel_rfl) (by kernel_rfl) (fun _ _ _ h => h) rfl (by rfl) ?yxt1 hS ?rxt1
        case yxt1 => (intro wz hz; obtain ⟨c0, c1, c2, c3⟩ := hz.r.cells; have cl := hz.l.cell; have cn := hz.n.cell; have cm := hz.m.cell; go_simp <;> with_reducible rfl)
        simp only [List.setIfInBounds_toArray, List.set_cons_zero, List.set_cons_succ]
        refine takeH (i := 2) (d := 97) (v := ?vxt2) rfl (by kernel_rfl) (by kernel_rfl) (by kernel_rfl) (fun _ _ _ h => h) rfl (by rfl) ?yxt2 hS ?rxt2
        case yxt2 => (intro wz hz; obtain ⟨c0, c1, c2, c3⟩ := hz.r.cells; have cl := hz.l.cell; have cn := hz.n.cell; have cm := hz.m.cell; go_simp <;> with_reducible rfl)
        simp only [List.setIfInBounds_toArray, List.set_cons_zero, List.set_cons_succ]
        refine takeH (i := 3) (d := 98) (v := ?vxt3) rfl (by kernel_rfl) (by kernel_rfl) (by kernel_rfl) (fun _ _ _ h => h) rfl (by rfl) ?yxt3 hS ?rxt3
        case yxt3 => (intro wz hz; obtain ⟨c0, c1, c2, c3⟩ := hz.r.cells; have cl := hz.l.cell; have cn := hz.n.cell; have cm := hz.m.cell; go_simp <;> with_reducible rfl)
        simp only [List.setIfInBounds_toArray, List.set_cons_zero, List.set_cons_succ]
        refine takeH (i := 4) (d := 99) (v := ?vxt4) rfl (by kernel_rfl) (by kernel_rfl) (by kernel_rfl) (fun _ _ _ h => h) rfl (by rfl) ?yxt4 hS ?rxt4
        case yxt4 => (intro wz hz; obtain ⟨c0, c1, c2, c3⟩ := hz.r.cells; have cl := hz.l.cell; have cn := hz.n.cell; have cm := hz.m.cell; go_simp <;> with_reducible rfl)
        simp only [List.setIfInBounds_toArray, List.set_cons_zero, List.set_cons_succ]
        refine takeH (i := 5) (d := 100) (v := ?vxt5) rfl (by kernel_rfl) (by kernel_rfl) (by kernel_rfl) (fun _ _ _ h => h) rfl (by rfl) ?yxt5 hS ?rxt5
        case yxt5 => (intro wz hz; obtain ⟨c0, c1, c2, c3⟩ := hz.r.cells; have cl := hz.l.cell; have cn := hz.n.cell; have cm := hz.m.cell; go_simp <;> with_reducible rfl)
        simp only [List.setIfInBounds_toArray, List.set_cons_zero, List.set_cons_succ]
        refine takeH (i := 7) (d := 102) (v := ?vxt7) rfl (by kernel_rfl) (by kernel_rfl) (by kernel_rfl) (fun _ _ _ h => h) rfl (by rfl) ?yxt7 hS ?rxt7
        case yxt7 => (intro wz hz; obtain ⟨c0, c1, c2, c3⟩ := hz.r.cells; have cl := hz.l.cell; have cn := hz.n.cell; have cm := hz.m.cell; go_simp <;> with_reducible rfl)
        simp only [List.setIfInBounds_toArray, List.set_cons_zero, List.set_cons_succ]
        refine wpAnyH_ready (rs := [6]) (by kernel_rfl) (by simp) ?_
        refine AllReadyH.cons rfl (fun K hK => ?_) AllReadyH.nil
        go_simp
        refine (count_is hu HCN.out _).mono ?_
        rintro e w2 ⟨rfl, hb⟩
        refine hK.out _ _ (by first | exact hS.call hb | exact hS.set _) (fun hT => ?_)
        clear hK hb hS
        have hS := hT
        clear hT
        refine takeH (i := 8) (d := 103) (v := ?vxt8) rfl (by kernel_rfl) (by kernel_rfl) (by kernel_rfl) (fun _ _ _ h => h) rfl (by rfl) ?yxt8 hS ?rxt8
        case yxt8 => (intro wz hz; obtain ⟨c0, c1, c2, c3⟩ := hz.r.cells; have cl := hz.l.cell; have cn := hz.n.cell; have cm := hz.m.cell; go_simp <;> with_reducible rfl)
        simp only [List.setIfInBounds_toArray, List.set_cons_zero, List.set_cons_succ]
        refine takeH (i := 9) (d := 104) (v := ?vxt9) rfl (by kernel_rfl) (by kernel_rfl) (by kernel_rfl) (fun _ _ _ h => h) rfl (by rfl) ?yxt9 hS ?rxt9
        case yxt9 => (intro wz hz; obtain ⟨c0, c1, c2, c3⟩ := hz.r.cells; have cl := hz.l.cell; have cn := hz.n.cell; have cm := hz.m.cell; go_simp <;> with_reducible rfl)
        simp only [List.setIfInBounds_toArray, List.set_cons_zero, List.set_cons_succ]
        refine takeH (i := 10) (d := 105) (v := ?vxt10) rfl (by kernel_rfl) (by kernel_rfl) (by kernel_rfl) (fun _ _ _ h => h) rfl (by rfl) ?yxt10 hS ?rxt10
        case yxt10 => (intro wz hz; obtain ⟨c0, c1, c2, c3⟩ := hz.r.cells; have cl := hz.l.cell; have cn := hz.n.cell; have cm := hz.m.cell; go_simp <;> with_reducible rfl)
        simp only [List.setIfInBounds_toArray, List.set_cons_zero, List.set_cons_succ]
        refine takeH (i := 11) (d := 106) (v := ?vxt11) rfl (by kernel_rfl) (by kernel_rfl) (by kernel_rfl) (fun _ _ _ h => h) rfl (by rfl) ?yxt11 hS ?rxt11
        case yxt11 => (intro wz hz; obtain ⟨c0, c1, c2, c3⟩ := hz.r.cells; have cl := hz.l.cell; have cn := hz.n.cell; have cm := hz.m.cell; go_simp <;> with_reducible rfl)
        simp only [List.setIfInBounds_toArray, List.set_cons_zero, List.set_cons_succ]
        refine takeH (i := 12) (d := 107) (v := ?vxt12) rfl (by kernel_rfl) (by kernel_rfl) (by kernel_rfl) (fun _ _ _ h => h) rfl (by rfl) ?yxt12 hS ?rxt12
        case yxt12 => (intro wz hz; obtain ⟨c0, c1, c2, c3⟩ := hz.r.cells; have cl := hz.l.cell; have cn := hz.n.cell; have cm := hz.m.cell; go_simp <;> with_reducible rfl)
        simp only [List.setIfInBounds_toArray, List.set_cons_zero, List.set_cons_succ]
        refine takeH (i := 13) (d := 108) (v := ?vxt13) rfl (by kernel_rfl) (by kernel_rfl) (by kernel_rfl) (fun _ _ _ h => h) rfl (by rfl) ?yxt13 hS ?rxt13
        case yxt13 => (intro wz hz; obtain ⟨c0, c1, c2, c3⟩ := hz.r.cells; have cl := hz.l.cell; have cn := hz.n.cell; have cm := hz.m.cell; go_simp <;> with_reducible rfl)
        simp only [List.setIfInBounds_toArray, List.set_cons_zero, List.set_cons_succ]
        refine wpAnyH_ready (rs := [14]) (by kernel_rfl) (by simp) ?_
        refine AllReadyH.cons rfl (fun K hK => ?_) AllReadyH.nil
        go_simp
        refine (has_is HP.out _).mono ?_
        rintro e w2 ⟨rfl, hb⟩
        refine hK.out _ _ (by first | exact hS.call hb | exact hS.set _) (fun hT => ?_)
        clear hK hb hS
        have hS := hT
        clear hT
        refine takeH (i := 15) (d := 110) (v := ?vxt15) rfl (by kernel_rfl) (by kernel_rfl) (by kernel_rfl) (fun _ _ _ h => h) rfl (by rfl) ?yxt15 hS ?rxt15
        case yxt15 => (intro wz hz; obtain ⟨c0, c1, c2, c3⟩ := hz.r.cells; have cl := hz.l.cell; have cn := hz.n.cell; have cm := hz.m.cell; go_simp <;> with_reducible rfl)
        simp only [List.setIfInBounds_toArray, List.set_cons_zero, List.set_cons_succ]
        refine takeH (i := 16) (d := 111) (v := ?vxt16) rfl (by kernel_rfl) (by kernel_rfl) (by kernel_rfl) (fun _ _ _ h => h) rfl (by rfl) ?yxt16 hS ?rxt16
        case yxt16 => (intro wz hz; obtain ⟨c0, c1, c2, c3⟩ := hz.r.cells; have cl := hz.l.cell; have cn := hz.n.cell; have cm := hz.m.cell; go_simp <;> with_reducible rfl)
        simp only [List.setIfInBounds_toArray, List.set_cons_zero, List.set_cons_succ]
        refine takeH (i := 17) (d := 112) (v := ?vxt17) rfl (by kernel_rfl) (by kernel_rfl) (by kernel_rfl) (fun _ _ _ h => h) rfl (by rfl) ?yxt17 hS ?rxt17
        case yxt17 => (intro wz hz; obtain ⟨c0, c1, c2, c3⟩ := hz.r.cells; have cl := hz.l.cell; have cn := hz.n.cell; have cm := hz.m.cell; go_simp <;> with_reducible rfl)
        simp only [List.setIfInBounds_toArray, List.set_cons_zero, List.set_cons_succ]
        refine takeH (i := 18) (d := 113) (v := ?vxt18) rfl (by kernel_rfl) (by kernel_rfl) (by kernel_rfl) (fun _ _ _ h => h) rfl (by rfl) ?yxt18 hS ?rxt18
        case yxt18 => (intro wz hz; obtain ⟨c0, c1, c2, c3⟩ := hz.r.cells; have cl := hz.l.cell; have cn := hz.n.cell; have cm := hz.m.cell; go_simp <;> with_reducible rfl)
        simp only [List.setIfInBounds_toArray, List.set_cons_zero, List.set_cons_succ]
        refine takeH (i := 19) (d := 114) (v := ?vxt19) rfl (by kernel_rfl) (by kernel_rfl) (by kernel_rfl) (fun _ _ _ h => h) rfl (by rfl) ?yxt19 hS ?rxt19
        case yxt19 => (intro wz hz; obtain ⟨c0, c1, c2, c3⟩ := hz.r.cells; have cl := hz.l.cell; have cn := hz.n.cell; have cm := hz.m.cell; go_simp <;> with_reducible rfl)
        simp only [List.setIfInBounds_toArray, List.set_cons_zero, List.set_cons_succ]
        refine takeH (i := 20) (d := 115) (v := ?vxt20) rfl (by kernel_rfl) (by kernel_rfl) (by kernel_rfl) (fun _ _ _ h => h) rfl (by rfl) ?yxt20 hS ?rxt20
        case yxt20 => (intro wz hz; obtain ⟨c0, c1, c2, c3⟩ := hz.r.cells; have cl := hz.l.cell; have cn := hz.n.cell; have cm := hz.m.cell; go_simp <;> with_reducible rfl)
        simp only [List.setIfInBounds_toArray, List.set_cons_zero, List.set_cons_succ]
        refine wpAnyH_ready (rs := [21]) (by kernel_rfl) (by simp) ?_
        refine AllReadyH.cons rfl (fun K hK => ?_) AllReadyH.nil
        go_simp
        refine (works_any _).mono ?_
        rintro e w2 ⟨rfl, hb⟩
        obtain ⟨vr, hvr⟩ := (hS.call hb).res
        have crr := hvr.cell
        have frr := hvr.frozen
        refine hK.out _ _ (by first | exact hS.call hb | exact hS.set _) (fun hT => ?_)
        clear hK hb hS
        have hS := hT
        clear hT
        refine takeH (i := 22) (d := 117) (v := ?vxt22) rfl (by kernel_rfl) (by kernel_rfl) (by kernel_rfl) (fun _ _ _ h => h) rfl (by rfl) ?yxt22 hS ?rxt22
        case yxt22 => (intro wz hz; obtain ⟨c0, c1, c2, c3⟩ := hz.r.cells; have cl := hz.l.cell; have cn := hz.n.cell; have cm := hz.m.cell; go_simp <;> with_reducible rfl)
        simp only [List.setIfInBounds_toArray, List.set_cons_zero, List.set_cons_succ]
        refine wpAnyH_ready (rs := [23]) (by kernel_rfl) (by simp) ?_
        refine AllReadyH.cons rfl (fun K hK => ?_) AllReadyH.nil
        go_simp
        have hb := trivial
        refine hK.out _ _ (by first | exact hS.call hb | exact hS.set _) (fun hT => ?_)
        clear hK hb hS
        have hS := hT
        clear hT
        refine wpAnyH_done (by kernel_rfl) ?_ _
        refine only_done ?_
        have HS := Lib.hid hS
        clear hS crr frr
        gi_wp2_with fail
        have hK' := HS.out.d
        refine ⟨by simp, .inl ⟨_, _, rfl, run_takeDeferred hK', ?_⟩⟩
        have hc5 := cell_kept (hvr.set (.bool true)).cell (grownBy_putObj' _ D (.deferred none)) (fun r e => by cases e; exact ⟨_, hK', rfl⟩)
        refine ⟨.bool true, ?_, rfl, HS.out.old.trans (belowK_b (w := w) (Nat.le_refl _) _ D _ _ (by have := HS.out.hD; have := HS.out.lt; omega) hK' rfl rfl)⟩
        simp [results, Try.f5, go_sem, hc5]
    case stop =>
      rintro D c pre W' _ hp h _
      exact absurd hp h

set_option linter.unusedVariables false in
theorem tiles_law (r0 r1 r2 r3 x y t : Int) (w : World) (g0 : (Lit.int .u32 r0).wf = true) (g1 : (Lit.int .u32 r1).wf = true) (g2 : (Lit.int .u32 r2).wf = true) (g3 : (Lit.int .u32 r3).wf = true) (g4 : (Lit.int .u32 x).wf = true) (g5 : (Lit.int .u32 y).wf = true) (g6 : (Lit.int .i64 t).wf = true) :
    Calls Try.prog 5 #[.agg #[.int .u32 r0, .int .u32 r1, .int .u32 r2, .int .u32 r3], .int .u32 x, .int .u32 y, .int .i64 t] w fun e w' => e = .returned (.bool true) ∧ Below w.heap.size w w' :=
  tiles_any r0 r1 r2 r3 x y t w ⟨(u32_wf g0).1, (u32_wf g0).2, (u32_wf g1).1, (u32_wf g1).2, (u32_wf g2).1, (u32_wf g2).2, (u32_wf g3).1, (u32_wf g3).2⟩ (u32_wf g4) (u32_wf g5)
end Go.Proofs.Ytiapllplhjhliaa
