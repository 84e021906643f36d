/-
  The document's Halves.
  Conditions: a box that is right.
-/
import Derived.Test.YtgjkbnplpioloaaX6
namespace Go.Proofs.Ytgjkbnplpioloaa
open Go.RowKit
attribute [local go_sem] Oper.semAt_some
set_option maxRecDepth 20000

set_option maxHeartbeats 12800000 in
theorem rHalves_any (b : Bx) (w : World) (h : RtX b) : Calls Try.prog 17 #[.agg (bxA b)] w (RetXX w (halvesX b)) := by
  have HV0 := Lib.hid (HvS.start w 26 b)
  obtain ⟨x0, y0, x1, y1⟩ := b
  have hr := right_small h
  clear h
  obtain ⟨cw, hcw⟩ : ∃ cw, x1 - x0 = cw := ⟨_, rfl⟩
  obtain ⟨ch, hch⟩ : ∃ ch, y1 - y0 = ch := ⟨_, rfl⟩
  have e1 : wrap64 cw = cw := by unfold wrap64; omega
  have e2 : wrap64 ch = ch := by unfold wrap64; omega
  have e1i : IntKind.i64.wrap cw = cw := by rw [IntKind.wrap_i64]; omega
  have e2i : IntKind.i64.wrap ch = ch := by rw [IntKind.wrap_i64]; omega
  have HO : Hid (oneX ⟨x0, y0, x1, y1⟩ = (decide (cw < 2) && decide (ch < 2))) := by show _ = _; unfold oneX wX hX; simp only [hcw, hch]
  go_enter Try.func17, Try.ntmps17
  go_upto_region 1 with fail
  have hz0 : (#[Value.int .i64 0, .int .i64 0, .int .i64 0, .int .i64 0] : Array Value) = bxA zbx := rfl
  rw [hz0]
  clear hz0
  generalize (((w.alloc (.cells (bxA ⟨x0, y0, x1, y1⟩) 26)).alloc (.cells (bxA zbx) 26)).alloc (.cells (bxA zbx) 26)) = z0 at HV0 ⊢
  have q0 : z0.cell? ⟨w.heap.size, 0, none⟩ = some (.int .i64 x0) := HV0.out.b.cell 0
  have q1 : z0.cell? ⟨w.heap.size, 1, none⟩ = some (.int .i64 y0) := HV0.out.b.cell 1
  have q2 : z0.cell? ⟨w.heap.size, 2, none⟩ = some (.int .i64 x1) := HV0.out.b.cell 2
  have q3 : z0.cell? ⟨w.heap.size, 3, none⟩ = some (.int .i64 y1) := HV0.out.b.cell 3
  by_cases hc1 : cw < 2
  · by_cases hc2 : ch < 2
    · have HE : Hid (halvesX ⟨x0, y0, x1, y1⟩ = (⟨x0, y0, x1, y1⟩, ⟨x0, y0, x1, y1⟩, false)) := by show _ = _; unfold halvesX; rw [HO.out, decide_eq_true hc1, decide_eq_true hc2]; rfl
      go_upto_region 6 with (first
        | ((with_reducible show wpList _ _ _ (⟨some 19, _, _, _, _, _⟩ :: _) _ _); refine wpList_load_at 26 19 (.tmp 1) rfl rfl rfl w.heap.size rfl (bxA ⟨x0, y0, x1, y1⟩) 4 strXr rfl HV0.out.b ?_)
        | ((with_reducible show wpList _ _ _ (⟨none, _, _, _, _, _⟩ :: _) _ _); refine wpList_store_new 26 (.tmp 7) (.tmp 19) rfl rfl rfl z0.heap.size z0 rfl rfl (bxA ⟨x0, y0, x1, y1⟩) _ 4 rfl strXr rfl rfl (bxA_one _) rfl ?_; have HL0 := Lib.hid (At.new z0 26 (bxA ⟨x0, y0, x1, y1⟩)); have HV1 := Lib.hid (HV0.out.call ((Below.refl z0.heap.size z0).alloc (Nat.le_refl _) (.cells (bxA ⟨x0, y0, x1, y1⟩) 26))); have hgl := HV0.out.r2.lt; generalize z0.alloc (.cells (bxA ⟨x0, y0, x1, y1⟩) 26) = za at HL0 HV1 ⊢; generalize z0.heap.size = ga at HL0 hgl ⊢)
        | ((with_reducible show wpList _ _ _ (⟨some 20, _, _, _, _, _⟩ :: _) _ _); refine wpList_load_at 26 20 (.tmp 1) rfl rfl rfl w.heap.size rfl (bxA ⟨x0, y0, x1, y1⟩) 4 strXr rfl HV1.out.b ?_)
        | ((with_reducible show wpList _ _ _ (⟨none, _, _, _, _, _⟩ :: _) _ _); refine wpList_store_new 26 (.tmp 8) (.tmp 20) rfl rfl rfl za.heap.size za rfl rfl (bxA ⟨x0, y0, x1, y1⟩) _ 4 rfl strXr rfl rfl (bxA_one _) rfl ?_; have HH := Lib.hid (At.new za 26 (bxA ⟨x0, y0, x1, y1⟩)); have HL := Lib.hid (HL0.out.alloc (.cells (bxA ⟨x0, y0, x1, y1⟩) 26)); have HV := Lib.hid (HV1.out.call ((Below.refl za.heap.size za).alloc (Nat.le_refl _) (.cells (bxA ⟨x0, y0, x1, y1⟩) 26))); have hgh := HV1.out.r2.lt; have hlh : ga < za.heap.size := HL0.out.lt; generalize za.alloc (.cells (bxA ⟨x0, y0, x1, y1⟩) 26) = u0 at HL HH HV ⊢; generalize za.heap.size = gb at HH hgh hlh ⊢)
        )
      have hS0 : At u0.drew (ga) 26 (bxA ⟨x0, y0, x1, y1⟩) ∧ At u0.drew (gb) 26 (bxA ⟨x0, y0, x1, y1⟩) := ⟨HL.out, HH.out⟩
      have HP0 : Hid (HvS w 26 ⟨x0, y0, x1, y1⟩ zbx zbx u0.drew) := ⟨HV.out.b, HV.out.r1, HV.out.r2, HV.out.bel.drew⟩
      refine wp_region_held_drew (S := fun wz => At wz (ga) 26 (bxA ⟨x0, y0, x1, y1⟩) ∧ At wz (gb) 26 (bxA ⟨x0, y0, x1, y1⟩)) (by kernel_rfl) hS0 (fun hS => ?_)
      clear hS0
      generalize u0.drew = yd at HP0 hS ⊢
      refine tkS (v := .agg (bxA ⟨x0, y0, x1, y1⟩)) 0 hS ?_ (hy := by intro wz hz; exact exec_load_at 26 (.tmp 7) rfl (ga) rfl (bxA ⟨x0, y0, x1, y1⟩) 4 strXr rfl hz.1)
      refine tkS (v := .agg (bxA ⟨x0, y0, x1, y1⟩)) 1 hS ?_ (hy := by intro wz hz; exact exec_load_at 26 (.tmp 8) rfl (gb) rfl (bxA ⟨x0, y0, x1, y1⟩) 4 strXr rfl hz.2)
      refine wpAnyH_ready (rs := [2]) (by kernel_rfl) (by simp) ?_
      refine AllReadyH.cons rfl (fun K hK => ?_) AllReadyH.nil
      rw [if_pos (by rfl)]
      refine wp_store_at 26 (.tmp 2) (.tmp 27) rfl rfl (w.heap.size + 1) rfl (bxA ⟨x0, y0, x1, y1⟩) (bxA zbx) 4 rfl strXr rfl rfl (bxA_one _) HP0.out.r1 ?_
      intro w8 h8 g8
      have HP8 := Lib.hid (HP0.out.put1 h8 g8)
      have hT8 : At w8 (ga) 26 (bxA ⟨x0, y0, x1, y1⟩) ∧ At w8 (gb) 26 (bxA ⟨x0, y0, x1, y1⟩) := ⟨hS.1.grown g8 (fun e => by injection e with e; omega), hS.2.grown g8 (fun e => by injection e with e; omega)⟩
      clear h8 g8
      refine hK.out _ _ (hT8) (fun hT => ?_)
      clear hK hS
      have hS := hT
      clear hT
      refine wpAnyH_ready (rs := [3]) (by kernel_rfl) (by simp) ?_
      refine AllReadyH.cons rfl (fun K hK => ?_) AllReadyH.nil
      rw [if_pos (by rfl)]
      refine wp_store_at 26 (.tmp 3) (.tmp 28) rfl rfl (w.heap.size + 2) rfl (bxA ⟨x0, y0, x1, y1⟩) (bxA zbx) 4 rfl strXr rfl rfl (bxA_one _) HP8.out.r2 ?_
      intro w9 h9 g9
      have HP9 := Lib.hid (HP8.out.put2 h9 g9)
      have hT9 : At w9 (ga) 26 (bxA ⟨x0, y0, x1, y1⟩) ∧ At w9 (gb) 26 (bxA ⟨x0, y0, x1, y1⟩) := ⟨hS.1.grown g9 (fun e => by injection e with e; omega), hS.2.grown g9 (fun e => by injection e with e; omega)⟩
      clear h9 g9
      refine hK.out _ _ (hT9) (fun hT => ?_)
      clear hK hS
      have hS := hT
      clear hT
      refine tkS 4 hS ?_
      refine wpAnyH_done (by kernel_rfl) ?_ _
      clear hS
      go_wp2_with fail
      rw [HE.out]
      exact bodyPost_ret (results_cct (g := w.heap.size + 1) (gq := w.heap.size + 2) rfl rfl HP9.out.r1 HP9.out.r2 strXr rfl rfl rfl rfl) rfl ⟨rfl, HP9.out.bel⟩
    · have HE0 : Hid (halvesX ⟨x0, y0, x1, y1⟩ = (loX ⟨x0, y0, x1, y1⟩, hiX ⟨x0, y0, x1, y1⟩, true)) := by show _ = _; unfold halvesX; rw [HO.out, decide_eq_true hc1, decide_eq_false hc2]; rfl
      clear HO
      go_upto_region 7 with (first
        | ((with_reducible show wpList _ _ _ (⟨some 19, _, _, _, _, _⟩ :: _) _ _); refine wpList_load_at 26 19 (.tmp 1) rfl rfl rfl w.heap.size rfl (bxA ⟨x0, y0, x1, y1⟩) 4 strXr rfl HV0.out.b ?_)
        | ((with_reducible show wpList _ _ _ (⟨none, _, _, _, _, _⟩ :: _) _ _); refine wpList_store_new 26 (.tmp 7) (.tmp 19) rfl rfl rfl z0.heap.size z0 rfl rfl (bxA ⟨x0, y0, x1, y1⟩) _ 4 rfl strXr rfl rfl (bxA_one _) rfl ?_; have HL0 := Lib.hid (At.new z0 26 (bxA ⟨x0, y0, x1, y1⟩)); have HV1 := Lib.hid (HV0.out.call ((Below.refl z0.heap.size z0).alloc (Nat.le_refl _) (.cells (bxA ⟨x0, y0, x1, y1⟩) 26))); have hgl := HV0.out.r2.lt; generalize z0.alloc (.cells (bxA ⟨x0, y0, x1, y1⟩) 26) = za at HL0 HV1 ⊢; generalize z0.heap.size = ga at HL0 hgl ⊢)
        | ((with_reducible show wpList _ _ _ (⟨some 20, _, _, _, _, _⟩ :: _) _ _); refine wpList_load_at 26 20 (.tmp 1) rfl rfl rfl w.heap.size rfl (bxA ⟨x0, y0, x1, y1⟩) 4 strXr rfl HV1.out.b ?_)
        | ((with_reducible show wpList _ _ _ (⟨none, _, _, _, _, _⟩ :: _) _ _); refine wpList_store_new 26 (.tmp 8) (.tmp 20) rfl rfl rfl za.heap.size za rfl rfl (bxA ⟨x0, y0, x1, y1⟩) _ 4 rfl strXr rfl rfl (bxA_one _) rfl ?_; have HH := Lib.hid (At.new za 26 (bxA ⟨x0, y0, x1, y1⟩)); have HL := Lib.hid (HL0.out.alloc (.cells (bxA ⟨x0, y0, x1, y1⟩) 26)); have HV := Lib.hid (HV1.out.call ((Below.refl za.heap.size za).alloc (Nat.le_refl _) (.cells (bxA ⟨x0, y0, x1, y1⟩) 26))); have hgh := HV1.out.r2.lt; have hlh : ga < za.heap.size := HL0.out.lt; generalize za.alloc (.cells (bxA ⟨x0, y0, x1, y1⟩) 26) = u0 at HL HH HV ⊢; generalize za.heap.size = gb at HH hgh hlh ⊢)
        )
      have b0 : u0.cell? ⟨w.heap.size, 0, none⟩ = some (.int .i64 x0) := HV.out.b.cell 0
      have b1 : u0.cell? ⟨w.heap.size, 1, none⟩ = some (.int .i64 y0) := HV.out.b.cell 1
      clear q0 q1 q2 q3
      have hwd : ¬ ch ≤ cw := by omega
      obtain ⟨hf, hhf⟩ : ∃ hf, ch / 2 = hf := ⟨_, rfl⟩
      have d1 : Int.tdiv ch 2 = hf := by rw [Int.tdiv_eq_ediv_of_nonneg (by omega)]; exact hhf
      have d2 : wrap64 hf = hf := by unfold wrap64; omega
      have d2i : IntKind.i64.wrap hf = hf := by rw [IntKind.wrap_i64]; omega
      obtain ⟨md, hmd⟩ : ∃ md, y0 + hf = md := ⟨_, rfl⟩
      have d3 : wrap64 md = md := by unfold wrap64; omega
      have d3i : IntKind.i64.wrap md = md := by rw [IntKind.wrap_i64]; omega
      have HE : Hid (halvesX ⟨x0, y0, x1, y1⟩ = (⟨x0, y0, x1, md⟩, ⟨x0, md, x1, y1⟩, true)) := by
        show _ = _
        rw [HE0.out]
        unfold loX hiX wX hX
        simp only [hcw, hch]
        rw [if_neg hwd, if_neg hwd]
        rw [hhf, hmd]
      clear hhf HE0 hr hcw hch
      have cl : u0.cell? ⟨ga, 3, none⟩ = some (.int .i64 y1) := HL.out.cell 3
      have fl : u0.frozen? ⟨ga, 3, none⟩ = false := HL.out.frozen 3
      go_upto_region 12 with fail
      clear cl fl
      have HV2 := Lib.hid (HV.out.cell hgl 3 (.int .i64 md))
      have HL2 := Lib.hid (HL.out.set 3 (.int .i64 md))
      have HH2 := Lib.hid (HH.out.other (p := ⟨ga, 3, none⟩) (by show gb ≠ ga; omega) (.int .i64 md))
      generalize u0.setCell ⟨ga, 3, none⟩ (.int .i64 md) = u2 at HV2 HL2 HH2 ⊢
      have cl : u2.cell? ⟨ga, 3, none⟩ = some (.int .i64 md) := HL2.out.cell 3
      have ch : u2.cell? ⟨gb, 1, none⟩ = some (.int .i64 y0) := HH2.out.cell 1
      have fh : u2.frozen? ⟨gb, 1, none⟩ = false := HH2.out.frozen 1
      go_upto_region 13 with fail
      clear cl ch fh
      have HV3 := Lib.hid (HV2.out.cell hgh 1 (.int .i64 md))
      have HH3 : Hid (At (u2.setCell ⟨gb, 1, none⟩ (.int .i64 md)) gb 26 (bxA ⟨x0, md, x1, y1⟩)) := HH2.out.set 1 (.int .i64 md)
      have HL3 : Hid (At (u2.setCell ⟨gb, 1, none⟩ (.int .i64 md)) ga 26 (bxA ⟨x0, y0, x1, md⟩)) := HL2.out.other (p := ⟨gb, 1, none⟩) (by show ga ≠ gb; omega) (.int .i64 md)
      generalize u2.setCell ⟨gb, 1, none⟩ (.int .i64 md) = u3 at HV3 HL3 HH3 ⊢
      have hS0 : At u3.drew (ga) 26 (bxA ⟨x0, y0, x1, md⟩) ∧ At u3.drew (gb) 26 (bxA ⟨x0, md, x1, y1⟩) := ⟨HL3.out, HH3.out⟩
      have HP0 : Hid (HvS w 26 ⟨x0, y0, x1, y1⟩ zbx zbx u3.drew) := ⟨HV3.out.b, HV3.out.r1, HV3.out.r2, HV3.out.bel.drew⟩
      refine wp_region_held_drew (S := fun wz => At wz (ga) 26 (bxA ⟨x0, y0, x1, md⟩) ∧ At wz (gb) 26 (bxA ⟨x0, md, x1, y1⟩)) (by kernel_rfl) hS0 (fun hS => ?_)
      clear hS0
      generalize u3.drew = yd at HP0 hS ⊢
      refine tkS (v := .agg (bxA ⟨x0, y0, x1, md⟩)) 0 hS ?_ (hy := by intro wz hz; exact exec_load_at 26 (.tmp 7) rfl (ga) rfl (bxA ⟨x0, y0, x1, md⟩) 4 strXr rfl hz.1)
      refine tkS (v := .agg (bxA ⟨x0, md, x1, y1⟩)) 1 hS ?_ (hy := by intro wz hz; exact exec_load_at 26 (.tmp 8) rfl (gb) rfl (bxA ⟨x0, md, x1, y1⟩) 4 strXr rfl hz.2)
      refine wpAnyH_ready (rs := [2]) (by kernel_rfl) (by simp) ?_
      refine AllReadyH.cons rfl (fun K hK => ?_) AllReadyH.nil
      rw [if_pos (by rfl)]
      refine wp_store_at 26 (.tmp 2) (.tmp 52) rfl rfl (w.heap.size + 1) rfl (bxA ⟨x0, y0, x1, md⟩) (bxA zbx) 4 rfl strXr rfl rfl (bxA_one _) HP0.out.r1 ?_
      intro w8 h8 g8
      have HP8 := Lib.hid (HP0.out.put1 h8 g8)
      have hT8 : At w8 (ga) 26 (bxA ⟨x0, y0, x1, md⟩) ∧ At w8 (gb) 26 (bxA ⟨x0, md, x1, y1⟩) := ⟨hS.1.grown g8 (fun e => by injection e with e; omega), hS.2.grown g8 (fun e => by injection e with e; omega)⟩
      clear h8 g8
      refine hK.out _ _ (hT8) (fun hT => ?_)
      clear hK hS
      have hS := hT
      clear hT
      refine wpAnyH_ready (rs := [3]) (by kernel_rfl) (by simp) ?_
      refine AllReadyH.cons rfl (fun K hK => ?_) AllReadyH.nil
      rw [if_pos (by rfl)]
      refine wp_store_at 26 (.tmp 3) (.tmp 53) rfl rfl (w.heap.size + 2) rfl (bxA ⟨x0, md, x1, y1⟩) (bxA zbx) 4 rfl strXr rfl rfl (bxA_one _) HP8.out.r2 ?_
      intro w9 h9 g9
      have HP9 := Lib.hid (HP8.out.put2 h9 g9)
      have hT9 : At w9 (ga) 26 (bxA ⟨x0, y0, x1, md⟩) ∧ At w9 (gb) 26 (bxA ⟨x0, md, x1, y1⟩) := ⟨hS.1.grown g9 (fun e => by injection e with e; omega), hS.2.grown g9 (fun e => by injection e with e; omega)⟩
      clear h9 g9
      refine hK.out _ _ (hT9) (fun hT => ?_)
      clear hK hS
      have hS := hT
      clear hT
      refine tkS 4 hS ?_
      refine wpAnyH_done (by kernel_rfl) ?_ _
      clear hS
      go_wp2_with fail
      rw [HE.out]
      exact bodyPost_ret (results_cct (g := w.heap.size + 1) (gq := w.heap.size + 2) rfl rfl HP9.out.r1 HP9.out.r2 strXr rfl rfl rfl rfl) rfl ⟨rfl, HP9.out.bel⟩
  · have HE0 : Hid (halvesX ⟨x0, y0, x1, y1⟩ = (loX ⟨x0, y0, x1, y1⟩, hiX ⟨x0, y0, x1, y1⟩, true)) := by show _ = _; unfold halvesX; rw [HO.out, decide_eq_false hc1]; rfl
    clear HO
    go_upto_region 7 with (first
      | ((with_reducible show wpList _ _ _ (⟨some 19, _, _, _, _, _⟩ :: _) _ _); refine wpList_load_at 26 19 (.tmp 1) rfl rfl rfl w.heap.size rfl (bxA ⟨x0, y0, x1, y1⟩) 4 strXr rfl HV0.out.b ?_)
      | ((with_reducible show wpList _ _ _ (⟨none, _, _, _, _, _⟩ :: _) _ _); refine wpList_store_new 26 (.tmp 7) (.tmp 19) rfl rfl rfl z0.heap.size z0 rfl rfl (bxA ⟨x0, y0, x1, y1⟩) _ 4 rfl strXr rfl rfl (bxA_one _) rfl ?_; have HL0 := Lib.hid (At.new z0 26 (bxA ⟨x0, y0, x1, y1⟩)); have HV1 := Lib.hid (HV0.out.call ((Below.refl z0.heap.size z0).alloc (Nat.le_refl _) (.cells (bxA ⟨x0, y0, x1, y1⟩) 26))); have hgl := HV0.out.r2.lt; generalize z0.alloc (.cells (bxA ⟨x0, y0, x1, y1⟩) 26) = za at HL0 HV1 ⊢; generalize z0.heap.size = ga at HL0 hgl ⊢)
      | ((with_reducible show wpList _ _ _ (⟨some 20, _, _, _, _, _⟩ :: _) _ _); refine wpList_load_at 26 20 (.tmp 1) rfl rfl rfl w.heap.size rfl (bxA ⟨x0, y0, x1, y1⟩) 4 strXr rfl HV1.out.b ?_)
      | ((with_reducible show wpList _ _ _ (⟨none, _, _, _, _, _⟩ :: _) _ _); refine wpList_store_new 26 (.tmp 8) (.tmp 20) rfl rfl rfl za.heap.size za rfl rfl (bxA ⟨x0, y0, x1, y1⟩) _ 4 rfl strXr rfl rfl (bxA_one _) rfl ?_; have HH := Lib.hid (At.new za 26 (bxA ⟨x0, y0, x1, y1⟩)); have HL := Lib.hid (HL0.out.alloc (.cells (bxA ⟨x0, y0, x1, y1⟩) 26)); have HV := Lib.hid (HV1.out.call ((Below.refl za.heap.size za).alloc (Nat.le_refl _) (.cells (bxA ⟨x0, y0, x1, y1⟩) 26))); have hgh := HV1.out.r2.lt; have hlh : ga < za.heap.size := HL0.out.lt; generalize za.alloc (.cells (bxA ⟨x0, y0, x1, y1⟩) 26) = u0 at HL HH HV ⊢; generalize za.heap.size = gb at HH hgh hlh ⊢)
      )
    have b0 : u0.cell? ⟨w.heap.size, 0, none⟩ = some (.int .i64 x0) := HV.out.b.cell 0
    have b1 : u0.cell? ⟨w.heap.size, 1, none⟩ = some (.int .i64 y0) := HV.out.b.cell 1
    clear q0 q1 q2 q3
    by_cases hwd : ch ≤ cw
    · obtain ⟨hf, hhf⟩ : ∃ hf, cw / 2 = hf := ⟨_, rfl⟩
      have d1 : Int.tdiv cw 2 = hf := by rw [Int.tdiv_eq_ediv_of_nonneg (by omega)]; exact hhf
      have d2 : wrap64 hf = hf := by unfold wrap64; omega
      have d2i : IntKind.i64.wrap hf = hf := by rw [IntKind.wrap_i64]; omega
      obtain ⟨md, hmd⟩ : ∃ md, x0 + hf = md := ⟨_, rfl⟩
      have d3 : wrap64 md = md := by unfold wrap64; omega
      have d3i : IntKind.i64.wrap md = md := by rw [IntKind.wrap_i64]; omega
      have HE : Hid (halvesX ⟨x0, y0, x1, y1⟩ = (⟨x0, y0, md, y1⟩, ⟨md, y0, x1, y1⟩, true)) := by
        show _ = _
        rw [HE0.out]
        unfold loX hiX wX hX
        simp only [hcw, hch]
        rw [if_pos hwd, if_pos hwd]
        rw [hhf, hmd]
      clear hhf HE0 hr hcw hch
      have cl : u0.cell? ⟨ga, 2, none⟩ = some (.int .i64 x1) := HL.out.cell 2
      have fl : u0.frozen? ⟨ga, 2, none⟩ = false := HL.out.frozen 2
      go_upto_region 9 with fail
      clear cl fl
      have HV2 := Lib.hid (HV.out.cell hgl 2 (.int .i64 md))
      have HL2 := Lib.hid (HL.out.set 2 (.int .i64 md))
      have HH2 := Lib.hid (HH.out.other (p := ⟨ga, 2, none⟩) (by show gb ≠ ga; omega) (.int .i64 md))
      generalize u0.setCell ⟨ga, 2, none⟩ (.int .i64 md) = u2 at HV2 HL2 HH2 ⊢
      have cl : u2.cell? ⟨ga, 2, none⟩ = some (.int .i64 md) := HL2.out.cell 2
      have ch : u2.cell? ⟨gb, 0, none⟩ = some (.int .i64 x0) := HH2.out.cell 0
      have fh : u2.frozen? ⟨gb, 0, none⟩ = false := HH2.out.frozen 0
      go_upto_region 10 with fail
      clear cl ch fh
      have HV3 := Lib.hid (HV2.out.cell hgh 0 (.int .i64 md))
      have HH3 : Hid (At (u2.setCell ⟨gb, 0, none⟩ (.int .i64 md)) gb 26 (bxA ⟨md, y0, x1, y1⟩)) := HH2.out.set 0 (.int .i64 md)
      have HL3 : Hid (At (u2.setCell ⟨gb, 0, none⟩ (.int .i64 md)) ga 26 (bxA ⟨x0, y0, md, y1⟩)) := HL2.out.other (p := ⟨gb, 0, none⟩) (by show ga ≠ gb; omega) (.int .i64 md)
      generalize u2.setCell ⟨gb, 0, none⟩ (.int .i64 md) = u3 at HV3 HL3 HH3 ⊢
      have hS0 : At u3.drew (ga) 26 (bxA ⟨x0, y0, md, y1⟩) ∧ At u3.drew (gb) 26 (bxA ⟨md, y0, x1, y1⟩) := ⟨HL3.out, HH3.out⟩
      have HP0 : Hid (HvS w 26 ⟨x0, y0, x1, y1⟩ zbx zbx u3.drew) := ⟨HV3.out.b, HV3.out.r1, HV3.out.r2, HV3.out.bel.drew⟩
      refine wp_region_held_drew (S := fun wz => At wz (ga) 26 (bxA ⟨x0, y0, md, y1⟩) ∧ At wz (gb) 26 (bxA ⟨md, y0, x1, y1⟩)) (by kernel_rfl) hS0 (fun hS => ?_)
      clear hS0
      generalize u3.drew = yd at HP0 hS ⊢
      refine tkS (v := .agg (bxA ⟨x0, y0, md, y1⟩)) 0 hS ?_ (hy := by intro wz hz; exact exec_load_at 26 (.tmp 7) rfl (ga) rfl (bxA ⟨x0, y0, md, y1⟩) 4 strXr rfl hz.1)
      refine tkS (v := .agg (bxA ⟨md, y0, x1, y1⟩)) 1 hS ?_ (hy := by intro wz hz; exact exec_load_at 26 (.tmp 8) rfl (gb) rfl (bxA ⟨md, y0, x1, y1⟩) 4 strXr rfl hz.2)
      refine wpAnyH_ready (rs := [2]) (by kernel_rfl) (by simp) ?_
      refine AllReadyH.cons rfl (fun K hK => ?_) AllReadyH.nil
      rw [if_pos (by rfl)]
      refine wp_store_at 26 (.tmp 2) (.tmp 41) rfl rfl (w.heap.size + 1) rfl (bxA ⟨x0, y0, md, y1⟩) (bxA zbx) 4 rfl strXr rfl rfl (bxA_one _) HP0.out.r1 ?_
      intro w8 h8 g8
      have HP8 := Lib.hid (HP0.out.put1 h8 g8)
      have hT8 : At w8 (ga) 26 (bxA ⟨x0, y0, md, y1⟩) ∧ At w8 (gb) 26 (bxA ⟨md, y0, x1, y1⟩) := ⟨hS.1.grown g8 (fun e => by injection e with e; omega), hS.2.grown g8 (fun e => by injection e with e; omega)⟩
      clear h8 g8
      refine hK.out _ _ (hT8) (fun hT => ?_)
      clear hK hS
      have hS := hT
      clear hT
      refine wpAnyH_ready (rs := [3]) (by kernel_rfl) (by simp) ?_
      refine AllReadyH.cons rfl (fun K hK => ?_) AllReadyH.nil
      rw [if_pos (by rfl)]
      refine wp_store_at 26 (.tmp 3) (.tmp 42) rfl rfl (w.heap.size + 2) rfl (bxA ⟨md, y0, x1, y1⟩) (bxA zbx) 4 rfl strXr rfl rfl (bxA_one _) HP8.out.r2 ?_
      intro w9 h9 g9
      have HP9 := Lib.hid (HP8.out.put2 h9 g9)
      have hT9 : At w9 (ga) 26 (bxA ⟨x0, y0, md, y1⟩) ∧ At w9 (gb) 26 (bxA ⟨md, y0, x1, y1⟩) := ⟨hS.1.grown g9 (fun e => by injection e with e; omega), hS.2.grown g9 (fun e => by injection e with e; omega)⟩
      clear h9 g9
      refine hK.out _ _ (hT9) (fun hT => ?_)
      clear hK hS
      have hS := hT
      clear hT
      refine tkS 4 hS ?_
      refine wpAnyH_done (by kernel_rfl) ?_ _
      clear hS
      go_wp2_with fail
      rw [HE.out]
      exact bodyPost_ret (results_cct (g := w.heap.size + 1) (gq := w.heap.size + 2) rfl rfl HP9.out.r1 HP9.out.r2 strXr rfl rfl rfl rfl) rfl ⟨rfl, HP9.out.bel⟩
    · obtain ⟨hf, hhf⟩ : ∃ hf, ch / 2 = hf := ⟨_, rfl⟩
      have d1 : Int.tdiv ch 2 = hf := by rw [Int.tdiv_eq_ediv_of_nonneg (by omega)]; exact hhf
      have d2 : wrap64 hf = hf := by unfold wrap64; omega
      have d2i : IntKind.i64.wrap hf = hf := by rw [IntKind.wrap_i64]; omega
      obtain ⟨md, hmd⟩ : ∃ md, y0 + hf = md := ⟨_, rfl⟩
      have d3 : wrap64 md = md := by unfold wrap64; omega
      have d3i : IntKind.i64.wrap md = md := by rw [IntKind.wrap_i64]; omega
      have HE : Hid (halvesX ⟨x0, y0, x1, y1⟩ = (⟨x0, y0, x1, md⟩, ⟨x0, md, x1, y1⟩, true)) := by
        show _ = _
        rw [HE0.out]
        unfold loX hiX wX hX
        simp only [hcw, hch]
        rw [if_neg hwd, if_neg hwd]
        rw [hhf, hmd]
      clear hhf HE0 hr hcw hch
      have cl : u0.cell? ⟨ga, 3, none⟩ = some (.int .i64 y1) := HL.out.cell 3
      have fl : u0.frozen? ⟨ga, 3, none⟩ = false := HL.out.frozen 3
      go_upto_region 12 with fail
      clear cl fl
      have HV2 := Lib.hid (HV.out.cell hgl 3 (.int .i64 md))
      have HL2 := Lib.hid (HL.out.set 3 (.int .i64 md))
      have HH2 := Lib.hid (HH.out.other (p := ⟨ga, 3, none⟩) (by show gb ≠ ga; omega) (.int .i64 md))
      generalize u0.setCell ⟨ga, 3, none⟩ (.int .i64 md) = u2 at HV2 HL2 HH2 ⊢
      have cl : u2.cell? ⟨ga, 3, none⟩ = some (.int .i64 md) := HL2.out.cell 3
      have ch : u2.cell? ⟨gb, 1, none⟩ = some (.int .i64 y0) := HH2.out.cell 1
      have fh : u2.frozen? ⟨gb, 1, none⟩ = false := HH2.out.frozen 1
      go_upto_region 13 with fail
      clear cl ch fh
      have HV3 := Lib.hid (HV2.out.cell hgh 1 (.int .i64 md))
      have HH3 : Hid (At (u2.setCell ⟨gb, 1, none⟩ (.int .i64 md)) gb 26 (bxA ⟨x0, md, x1, y1⟩)) := HH2.out.set 1 (.int .i64 md)
      have HL3 : Hid (At (u2.setCell ⟨gb, 1, none⟩ (.int .i64 md)) ga 26 (bxA ⟨x0, y0, x1, md⟩)) := HL2.out.other (p := ⟨gb, 1, none⟩) (by show ga ≠ gb; omega) (.int .i64 md)
      generalize u2.setCell ⟨gb, 1, none⟩ (.int .i64 md) = u3 at HV3 HL3 HH3 ⊢
      have hS0 : At u3.drew (ga) 26 (bxA ⟨x0, y0, x1, md⟩) ∧ At u3.drew (gb) 26 (bxA ⟨x0, md, x1, y1⟩) := ⟨HL3.out, HH3.out⟩
      have HP0 : Hid (HvS w 26 ⟨x0, y0, x1, y1⟩ zbx zbx u3.drew) := ⟨HV3.out.b, HV3.out.r1, HV3.out.r2, HV3.out.bel.drew⟩
      refine wp_region_held_drew (S := fun wz => At wz (ga) 26 (bxA ⟨x0, y0, x1, md⟩) ∧ At wz (gb) 26 (bxA ⟨x0, md, x1, y1⟩)) (by kernel_rfl) hS0 (fun hS => ?_)
      clear hS0
      generalize u3.drew = yd at HP0 hS ⊢
      refine tkS (v := .agg (bxA ⟨x0, y0, x1, md⟩)) 0 hS ?_ (hy := by intro wz hz; exact exec_load_at 26 (.tmp 7) rfl (ga) rfl (bxA ⟨x0, y0, x1, md⟩) 4 strXr rfl hz.1)
      refine tkS (v := .agg (bxA ⟨x0, md, x1, y1⟩)) 1 hS ?_ (hy := by intro wz hz; exact exec_load_at 26 (.tmp 8) rfl (gb) rfl (bxA ⟨x0, md, x1, y1⟩) 4 strXr rfl hz.2)
      refine wpAnyH_ready (rs := [2]) (by kernel_rfl) (by simp) ?_
      refine AllReadyH.cons rfl (fun K hK => ?_) AllReadyH.nil
      rw [if_pos (by rfl)]
      refine wp_store_at 26 (.tmp 2) (.tmp 52) rfl rfl (w.heap.size + 1) rfl (bxA ⟨x0, y0, x1, md⟩) (bxA zbx) 4 rfl strXr rfl rfl (bxA_one _) HP0.out.r1 ?_
      intro w8 h8 g8
      have HP8 := Lib.hid (HP0.out.put1 h8 g8)
      have hT8 : At w8 (ga) 26 (bxA ⟨x0, y0, x1, md⟩) ∧ At w8 (gb) 26 (bxA ⟨x0, md, x1, y1⟩) := ⟨hS.1.grown g8 (fun e => by injection e with e; omega), hS.2.grown g8 (fun e => by injection e with e; omega)⟩
      clear h8 g8
      refine hK.out _ _ (hT8) (fun hT => ?_)
      clear hK hS
      have hS := hT
      clear hT
      refine wpAnyH_ready (rs := [3]) (by kernel_rfl) (by simp) ?_
      refine AllReadyH.cons rfl (fun K hK => ?_) AllReadyH.nil
      rw [if_pos (by rfl)]
      refine wp_store_at 26 (.tmp 3) (.tmp 53) rfl rfl (w.heap.size + 2) rfl (bxA ⟨x0, md, x1, y1⟩) (bxA zbx) 4 rfl strXr rfl rfl (bxA_one _) HP8.out.r2 ?_
      intro w9 h9 g9
      have HP9 := Lib.hid (HP8.out.put2 h9 g9)
      have hT9 : At w9 (ga) 26 (bxA ⟨x0, y0, x1, md⟩) ∧ At w9 (gb) 26 (bxA ⟨x0, md, x1, y1⟩) := ⟨hS.1.grown g9 (fun e => by injection e with e; omega), hS.2.grown g9 (fun e => by injection e with e; omega)⟩
      clear h9 g9
      refine hK.out _ _ (hT9) (fun hT => ?_)
      clear hK hS
      have hS := hT
      clear hT
      refine tkS 4 hS ?_
      refine wpAnyH_done (by kernel_rfl) ?_ _
      clear hS
      go_wp2_with fail
      rw [HE.out]
      exact bodyPost_ret (results_cct (g := w.heap.size + 1) (gq := w.heap.size + 2) rfl rfl HP9.out.r1 HP9.out.r2 strXr rfl rfl rfl rfl) rfl ⟨rfl, HP9.out.bel⟩
end Go.Proofs.Ytgjkbnplpioloaa
