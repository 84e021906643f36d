/-
  The document's Join.
  Conditions: none beyond those that each theorem names.
-/
import Derived.Test.YtgjkbnplpioloaaX3
namespace Go.Proofs.Ytgjkbnplpioloaa
open Go.RowKit
attribute [local go_sem] Oper.semAt_some
set_option maxRecDepth 20000

/-- While the last region runs. -/
structure RgJ (w : World) (gc : Nat) (a b c : Bx) (y : World) : Prop where
  a : At y w.heap.size 26 (bxA a)
  b : At y (w.heap.size + 1) 26 (bxA b)
  c : At y gc 26 (bxA c)
  bel : Below w.heap.size w y
theorem RgJ.call {w y z : World} {gc : Nat} {a b c : Bx} (h : RgJ w gc a b c y) (hb : Below y.heap.size y z) : RgJ w gc a b c z := ⟨h.a.under hb h.a.lt, h.b.under hb h.b.lt, h.c.under hb h.c.lt, h.bel.trans (hb.mono h.bel.size)⟩
theorem RgJ.store {w y z : World} {gc : Nat} {a b c : Bx} (h : RgJ w gc a b c y) (hg : w.heap.size + 2 < gc) (h2 : y.grownBy z (some (w.heap.size + 2))) : RgJ w gc a b c z :=
  ⟨h.a.grown h2 (fun e => by injection e with e; omega), h.b.grown h2 (fun e => by injection e with e; omega), h.c.grown h2 (fun e => by injection e with e; omega), h.bel.grown h2 h.bel.size (fun j e => by injection e with e; omega)⟩
set_option maxHeartbeats 25600000 in
theorem rJoin_any (a b : Bx) (w : World) : Calls Try.prog 14 #[.agg (bxA a), .agg (bxA b)] w (RetXB w (rJoinX a b)) := by
  have HJ0 := Lib.hid (JnS.start w 26 a b)
  obtain ⟨ra, hra⟩ : ∃ q, rightX a = q := ⟨_, rfl⟩
  obtain ⟨rb, hrb⟩ : ∃ q, rightX b = q := ⟨_, rfl⟩
  have HRA := Lib.hid hra
  have HRB := Lib.hid hrb
  have HE0 : Hid (rJoinX a b = if ra = false ∨ rb = false then (zbx, false) else (hullX a b, joinedB a b (hullX a b))) := by show _ = _; unfold rJoinX; rw [hra, hrb]
  clear hra hrb
  go_enter Try.func14, Try.ntmps14
  go_upto_region 1 with fail
  have hz0 : (#[Value.int .i64 0, .int .i64 0, .int .i64 0, .int .i64 0] : Array Value) = bxA zbx := rfl
  rw [hz0]
  clear hz0
  generalize (((w.alloc (.cells (bxA a) 26)).alloc (.cells (bxA b) 26)).alloc (.cells (bxA zbx) 26)) = z0 at HJ0 ⊢
  cases ra
  · have HE : Hid (rJoinX a b = (zbx, false)) := by show _ = _; rw [HE0.out]; rfl
    go_wp2_with (first
      | ((with_reducible show wpList _ _ _ (⟨some 7, _, _, _, _, _⟩ :: _) _ _); refine wpList_load_at 26 7 (.tmp 2) rfl rfl rfl (w.heap.size) rfl (bxA a) 4 strXr rfl HJ0.out.a ?_)
      )
    refine (rRight_any a _).mono ?_
    rintro e z1 ⟨rfl, hz⟩
    rw [HRA.out]
    have HJ1 := Lib.hid (HJ0.out.call hz)
    clear hz
    go_wp2_with (first
      | ((with_reducible show wpList _ _ _ (⟨none, _, _, _, _, _⟩ :: _) _ _); refine wpList_store_at 26 (.tmp 4) (.tmp 15) rfl rfl rfl (w.heap.size + 2) rfl (bxA zbx) (bxA zbx) 4 rfl strXr rfl rfl (bxA_one _) HJ1.out.r ?_; intro w9 h9 g9; have H9 := Lib.hid h9; have HB9 := Lib.hid (HJ1.out.bel.grown g9 HJ1.out.bel.size (fun j e => by injection e with e; omega)); clear h9 g9)
      )
    rw [HE.out]
    exact bodyPost_ret (results_at2 (g := w.heap.size + 2) rfl H9.out strXr rfl rfl rfl) rfl ⟨rfl, HB9.out⟩
  · cases rb
    · have HE : Hid (rJoinX a b = (zbx, false)) := by show _ = _; rw [HE0.out]; rfl
      go_wp2_with (first
        | ((with_reducible show wpList _ _ _ (⟨some 7, _, _, _, _, _⟩ :: _) _ _); refine wpList_load_at 26 7 (.tmp 2) rfl rfl rfl (w.heap.size) rfl (bxA a) 4 strXr rfl HJ0.out.a ?_)
        )
      refine (rRight_any a _).mono ?_
      rintro e z1 ⟨rfl, hz⟩
      rw [HRA.out]
      have HJ1 := Lib.hid (HJ0.out.call hz)
      clear hz
      go_wp2_with (first
        | ((with_reducible show wpList _ _ _ (⟨some 11, _, _, _, _, _⟩ :: _) _ _); refine tkL (v := .agg (bxA b)) ?_ (hy := exec_load_at 26 (.tmp 3) rfl (w.heap.size + 1) rfl (bxA b) 4 strXr rfl HJ1.out.b))
        )
      refine (rRight_any b _).mono ?_
      rintro e z2 ⟨rfl, hz⟩
      rw [HRB.out]
      have HJ2 := Lib.hid (HJ1.out.call hz)
      clear hz
      go_wp2_with (first
        | ((with_reducible show wpList _ _ _ (⟨none, _, _, _, _, _⟩ :: _) _ _); refine wpList_store_at 26 (.tmp 4) (.tmp 15) rfl rfl rfl (w.heap.size + 2) rfl (bxA zbx) (bxA zbx) 4 rfl strXr rfl rfl (bxA_one _) HJ2.out.r ?_; intro w9 h9 g9; have H9 := Lib.hid h9; have HB9 := Lib.hid (HJ2.out.bel.grown g9 HJ2.out.bel.size (fun j e => by injection e with e; omega)); clear h9 g9)
        )
      rw [HE.out]
      exact bodyPost_ret (results_at2 (g := w.heap.size + 2) rfl H9.out strXr rfl rfl rfl) rfl ⟨rfl, HB9.out⟩
    · have HE : Hid (rJoinX a b = (hullX a b, joinedB a b (hullX a b))) := by show _ = _; rw [HE0.out]; rfl
      clear HE0
      go_wp2_with (first
        | ((with_reducible show wpList _ _ _ (⟨some 7, _, _, _, _, _⟩ :: _) _ _); refine wpList_load_at 26 7 (.tmp 2) rfl rfl rfl (w.heap.size) rfl (bxA a) 4 strXr rfl HJ0.out.a ?_)
        )
      refine (rRight_any a _).mono ?_
      rintro e z1 ⟨rfl, hz⟩
      rw [HRA.out]
      have HJ1 := Lib.hid (HJ0.out.call hz)
      clear hz
      go_wp2_with (first
        | ((with_reducible show wpList _ _ _ (⟨some 11, _, _, _, _, _⟩ :: _) _ _); refine tkL (v := .agg (bxA b)) ?_ (hy := exec_load_at 26 (.tmp 3) rfl (w.heap.size + 1) rfl (bxA b) 4 strXr rfl HJ1.out.b))
        )
      refine (rRight_any b _).mono ?_
      rintro e z2 ⟨rfl, hz⟩
      rw [HRB.out]
      have HJ2 := Lib.hid (HJ1.out.call hz)
      clear hz
      go_upto_region 4 with (first
        | ((with_reducible show wpList _ _ _ (⟨some 16, _, _, _, _, _⟩ :: _) _ _); refine wpList_load_at 26 16 (.tmp 2) rfl rfl rfl (w.heap.size) rfl (bxA a) 4 strXr rfl HJ2.out.a ?_)
        | (refine wpList_store_new 26 (.tmp 6) (.tmp 16) rfl rfl rfl z2.heap.size z2 rfl rfl (bxA a) _ 4 rfl strXr rfl rfl (bxA_one a) rfl ?_; have HC3 := Lib.hid (At.new z2 26 (bxA a)); have HJ3 := Lib.hid (HJ2.out.call ((Below.refl z2.heap.size z2).alloc (Nat.le_refl _) (.cells (bxA a) 26))); have HG : Hid (w.heap.size + 2 < z2.heap.size) := HJ2.out.r.lt; generalize z2.alloc (.cells (bxA a) 26) = y3 at HC3 HJ3 ⊢; generalize z2.heap.size = gc at HC3 HG ⊢))
      have hgc := HG.out
      have ca0 : y3.cell? ⟨gc, 0, none⟩ = some (.int .i64 a.x0) := HC3.out.cell 0
      have ca1 : y3.cell? ⟨gc, 1, none⟩ = some (.int .i64 a.y0) := HC3.out.cell 1
      have ca2 : y3.cell? ⟨gc, 2, none⟩ = some (.int .i64 a.x1) := HC3.out.cell 2
      have ca3 : y3.cell? ⟨gc, 3, none⟩ = some (.int .i64 a.y1) := HC3.out.cell 3
      have cb0 : y3.cell? ⟨w.heap.size + 1, 0, none⟩ = some (.int .i64 b.x0) := HJ3.out.b.cell 0
      have cb1 : y3.cell? ⟨w.heap.size + 1, 1, none⟩ = some (.int .i64 b.y0) := HJ3.out.b.cell 1
      have cb2 : y3.cell? ⟨w.heap.size + 1, 2, none⟩ = some (.int .i64 b.x1) := HJ3.out.b.cell 2
      have cb3 : y3.cell? ⟨w.heap.size + 1, 3, none⟩ = some (.int .i64 b.y1) := HJ3.out.b.cell 3
      have f0 : y3.frozen? ⟨gc, 0, none⟩ = false := HC3.out.frozen 0
      have f1 : y3.frozen? ⟨gc, 1, none⟩ = false := HC3.out.frozen 1
      have f2 : y3.frozen? ⟨gc, 2, none⟩ = false := HC3.out.frozen 2
      have f3 : y3.frozen? ⟨gc, 3, none⟩ = false := HC3.out.frozen 3
      by_cases h0 : b.x0 < a.x0
      · by_cases h1 : b.y0 < a.y0
        · by_cases h2 : a.x1 < b.x1
          · by_cases h3 : a.y1 < b.y1
            · have HU : Hid (hullX a b = ⟨b.x0, b.y0, b.x1, b.y1⟩) := by show _ = _; unfold hullX; rw [if_pos h0]; rw [if_pos h1]; rw [if_pos h2]; rw [if_pos h3]
              go_upto_region 12 with fail
              have HJ4 : Hid (JnS w 26 a b ((((y3.setCell ⟨gc, 0, none⟩ (.int .i64 b.x0)).setCell ⟨gc, 1, none⟩ (.int .i64 b.y0)).setCell ⟨gc, 2, none⟩ (.int .i64 b.x1)).setCell ⟨gc, 3, none⟩ (.int .i64 b.y1))) := ⟨((((HJ3.out.a.other (p := ⟨gc, 0, none⟩) (by show w.heap.size ≠ gc; omega) (.int .i64 b.x0)).other (p := ⟨gc, 1, none⟩) (by show w.heap.size ≠ gc; omega) (.int .i64 b.y0)).other (p := ⟨gc, 2, none⟩) (by show w.heap.size ≠ gc; omega) (.int .i64 b.x1)).other (p := ⟨gc, 3, none⟩) (by show w.heap.size ≠ gc; omega) (.int .i64 b.y1)), ((((HJ3.out.b.other (p := ⟨gc, 0, none⟩) (by show w.heap.size + 1 ≠ gc; omega) (.int .i64 b.x0)).other (p := ⟨gc, 1, none⟩) (by show w.heap.size + 1 ≠ gc; omega) (.int .i64 b.y0)).other (p := ⟨gc, 2, none⟩) (by show w.heap.size + 1 ≠ gc; omega) (.int .i64 b.x1)).other (p := ⟨gc, 3, none⟩) (by show w.heap.size + 1 ≠ gc; omega) (.int .i64 b.y1)), ((((HJ3.out.r.other (p := ⟨gc, 0, none⟩) (by show w.heap.size + 2 ≠ gc; omega) (.int .i64 b.x0)).other (p := ⟨gc, 1, none⟩) (by show w.heap.size + 2 ≠ gc; omega) (.int .i64 b.y0)).other (p := ⟨gc, 2, none⟩) (by show w.heap.size + 2 ≠ gc; omega) (.int .i64 b.x1)).other (p := ⟨gc, 3, none⟩) (by show w.heap.size + 2 ≠ gc; omega) (.int .i64 b.y1)), ((((HJ3.out.bel.setCell (p := ⟨gc, 0, none⟩) (by show w.heap.size ≤ gc; omega) (.int .i64 b.x0)).setCell (p := ⟨gc, 1, none⟩) (by show w.heap.size ≤ gc; omega) (.int .i64 b.y0)).setCell (p := ⟨gc, 2, none⟩) (by show w.heap.size ≤ gc; omega) (.int .i64 b.x1)).setCell (p := ⟨gc, 3, none⟩) (by show w.heap.size ≤ gc; omega) (.int .i64 b.y1))⟩
              have HC4 : Hid (At ((((y3.setCell ⟨gc, 0, none⟩ (.int .i64 b.x0)).setCell ⟨gc, 1, none⟩ (.int .i64 b.y0)).setCell ⟨gc, 2, none⟩ (.int .i64 b.x1)).setCell ⟨gc, 3, none⟩ (.int .i64 b.y1)) gc 26 (bxA (hullX a b))) := by
                have := ((((HC3.out.set 0 (.int .i64 b.x0)).set 1 (.int .i64 b.y0)).set 2 (.int .i64 b.x1)).set 3 (.int .i64 b.y1))
                rw [HU.out]
                exact this
              generalize ((((y3.setCell ⟨gc, 0, none⟩ (.int .i64 b.x0)).setCell ⟨gc, 1, none⟩ (.int .i64 b.y0)).setCell ⟨gc, 2, none⟩ (.int .i64 b.x1)).setCell ⟨gc, 3, none⟩ (.int .i64 b.y1)) = y4 at HJ4 HC4 ⊢
              refine wp_region_held_drew (S := fun wz => RgJ w gc a b (hullX a b) wz ∧ ∃ cs : Array Value, cs.size = 4 ∧ At wz (w.heap.size + 2) 26 cs) (by kernel_rfl) ⟨⟨HJ4.out.a, HJ4.out.b, HC4.out, HJ4.out.bel.drew⟩, _, rfl, HJ4.out.r⟩ (fun hS => ?_)
              refine tkS (v := .agg (bxA (hullX a b))) 0 hS ?_ (hy := by intro wz hz; exact exec_load_at 26 (.tmp 6) rfl (gc) rfl (bxA (hullX a b)) 4 strXr rfl (hz.1.c))
              refine tkS (v := .agg (bxA a)) 1 hS ?_ (hy := by intro wz hz; exact exec_load_at 26 (.tmp 2) rfl (w.heap.size) rfl (bxA a) 4 strXr rfl (hz.1.a))
              refine tkS (v := .agg (bxA b)) 2 hS ?_ (hy := by intro wz hz; exact exec_load_at 26 (.tmp 3) rfl (w.heap.size + 1) rfl (bxA b) 4 strXr rfl (hz.1.b))
              refine tkS (v := .agg (bxA (hullX a b))) 3 hS ?_ (hy := by intro wz hz; exact exec_load_at 26 (.tmp 6) rfl (gc) rfl (bxA (hullX a b)) 4 strXr rfl (hz.1.c))
              refine wpAnyH_ready (rs := [4]) (by kernel_rfl) (by simp) ?_
              refine AllReadyH.cons rfl (fun K hK => ?_) AllReadyH.nil
              go_simp
              refine (joined_any a b (hullX a b) _).mono ?_
              rintro e z5 ⟨rfl, hb5⟩
              obtain ⟨cs5, hcs5, hr5⟩ := hS.2
              have hT5 : RgJ w gc a b (hullX a b) z5 ∧ ∃ cs : Array Value, cs.size = 4 ∧ At z5 (w.heap.size + 2) 26 cs := ⟨hS.1.call hb5, cs5, hcs5, hr5.under hb5 hr5.lt⟩
              clear hcs5 hr5 hb5
              refine hK.out _ _ (hT5) (fun hT => ?_)
              clear hK hS
              have hS := hT
              clear hT
              refine wpAnyH_ready (rs := [5]) (by kernel_rfl) (by simp) ?_
              refine AllReadyH.cons rfl (fun K hK => ?_) AllReadyH.nil
              rw [if_pos (by rfl)]
              obtain ⟨cs5, hcs5, hr5⟩ := hS.2
              refine wp_store_at 26 (.tmp 4) (.tmp 49) rfl rfl (w.heap.size + 2) rfl (bxA (hullX a b)) cs5 4 rfl strXr rfl hcs5 (bxA_one _) hr5 ?_
              intro w9 h9 g9
              have H9 := Lib.hid h9
              have HR9 := Lib.hid (hS.1.store (by have := HG.out; omega) g9)
              have hT9 : RgJ w gc a b (hullX a b) w9 ∧ ∃ cs : Array Value, cs.size = 4 ∧ At w9 (w.heap.size + 2) 26 cs := ⟨HR9.out, _, rfl, h9⟩
              clear h9 g9 hr5 hcs5
              refine hK.out _ _ (hT9) (fun hT => ?_)
              clear hK hS
              have hS := hT
              clear hT
              refine tkS 6 hS ?_
              refine wpAnyH_done (by kernel_rfl) ?_ _
              clear hS
              go_wp2_with fail
              rw [HE.out]
              exact bodyPost_ret (results_at2 (g := w.heap.size + 2) rfl H9.out strXr rfl rfl rfl) rfl ⟨rfl, HR9.out.bel⟩
            · have HU : Hid (hullX a b = ⟨b.x0, b.y0, b.x1, a.y1⟩) := by show _ = _; unfold hullX; rw [if_pos h0]; rw [if_pos h1]; rw [if_pos h2]; rw [if_neg h3]
              go_upto_region 12 with fail
              have HJ4 : Hid (JnS w 26 a b (((y3.setCell ⟨gc, 0, none⟩ (.int .i64 b.x0)).setCell ⟨gc, 1, none⟩ (.int .i64 b.y0)).setCell ⟨gc, 2, none⟩ (.int .i64 b.x1))) := ⟨(((HJ3.out.a.other (p := ⟨gc, 0, none⟩) (by show w.heap.size ≠ gc; omega) (.int .i64 b.x0)).other (p := ⟨gc, 1, none⟩) (by show w.heap.size ≠ gc; omega) (.int .i64 b.y0)).other (p := ⟨gc, 2, none⟩) (by show w.heap.size ≠ gc; omega) (.int .i64 b.x1)), (((HJ3.out.b.other (p := ⟨gc, 0, none⟩) (by show w.heap.size + 1 ≠ gc; omega) (.int .i64 b.x0)).other (p := ⟨gc, 1, none⟩) (by show w.heap.size + 1 ≠ gc; omega) (.int .i64 b.y0)).other (p := ⟨gc, 2, none⟩) (by show w.heap.size + 1 ≠ gc; omega) (.int .i64 b.x1)), (((HJ3.out.r.other (p := ⟨gc, 0, none⟩) (by show w.heap.size + 2 ≠ gc; omega) (.int .i64 b.x0)).other (p := ⟨gc, 1, none⟩) (by show w.heap.size + 2 ≠ gc; omega) (.int .i64 b.y0)).other (p := ⟨gc, 2, none⟩) (by show w.heap.size + 2 ≠ gc; omega) (.int .i64 b.x1)), (((HJ3.out.bel.setCell (p := ⟨gc, 0, none⟩) (by show w.heap.size ≤ gc; omega) (.int .i64 b.x0)).setCell (p := ⟨gc, 1, none⟩) (by show w.heap.size ≤ gc; omega) (.int .i64 b.y0)).setCell (p := ⟨gc, 2, none⟩) (by show w.heap.size ≤ gc; omega) (.int .i64 b.x1))⟩
              have HC4 : Hid (At (((y3.setCell ⟨gc, 0, none⟩ (.int .i64 b.x0)).setCell ⟨gc, 1, none⟩ (.int .i64 b.y0)).setCell ⟨gc, 2, none⟩ (.int .i64 b.x1)) gc 26 (bxA (hullX a b))) := by
                have := (((HC3.out.set 0 (.int .i64 b.x0)).set 1 (.int .i64 b.y0)).set 2 (.int .i64 b.x1))
                rw [HU.out]
                exact this
              generalize (((y3.setCell ⟨gc, 0, none⟩ (.int .i64 b.x0)).setCell ⟨gc, 1, none⟩ (.int .i64 b.y0)).setCell ⟨gc, 2, none⟩ (.int .i64 b.x1)) = y4 at HJ4 HC4 ⊢
              refine wp_region_held_drew (S := fun wz => RgJ w gc a b (hullX a b) wz ∧ ∃ cs : Array Value, cs.size = 4 ∧ At wz (w.heap.size + 2) 26 cs) (by kernel_rfl) ⟨⟨HJ4.out.a, HJ4.out.b, HC4.out, HJ4.out.bel.drew⟩, _, rfl, HJ4.out.r⟩ (fun hS => ?_)
              refine tkS (v := .agg (bxA (hullX a b))) 0 hS ?_ (hy := by intro wz hz; exact exec_load_at 26 (.tmp 6) rfl (gc) rfl (bxA (hullX a b)) 4 strXr rfl (hz.1.c))
              refine tkS (v := .agg (bxA a)) 1 hS ?_ (hy := by intro wz hz; exact exec_load_at 26 (.tmp 2) rfl (w.heap.size) rfl (bxA a) 4 strXr rfl (hz.1.a))
              refine tkS (v := .agg (bxA b)) 2 hS ?_ (hy := by intro wz hz; exact exec_load_at 26 (.tmp 3) rfl (w.heap.size + 1) rfl (bxA b) 4 strXr rfl (hz.1.b))
              refine tkS (v := .agg (bxA (hullX a b))) 3 hS ?_ (hy := by intro wz hz; exact exec_load_at 26 (.tmp 6) rfl (gc) rfl (bxA (hullX a b)) 4 strXr rfl (hz.1.c))
              refine wpAnyH_ready (rs := [4]) (by kernel_rfl) (by simp) ?_
              refine AllReadyH.cons rfl (fun K hK => ?_) AllReadyH.nil
              go_simp
              refine (joined_any a b (hullX a b) _).mono ?_
              rintro e z5 ⟨rfl, hb5⟩
              obtain ⟨cs5, hcs5, hr5⟩ := hS.2
              have hT5 : RgJ w gc a b (hullX a b) z5 ∧ ∃ cs : Array Value, cs.size = 4 ∧ At z5 (w.heap.size + 2) 26 cs := ⟨hS.1.call hb5, cs5, hcs5, hr5.under hb5 hr5.lt⟩
              clear hcs5 hr5 hb5
              refine hK.out _ _ (hT5) (fun hT => ?_)
              clear hK hS
              have hS := hT
              clear hT
              refine wpAnyH_ready (rs := [5]) (by kernel_rfl) (by simp) ?_
              refine AllReadyH.cons rfl (fun K hK => ?_) AllReadyH.nil
              rw [if_pos (by rfl)]
              obtain ⟨cs5, hcs5, hr5⟩ := hS.2
              refine wp_store_at 26 (.tmp 4) (.tmp 49) rfl rfl (w.heap.size + 2) rfl (bxA (hullX a b)) cs5 4 rfl strXr rfl hcs5 (bxA_one _) hr5 ?_
              intro w9 h9 g9
              have H9 := Lib.hid h9
              have HR9 := Lib.hid (hS.1.store (by have := HG.out; omega) g9)
              have hT9 : RgJ w gc a b (hullX a b) w9 ∧ ∃ cs : Array Value, cs.size = 4 ∧ At w9 (w.heap.size + 2) 26 cs := ⟨HR9.out, _, rfl, h9⟩
              clear h9 g9 hr5 hcs5
              refine hK.out _ _ (hT9) (fun hT => ?_)
              clear hK hS
              have hS := hT
              clear hT
              refine tkS 6 hS ?_
              refine wpAnyH_done (by kernel_rfl) ?_ _
              clear hS
              go_wp2_with fail
              rw [HE.out]
              exact bodyPost_ret (results_at2 (g := w.heap.size + 2) rfl H9.out strXr rfl rfl rfl) rfl ⟨rfl, HR9.out.bel⟩
          · by_cases h3 : a.y1 < b.y1
            · have HU : Hid (hullX a b = ⟨b.x0, b.y0, a.x1, b.y1⟩) := by show _ = _; unfold hullX; rw [if_pos h0]; rw [if_pos h1]; rw [if_neg h2]; rw [if_pos h3]
              go_upto_region 12 with fail
              have HJ4 : Hid (JnS w 26 a b (((y3.setCell ⟨gc, 0, none⟩ (.int .i64 b.x0)).setCell ⟨gc, 1, none⟩ (.int .i64 b.y0)).setCell ⟨gc, 3, none⟩ (.int .i64 b.y1))) := ⟨(((HJ3.out.a.other (p := ⟨gc, 0, none⟩) (by show w.heap.size ≠ gc; omega) (.int .i64 b.x0)).other (p := ⟨gc, 1, none⟩) (by show w.heap.size ≠ gc; omega) (.int .i64 b.y0)).other (p := ⟨gc, 3, none⟩) (by show w.heap.size ≠ gc; omega) (.int .i64 b.y1)), (((HJ3.out.b.other (p := ⟨gc, 0, none⟩) (by show w.heap.size + 1 ≠ gc; omega) (.int .i64 b.x0)).other (p := ⟨gc, 1, none⟩) (by show w.heap.size + 1 ≠ gc; omega) (.int .i64 b.y0)).other (p := ⟨gc, 3, none⟩) (by show w.heap.size + 1 ≠ gc; omega) (.int .i64 b.y1)), (((HJ3.out.r.other (p := ⟨gc, 0, none⟩) (by show w.heap.size + 2 ≠ gc; omega) (.int .i64 b.x0)).other (p := ⟨gc, 1, none⟩) (by show w.heap.size + 2 ≠ gc; omega) (.int .i64 b.y0)).other (p := ⟨gc, 3, none⟩) (by show w.heap.size + 2 ≠ gc; omega) (.int .i64 b.y1)), (((HJ3.out.bel.setCell (p := ⟨gc, 0, none⟩) (by show w.heap.size ≤ gc; omega) (.int .i64 b.x0)).setCell (p := ⟨gc, 1, none⟩) (by show w.heap.size ≤ gc; omega) (.int .i64 b.y0)).setCell (p := ⟨gc, 3, none⟩) (by show w.heap.size ≤ gc; omega) (.int .i64 b.y1))⟩
              have HC4 : Hid (At (((y3.setCell ⟨gc, 0, none⟩ (.int .i64 b.x0)).setCell ⟨gc, 1, none⟩ (.int .i64 b.y0)).setCell ⟨gc, 3, none⟩ (.int .i64 b.y1)) gc 26 (bxA (hullX a b))) := by
                have := (((HC3.out.set 0 (.int .i64 b.x0)).set 1 (.int .i64 b.y0)).set 3 (.int .i64 b.y1))
                rw [HU.out]
                exact this
              generalize (((y3.setCell ⟨gc, 0, none⟩ (.int .i64 b.x0)).setCell ⟨gc, 1, none⟩ (.int .i64 b.y0)).setCell ⟨gc, 3, none⟩ (.int .i64 b.y1)) = y4 at HJ4 HC4 ⊢
              refine wp_region_held_drew (S := fun wz => RgJ w gc a b (hullX a b) wz ∧ ∃ cs : Array Value, cs.size = 4 ∧ At wz (w.heap.size + 2) 26 cs) (by kernel_rfl) ⟨⟨HJ4.out.a, HJ4.out.b, HC4.out, HJ4.out.bel.drew⟩, _, rfl, HJ4.out.r⟩ (fun hS => ?_)
              refine tkS (v := .agg (bxA (hullX a b))) 0 hS ?_ (hy := by intro wz hz; exact exec_load_at 26 (.tmp 6) rfl (gc) rfl (bxA (hullX a b)) 4 strXr rfl (hz.1.c))
              refine tkS (v := .agg (bxA a)) 1 hS ?_ (hy := by intro wz hz; exact exec_load_at 26 (.tmp 2) rfl (w.heap.size) rfl (bxA a) 4 strXr rfl (hz.1.a))
              refine tkS (v := .agg (bxA b)) 2 hS ?_ (hy := by intro wz hz; exact exec_load_at 26 (.tmp 3) rfl (w.heap.size + 1) rfl (bxA b) 4 strXr rfl (hz.1.b))
              refine tkS (v := .agg (bxA (hullX a b))) 3 hS ?_ (hy := by intro wz hz; exact exec_load_at 26 (.tmp 6) rfl (gc) rfl (bxA (hullX a b)) 4 strXr rfl (hz.1.c))
              refine wpAnyH_ready (rs := [4]) (by kernel_rfl) (by simp) ?_
              refine AllReadyH.cons rfl (fun K hK => ?_) AllReadyH.nil
              go_simp
              refine (joined_any a b (hullX a b) _).mono ?_
              rintro e z5 ⟨rfl, hb5⟩
              obtain ⟨cs5, hcs5, hr5⟩ := hS.2
              have hT5 : RgJ w gc a b (hullX a b) z5 ∧ ∃ cs : Array Value, cs.size = 4 ∧ At z5 (w.heap.size + 2) 26 cs := ⟨hS.1.call hb5, cs5, hcs5, hr5.under hb5 hr5.lt⟩
              clear hcs5 hr5 hb5
              refine hK.out _ _ (hT5) (fun hT => ?_)
              clear hK hS
              have hS := hT
              clear hT
              refine wpAnyH_ready (rs := [5]) (by kernel_rfl) (by simp) ?_
              refine AllReadyH.cons rfl (fun K hK => ?_) AllReadyH.nil
              rw [if_pos (by rfl)]
              obtain ⟨cs5, hcs5, hr5⟩ := hS.2
              refine wp_store_at 26 (.tmp 4) (.tmp 49) rfl rfl (w.heap.size + 2) rfl (bxA (hullX a b)) cs5 4 rfl strXr rfl hcs5 (bxA_one _) hr5 ?_
              intro w9 h9 g9
              have H9 := Lib.hid h9
              have HR9 := Lib.hid (hS.1.store (by have := HG.out; omega) g9)
              have hT9 : RgJ w gc a b (hullX a b) w9 ∧ ∃ cs : Array Value, cs.size = 4 ∧ At w9 (w.heap.size + 2) 26 cs := ⟨HR9.out, _, rfl, h9⟩
              clear h9 g9 hr5 hcs5
              refine hK.out _ _ (hT9) (fun hT => ?_)
              clear hK hS
              have hS := hT
              clear hT
              refine tkS 6 hS ?_
              refine wpAnyH_done (by kernel_rfl) ?_ _
              clear hS
              go_wp2_with fail
              rw [HE.out]
              exact bodyPost_ret (results_at2 (g := w.heap.size + 2) rfl H9.out strXr rfl rfl rfl) rfl ⟨rfl, HR9.out.bel⟩
            · have HU : Hid (hullX a b = ⟨b.x0, b.y0, a.x1, a.y1⟩) := by show _ = _; unfold hullX; rw [if_pos h0]; rw [if_pos h1]; rw [if_neg h2]; rw [if_neg h3]
              go_upto_region 12 with fail
              have HJ4 : Hid (JnS w 26 a b ((y3.setCell ⟨gc, 0, none⟩ (.int .i64 b.x0)).setCell ⟨gc, 1, none⟩ (.int .i64 b.y0))) := ⟨((HJ3.out.a.other (p := ⟨gc, 0, none⟩) (by show w.heap.size ≠ gc; omega) (.int .i64 b.x0)).other (p := ⟨gc, 1, none⟩) (by show w.heap.size ≠ gc; omega) (.int .i64 b.y0)), ((HJ3.out.b.other (p := ⟨gc, 0, none⟩) (by show w.heap.size + 1 ≠ gc; omega) (.int .i64 b.x0)).other (p := ⟨gc, 1, none⟩) (by show w.heap.size + 1 ≠ gc; omega) (.int .i64 b.y0)), ((HJ3.out.r.other (p := ⟨gc, 0, none⟩) (by show w.heap.size + 2 ≠ gc; omega) (.int .i64 b.x0)).other (p := ⟨gc, 1, none⟩) (by show w.heap.size + 2 ≠ gc; omega) (.int .i64 b.y0)), ((HJ3.out.bel.setCell (p := ⟨gc, 0, none⟩) (by show w.heap.size ≤ gc; omega) (.int .i64 b.x0)).setCell (p := ⟨gc, 1, none⟩) (by show w.heap.size ≤ gc; omega) (.int .i64 b.y0))⟩
              have HC4 : Hid (At ((y3.setCell ⟨gc, 0, none⟩ (.int .i64 b.x0)).setCell ⟨gc, 1, none⟩ (.int .i64 b.y0)) gc 26 (bxA (hullX a b))) := by
                have := ((HC3.out.set 0 (.int .i64 b.x0)).set 1 (.int .i64 b.y0))
                rw [HU.out]
                exact this
              generalize ((y3.setCell ⟨gc, 0, none⟩ (.int .i64 b.x0)).setCell ⟨gc, 1, none⟩ (.int .i64 b.y0)) = y4 at HJ4 HC4 ⊢
              refine wp_region_held_drew (S := fun wz => RgJ w gc a b (hullX a b) wz ∧ ∃ cs : Array Value, cs.size = 4 ∧ At wz (w.heap.size + 2) 26 cs) (by kernel_rfl) ⟨⟨HJ4.out.a, HJ4.out.b, HC4.out, HJ4.out.bel.drew⟩, _, rfl, HJ4.out.r⟩ (fun hS => ?_)
              refine tkS (v := .agg (bxA (hullX a b))) 0 hS ?_ (hy := by intro wz hz; exact exec_load_at 26 (.tmp 6) rfl (gc) rfl (bxA (hullX a b)) 4 strXr rfl (hz.1.c))
              refine tkS (v := .agg (bxA a)) 1 hS ?_ (hy := by intro wz hz; exact exec_load_at 26 (.tmp 2) rfl (w.heap.size) rfl (bxA a) 4 strXr rfl (hz.1.a))
              refine tkS (v := .agg (bxA b)) 2 hS ?_ (hy := by intro wz hz; exact exec_load_at 26 (.tmp 3) rfl (w.heap.size + 1) rfl (bxA b) 4 strXr rfl (hz.1.b))
              refine tkS (v := .agg (bxA (hullX a b))) 3 hS ?_ (hy := by intro wz hz; exact exec_load_at 26 (.tmp 6) rfl (gc) rfl (bxA (hullX a b)) 4 strXr rfl (hz.1.c))
              refine wpAnyH_ready (rs := [4]) (by kernel_rfl) (by simp) ?_
              refine AllReadyH.cons rfl (fun K hK => ?_) AllReadyH.nil
              go_simp
              refine (joined_any a b (hullX a b) _).mono ?_
              rintro e z5 ⟨rfl, hb5⟩
              obtain ⟨cs5, hcs5, hr5⟩ := hS.2
              have hT5 : RgJ w gc a b (hullX a b) z5 ∧ ∃ cs : Array Value, cs.size = 4 ∧ At z5 (w.heap.size + 2) 26 cs := ⟨hS.1.call hb5, cs5, hcs5, hr5.under hb5 hr5.lt⟩
              clear hcs5 hr5 hb5
              refine hK.out _ _ (hT5) (fun hT => ?_)
              clear hK hS
              have hS := hT
              clear hT
              refine wpAnyH_ready (rs := [5]) (by kernel_rfl) (by simp) ?_
              refine AllReadyH.cons rfl (fun K hK => ?_) AllReadyH.nil
              rw [if_pos (by rfl)]
              obtain ⟨cs5, hcs5, hr5⟩ := hS.2
              refine wp_store_at 26 (.tmp 4) (.tmp 49) rfl rfl (w.heap.size + 2) rfl (bxA (hullX a b)) cs5 4 rfl strXr rfl hcs5 (bxA_one _) hr5 ?_
              intro w9 h9 g9
              have H9 := Lib.hid h9
              have HR9 := Lib.hid (hS.1.store (by have := HG.out; omega) g9)
              have hT9 : RgJ w gc a b (hullX a b) w9 ∧ ∃ cs : Array Value, cs.size = 4 ∧ At w9 (w.heap.size + 2) 26 cs := ⟨HR9.out, _, rfl, h9⟩
              clear h9 g9 hr5 hcs5
              refine hK.out _ _ (hT9) (fun hT => ?_)
              clear hK hS
              have hS := hT
              clear hT
              refine tkS 6 hS ?_
              refine wpAnyH_done (by kernel_rfl) ?_ _
              clear hS
              go_wp2_with fail
              rw [HE.out]
              exact bodyPost_ret (results_at2 (g := w.heap.size + 2) rfl H9.out strXr rfl rfl rfl) rfl ⟨rfl, HR9.out.bel⟩
        · by_cases h2 : a.x1 < b.x1
          · by_cases h3 : a.y1 < b.y1
            · have HU : Hid (hullX a b = ⟨b.x0, a.y0, b.x1, b.y1⟩) := by show _ = _; unfold hullX; rw [if_pos h0]; rw [if_neg h1]; rw [if_pos h2]; rw [if_pos h3]
              go_upto_region 12 with fail
              have HJ4 : Hid (JnS w 26 a b (((y3.setCell ⟨gc, 0, none⟩ (.int .i64 b.x0)).setCell ⟨gc, 2, none⟩ (.int .i64 b.x1)).setCell ⟨gc, 3, none⟩ (.int .i64 b.y1))) := ⟨(((HJ3.out.a.other (p := ⟨gc, 0, none⟩) (by show w.heap.size ≠ gc; omega) (.int .i64 b.x0)).other (p := ⟨gc, 2, none⟩) (by show w.heap.size ≠ gc; omega) (.int .i64 b.x1)).other (p := ⟨gc, 3, none⟩) (by show w.heap.size ≠ gc; omega) (.int .i64 b.y1)), (((HJ3.out.b.other (p := ⟨gc, 0, none⟩) (by show w.heap.size + 1 ≠ gc; omega) (.int .i64 b.x0)).other (p := ⟨gc, 2, none⟩) (by show w.heap.size + 1 ≠ gc; omega) (.int .i64 b.x1)).other (p := ⟨gc, 3, none⟩) (by show w.heap.size + 1 ≠ gc; omega) (.int .i64 b.y1)), (((HJ3.out.r.other (p := ⟨gc, 0, none⟩) (by show w.heap.size + 2 ≠ gc; omega) (.int .i64 b.x0)).other (p := ⟨gc, 2, none⟩) (by show w.heap.size + 2 ≠ gc; omega) (.int .i64 b.x1)).other (p := ⟨gc, 3, none⟩) (by show w.heap.size + 2 ≠ gc; omega) (.int .i64 b.y1)), (((HJ3.out.bel.setCell (p := ⟨gc, 0, none⟩) (by show w.heap.size ≤ gc; omega) (.int .i64 b.x0)).setCell (p := ⟨gc, 2, none⟩) (by show w.heap.size ≤ gc; omega) (.int .i64 b.x1)).setCell (p := ⟨gc, 3, none⟩) (by show w.heap.size ≤ gc; omega) (.int .i64 b.y1))⟩
              have HC4 : Hid (At (((y3.setCell ⟨gc, 0, none⟩ (.int .i64 b.x0)).setCell ⟨gc, 2, none⟩ (.int .i64 b.x1)).setCell ⟨gc, 3, none⟩ (.int .i64 b.y1)) gc 26 (bxA (hullX a b))) := by
                have := (((HC3.out.set 0 (.int .i64 b.x0)).set 2 (.int .i64 b.x1)).set 3 (.int .i64 b.y1))
                rw [HU.out]
                exact this
              generalize (((y3.setCell ⟨gc, 0, none⟩ (.int .i64 b.x0)).setCell ⟨gc, 2, none⟩ (.int .i64 b.x1)).setCell ⟨gc, 3, none⟩ (.int .i64 b.y1)) = y4 at HJ4 HC4 ⊢
              refine wp_region_held_drew (S := fun wz => RgJ w gc a b (hullX a b) wz ∧ ∃ cs : Array Value, cs.size = 4 ∧ At wz (w.heap.size + 2) 26 cs) (by kernel_rfl) ⟨⟨HJ4.out.a, HJ4.out.b, HC4.out, HJ4.out.bel.drew⟩, _, rfl, HJ4.out.r⟩ (fun hS => ?_)
              refine tkS (v := .agg (bxA (hullX a b))) 0 hS ?_ (hy := by intro wz hz; exact exec_load_at 26 (.tmp 6) rfl (gc) rfl (bxA (hullX a b)) 4 strXr rfl (hz.1.c))
              refine tkS (v := .agg (bxA a)) 1 hS ?_ (hy := by intro wz hz; exact exec_load_at 26 (.tmp 2) rfl (w.heap.size) rfl (bxA a) 4 strXr rfl (hz.1.a))
              refine tkS (v := .agg (bxA b)) 2 hS ?_ (hy := by intro wz hz; exact exec_load_at 26 (.tmp 3) rfl (w.heap.size + 1) rfl (bxA b) 4 strXr rfl (hz.1.b))
              refine tkS (v := .agg (bxA (hullX a b))) 3 hS ?_ (hy := by intro wz hz; exact exec_load_at 26 (.tmp 6) rfl (gc) rfl (bxA (hullX a b)) 4 strXr rfl (hz.1.c))
              refine wpAnyH_ready (rs := [4]) (by kernel_rfl) (by simp) ?_
              refine AllReadyH.cons rfl (fun K hK => ?_) AllReadyH.nil
              go_simp
              refine (joined_any a b (hullX a b) _).mono ?_
              rintro e z5 ⟨rfl, hb5⟩
              obtain ⟨cs5, hcs5, hr5⟩ := hS.2
              have hT5 : RgJ w gc a b (hullX a b) z5 ∧ ∃ cs : Array Value, cs.size = 4 ∧ At z5 (w.heap.size + 2) 26 cs := ⟨hS.1.call hb5, cs5, hcs5, hr5.under hb5 hr5.lt⟩
              clear hcs5 hr5 hb5
              refine hK.out _ _ (hT5) (fun hT => ?_)
              clear hK hS
              have hS := hT
              clear hT
              refine wpAnyH_ready (rs := [5]) (by kernel_rfl) (by simp) ?_
              refine AllReadyH.cons rfl (fun K hK => ?_) AllReadyH.nil
              rw [if_pos (by rfl)]
              obtain ⟨cs5, hcs5, hr5⟩ := hS.2
              refine wp_store_at 26 (.tmp 4) (.tmp 49) rfl rfl (w.heap.size + 2) rfl (bxA (hullX a b)) cs5 4 rfl strXr rfl hcs5 (bxA_one _) hr5 ?_
              intro w9 h9 g9
              have H9 := Lib.hid h9
              have HR9 := Lib.hid (hS.1.store (by have := HG.out; omega) g9)
              have hT9 : RgJ w gc a b (hullX a b) w9 ∧ ∃ cs : Array Value, cs.size = 4 ∧ At w9 (w.heap.size + 2) 26 cs := ⟨HR9.out, _, rfl, h9⟩
              clear h9 g9 hr5 hcs5
              refine hK.out _ _ (hT9) (fun hT => ?_)
              clear hK hS
              have hS := hT
              clear hT
              refine tkS 6 hS ?_
              refine wpAnyH_done (by kernel_rfl) ?_ _
              clear hS
              go_wp2_with fail
              rw [HE.out]
              exact bodyPost_ret (results_at2 (g := w.heap.size + 2) rfl H9.out strXr rfl rfl rfl) rfl ⟨rfl, HR9.out.bel⟩
            · have HU : Hid (hullX a b = ⟨b.x0, a.y0, b.x1, a.y1⟩) := by show _ = _; unfold hullX; rw [if_pos h0]; rw [if_neg h1]; rw [if_pos h2]; rw [if_neg h3]
              go_upto_region 12 with fail
              have HJ4 : Hid (JnS w 26 a b ((y3.setCell ⟨gc, 0, none⟩ (.int .i64 b.x0)).setCell ⟨gc, 2, none⟩ (.int .i64 b.x1))) := ⟨((HJ3.out.a.other (p := ⟨gc, 0, none⟩) (by show w.heap.size ≠ gc; omega) (.int .i64 b.x0)).other (p := ⟨gc, 2, none⟩) (by show w.heap.size ≠ gc; omega) (.int .i64 b.x1)), ((HJ3.out.b.other (p := ⟨gc, 0, none⟩) (by show w.heap.size + 1 ≠ gc; omega) (.int .i64 b.x0)).other (p := ⟨gc, 2, none⟩) (by show w.heap.size + 1 ≠ gc; omega) (.int .i64 b.x1)), ((HJ3.out.r.other (p := ⟨gc, 0, none⟩) (by show w.heap.size + 2 ≠ gc; omega) (.int .i64 b.x0)).other (p := ⟨gc, 2, none⟩) (by show w.heap.size + 2 ≠ gc; omega) (.int .i64 b.x1)), ((HJ3.out.bel.setCell (p := ⟨gc, 0, none⟩) (by show w.heap.size ≤ gc; omega) (.int .i64 b.x0)).setCell (p := ⟨gc, 2, none⟩) (by show w.heap.size ≤ gc; omega) (.int .i64 b.x1))⟩
              have HC4 : Hid (At ((y3.setCell ⟨gc, 0, none⟩ (.int .i64 b.x0)).setCell ⟨gc, 2, none⟩ (.int .i64 b.x1)) gc 26 (bxA (hullX a b))) := by
                have := ((HC3.out.set 0 (.int .i64 b.x0)).set 2 (.int .i64 b.x1))
                rw [HU.out]
                exact this
              generalize ((y3.setCell ⟨gc, 0, none⟩ (.int .i64 b.x0)).setCell ⟨gc, 2, none⟩ (.int .i64 b.x1)) = y4 at HJ4 HC4 ⊢
              refine wp_region_held_drew (S := fun wz => RgJ w gc a b (hullX a b) wz ∧ ∃ cs : Array Value, cs.size = 4 ∧ At wz (w.heap.size + 2) 26 cs) (by kernel_rfl) ⟨⟨HJ4.out.a, HJ4.out.b, HC4.out, HJ4.out.bel.drew⟩, _, rfl, HJ4.out.r⟩ (fun hS => ?_)
              refine tkS (v := .agg (bxA (hullX a b))) 0 hS ?_ (hy := by intro wz hz; exact exec_load_at 26 (.tmp 6) rfl (gc) rfl (bxA (hullX a b)) 4 strXr rfl (hz.1.c))
              refine tkS (v := .agg (bxA a)) 1 hS ?_ (hy := by intro wz hz; exact exec_load_at 26 (.tmp 2) rfl (w.heap.size) rfl (bxA a) 4 strXr rfl (hz.1.a))
              refine tkS (v := .agg (bxA b)) 2 hS ?_ (hy := by intro wz hz; exact exec_load_at 26 (.tmp 3) rfl (w.heap.size + 1) rfl (bxA b) 4 strXr rfl (hz.1.b))
              refine tkS (v := .agg (bxA (hullX a b))) 3 hS ?_ (hy := by intro wz hz; exact exec_load_at 26 (.tmp 6) rfl (gc) rfl (bxA (hullX a b)) 4 strXr rfl (hz.1.c))
              refine wpAnyH_ready (rs := [4]) (by kernel_rfl) (by simp) ?_
              refine AllReadyH.cons rfl (fun K hK => ?_) AllReadyH.nil
              go_simp
              refine (joined_any a b (hullX a b) _).mono ?_
              rintro e z5 ⟨rfl, hb5⟩
              obtain ⟨cs5, hcs5, hr5⟩ := hS.2
              have hT5 : RgJ w gc a b (hullX a b) z5 ∧ ∃ cs : Array Value, cs.size = 4 ∧ At z5 (w.heap.size + 2) 26 cs := ⟨hS.1.call hb5, cs5, hcs5, hr5.under hb5 hr5.lt⟩
              clear hcs5 hr5 hb5
              refine hK.out _ _ (hT5) (fun hT => ?_)
              clear hK hS
              have hS := hT
              clear hT
              refine wpAnyH_ready (rs := [5]) (by kernel_rfl) (by simp) ?_
              refine AllReadyH.cons rfl (fun K hK => ?_) AllReadyH.nil
              rw [if_pos (by rfl)]
              obtain ⟨cs5, hcs5, hr5⟩ := hS.2
              refine wp_store_at 26 (.tmp 4) (.tmp 49) rfl rfl (w.heap.size + 2) rfl (bxA (hullX a b)) cs5 4 rfl strXr rfl hcs5 (bxA_one _) hr5 ?_
              intro w9 h9 g9
              have H9 := Lib.hid h9
              have HR9 := Lib.hid (hS.1.store (by have := HG.out; omega) g9)
              have hT9 : RgJ w gc a b (hullX a b) w9 ∧ ∃ cs : Array Value, cs.size = 4 ∧ At w9 (w.heap.size + 2) 26 cs := ⟨HR9.out, _, rfl, h9⟩
              clear h9 g9 hr5 hcs5
              refine hK.out _ _ (hT9) (fun hT => ?_)
              clear hK hS
              have hS := hT
              clear hT
              refine tkS 6 hS ?_
              refine wpAnyH_done (by kernel_rfl) ?_ _
              clear hS
              go_wp2_with fail
              rw [HE.out]
              exact bodyPost_ret (results_at2 (g := w.heap.size + 2) rfl H9.out strXr rfl rfl rfl) rfl ⟨rfl, HR9.out.bel⟩
          · by_cases h3 : a.y1 < b.y1
            · have HU : Hid (hullX a b = ⟨b.x0, a.y0, a.x1, b.y1⟩) := by show _ = _; unfold hullX; rw [if_pos h0]; rw [if_neg h1]; rw [if_neg h2]; rw [if_pos h3]
              go_upto_region 12 with fail
              have HJ4 : Hid (JnS w 26 a b ((y3.setCell ⟨gc, 0, none⟩ (.int .i64 b.x0)).setCell ⟨gc, 3, none⟩ (.int .i64 b.y1))) := ⟨((HJ3.out.a.other (p := ⟨gc, 0, none⟩) (by show w.heap.size ≠ gc; omega) (.int .i64 b.x0)).other (p := ⟨gc, 3, none⟩) (by show w.heap.size ≠ gc; omega) (.int .i64 b.y1)), ((HJ3.out.b.other (p := ⟨gc, 0, none⟩) (by show w.heap.size + 1 ≠ gc; omega) (.int .i64 b.x0)).other (p := ⟨gc, 3, none⟩) (by show w.heap.size + 1 ≠ gc; omega) (.int .i64 b.y1)), ((HJ3.out.r.other (p := ⟨gc, 0, none⟩) (by show w.heap.size + 2 ≠ gc; omega) (.int .i64 b.x0)).other (p := ⟨gc, 3, none⟩) (by show w.heap.size + 2 ≠ gc; omega) (.int .i64 b.y1)), ((HJ3.out.bel.setCell (p := ⟨gc, 0, none⟩) (by show w.heap.size ≤ gc; omega) (.int .i64 b.x0)).setCell (p := ⟨gc, 3, none⟩) (by show w.heap.size ≤ gc; omega) (.int .i64 b.y1))⟩
              have HC4 : Hid (At ((y3.setCell ⟨gc, 0, none⟩ (.int .i64 b.x0)).setCell ⟨gc, 3, none⟩ (.int .i64 b.y1)) gc 26 (bxA (hullX a b))) := by
                have := ((HC3.out.set 0 (.int .i64 b.x0)).set 3 (.int .i64 b.y1))
                rw [HU.out]
                exact this
              generalize ((y3.setCell ⟨gc, 0, none⟩ (.int .i64 b.x0)).setCell ⟨gc, 3, none⟩ (.int .i64 b.y1)) = y4 at HJ4 HC4 ⊢
              refine wp_region_held_drew (S := fun wz => RgJ w gc a b (hullX a b) wz ∧ ∃ cs : Array Value, cs.size = 4 ∧ At wz (w.heap.size + 2) 26 cs) (by kernel_rfl) ⟨⟨HJ4.out.a, HJ4.out.b, HC4.out, HJ4.out.bel.drew⟩, _, rfl, HJ4.out.r⟩ (fun hS => ?_)
              refine tkS (v := .agg (bxA (hullX a b))) 0 hS ?_ (hy := by intro wz hz; exact exec_load_at 26 (.tmp 6) rfl (gc) rfl (bxA (hullX a b)) 4 strXr rfl (hz.1.c))
              refine tkS (v := .agg (bxA a)) 1 hS ?_ (hy := by intro wz hz; exact exec_load_at 26 (.tmp 2) rfl (w.heap.size) rfl (bxA a) 4 strXr rfl (hz.1.a))
              refine tkS (v := .agg (bxA b)) 2 hS ?_ (hy := by intro wz hz; exact exec_load_at 26 (.tmp 3) rfl (w.heap.size + 1) rfl (bxA b) 4 strXr rfl (hz.1.b))
              refine tkS (v := .agg (bxA (hullX a b))) 3 hS ?_ (hy := by intro wz hz; exact exec_load_at 26 (.tmp 6) rfl (gc) rfl (bxA (hullX a b)) 4 strXr rfl (hz.1.c))
              refine wpAnyH_ready (rs := [4]) (by kernel_rfl) (by simp) ?_
              refine AllReadyH.cons rfl (fun K hK => ?_) AllReadyH.nil
              go_simp
              refine (joined_any a b (hullX a b) _).mono ?_
              rintro e z5 ⟨rfl, hb5⟩
              obtain ⟨cs5, hcs5, hr5⟩ := hS.2
              have hT5 : RgJ w gc a b (hullX a b) z5 ∧ ∃ cs : Array Value, cs.size = 4 ∧ At z5 (w.heap.size + 2) 26 cs := ⟨hS.1.call hb5, cs5, hcs5, hr5.under hb5 hr5.lt⟩
              clear hcs5 hr5 hb5
              refine hK.out _ _ (hT5) (fun hT => ?_)
              clear hK hS
              have hS := hT
              clear hT
              refine wpAnyH_ready (rs := [5]) (by kernel_rfl) (by simp) ?_
              refine AllReadyH.cons rfl (fun K hK => ?_) AllReadyH.nil
              rw [if_pos (by rfl)]
              obtain ⟨cs5, hcs5, hr5⟩ := hS.2
              refine wp_store_at 26 (.tmp 4) (.tmp 49) rfl rfl (w.heap.size + 2) rfl (bxA (hullX a b)) cs5 4 rfl strXr rfl hcs5 (bxA_one _) hr5 ?_
              intro w9 h9 g9
              have H9 := Lib.hid h9
              have HR9 := Lib.hid (hS.1.store (by have := HG.out; omega) g9)
              have hT9 : RgJ w gc a b (hullX a b) w9 ∧ ∃ cs : Array Value, cs.size = 4 ∧ At w9 (w.heap.size + 2) 26 cs := ⟨HR9.out, _, rfl, h9⟩
              clear h9 g9 hr5 hcs5
              refine hK.out _ _ (hT9) (fun hT => ?_)
              clear hK hS
              have hS := hT
              clear hT
              refine tkS 6 hS ?_
              refine wpAnyH_done (by kernel_rfl) ?_ _
              clear hS
              go_wp2_with fail
              rw [HE.out]
              exact bodyPost_ret (results_at2 (g := w.heap.size + 2) rfl H9.out strXr rfl rfl rfl) rfl ⟨rfl, HR9.out.bel⟩
            · have HU : Hid (hullX a b = ⟨b.x0, a.y0, a.x1, a.y1⟩) := by show _ = _; unfold hullX; rw [if_pos h0]; rw [if_neg h1]; rw [if_neg h2]; rw [if_neg h3]
              go_upto_region 12 with fail
              have HJ4 : Hid (JnS w 26 a b (y3.setCell ⟨gc, 0, none⟩ (.int .i64 b.x0))) := ⟨(HJ3.out.a.other (p := ⟨gc, 0, none⟩) (by show w.heap.size ≠ gc; omega) (.int .i64 b.x0)), (HJ3.out.b.other (p := ⟨gc, 0, none⟩) (by show w.heap.size + 1 ≠ gc; omega) (.int .i64 b.x0)), (HJ3.out.r.other (p := ⟨gc, 0, none⟩) (by show w.heap.size + 2 ≠ gc; omega) (.int .i64 b.x0)), (HJ3.out.bel.setCell (p := ⟨gc, 0, none⟩) (by show w.heap.size ≤ gc; omega) (.int .i64 b.x0))⟩
              have HC4 : Hid (At (y3.setCell ⟨gc, 0, none⟩ (.int .i64 b.x0)) gc 26 (bxA (hullX a b))) := by
                have := (HC3.out.set 0 (.int .i64 b.x0))
                rw [HU.out]
                exact this
              generalize (y3.setCell ⟨gc, 0, none⟩ (.int .i64 b.x0)) = y4 at HJ4 HC4 ⊢
              refine wp_region_held_drew (S := fun wz => RgJ w gc a b (hullX a b) wz ∧ ∃ cs : Array Value, cs.size = 4 ∧ At wz (w.heap.size + 2) 26 cs) (by kernel_rfl) ⟨⟨HJ4.out.a, HJ4.out.b, HC4.out, HJ4.out.bel.drew⟩, _, rfl, HJ4.out.r⟩ (fun hS => ?_)
              refine tkS (v := .agg (bxA (hullX a b))) 0 hS ?_ (hy := by intro wz hz; exact exec_load_at 26 (.tmp 6) rfl (gc) rfl (bxA (hullX a b)) 4 strXr rfl (hz.1.c))
              refine tkS (v := .agg (bxA a)) 1 hS ?_ (hy := by intro wz hz; exact exec_load_at 26 (.tmp 2) rfl (w.heap.size) rfl (bxA a) 4 strXr rfl (hz.1.a))
              refine tkS (v := .agg (bxA b)) 2 hS ?_ (hy := by intro wz hz; exact exec_load_at 26 (.tmp 3) rfl (w.heap.size + 1) rfl (bxA b) 4 strXr rfl (hz.1.b))
              refine tkS (v := .agg (bxA (hullX a b))) 3 hS ?_ (hy := by intro wz hz; exact exec_load_at 26 (.tmp 6) rfl (gc) rfl (bxA (hullX a b)) 4 strXr rfl (hz.1.c))
              refine wpAnyH_ready (rs := [4]) (by kernel_rfl) (by simp) ?_
              refine AllReadyH.cons rfl (fun K hK => ?_) AllReadyH.nil
              go_simp
              refine (joined_any a b (hullX a b) _).mono ?_
              rintro e z5 ⟨rfl, hb5⟩
              obtain ⟨cs5, hcs5, hr5⟩ := hS.2
              have hT5 : RgJ w gc a b (hullX a b) z5 ∧ ∃ cs : Array Value, cs.size = 4 ∧ At z5 (w.heap.size + 2) 26 cs := ⟨hS.1.call hb5, cs5, hcs5, hr5.under hb5 hr5.lt⟩
              clear hcs5 hr5 hb5
              refine hK.out _ _ (hT5) (fun hT => ?_)
              clear hK hS
              have hS := hT
              clear hT
              refine wpAnyH_ready (rs := [5]) (by kernel_rfl) (by simp) ?_
              refine AllReadyH.cons rfl (fun K hK => ?_) AllReadyH.nil
              rw [if_pos (by rfl)]
              obtain ⟨cs5, hcs5, hr5⟩ := hS.2
              refine wp_store_at 26 (.tmp 4) (.tmp 49) rfl rfl (w.heap.size + 2) rfl (bxA (hullX a b)) cs5 4 rfl strXr rfl hcs5 (bxA_one _) hr5 ?_
              intro w9 h9 g9
              have H9 := Lib.hid h9
              have HR9 := Lib.hid (hS.1.store (by have := HG.out; omega) g9)
              have hT9 : RgJ w gc a b (hullX a b) w9 ∧ ∃ cs : Array Value, cs.size = 4 ∧ At w9 (w.heap.size + 2) 26 cs := ⟨HR9.out, _, rfl, h9⟩
              clear h9 g9 hr5 hcs5
              refine hK.out _ _ (hT9) (fun hT => ?_)
              clear hK hS
              have hS := hT
              clear hT
              refine tkS 6 hS ?_
              refine wpAnyH_done (by kernel_rfl) ?_ _
              clear hS
              go_wp2_with fail
              rw [HE.out]
              exact bodyPost_ret (results_at2 (g := w.heap.size + 2) rfl H9.out strXr rfl rfl rfl) rfl ⟨rfl, HR9.out.bel⟩
      · by_cases h1 : b.y0 < a.y0
        · by_cases h2 : a.x1 < b.x1
          · by_cases h3 : a.y1 < b.y1
            · have HU : Hid (hullX a b = ⟨a.x0, b.y0, b.x1, b.y1⟩) := by show _ = _; unfold hullX; rw [if_neg h0]; rw [if_pos h1]; rw [if_pos h2]; rw [if_pos h3]
              go_upto_region 12 with fail
              have HJ4 : Hid (JnS w 26 a b (((y3.setCell ⟨gc, 1, none⟩ (.int .i64 b.y0)).setCell ⟨gc, 2, none⟩ (.int .i64 b.x1)).setCell ⟨gc, 3, none⟩ (.int .i64 b.y1))) := ⟨(((HJ3.out.a.other (p := ⟨gc, 1, none⟩) (by show w.heap.size ≠ gc; omega) (.int .i64 b.y0)).other (p := ⟨gc, 2, none⟩) (by show w.heap.size ≠ gc; omega) (.int .i64 b.x1)).other (p := ⟨gc, 3, none⟩) (by show w.heap.size ≠ gc; omega) (.int .i64 b.y1)), (((HJ3.out.b.other (p := ⟨gc, 1, none⟩) (by show w.heap.size + 1 ≠ gc; omega) (.int .i64 b.y0)).other (p := ⟨gc, 2, none⟩) (by show w.heap.size + 1 ≠ gc; omega) (.int .i64 b.x1)).other (p := ⟨gc, 3, none⟩) (by show w.heap.size + 1 ≠ gc; omega) (.int .i64 b.y1)), (((HJ3.out.r.other (p := ⟨gc, 1, none⟩) (by show w.heap.size + 2 ≠ gc; omega) (.int .i64 b.y0)).other (p := ⟨gc, 2, none⟩) (by show w.heap.size + 2 ≠ gc; omega) (.int .i64 b.x1)).other (p := ⟨gc, 3, none⟩) (by show w.heap.size + 2 ≠ gc; omega) (.int .i64 b.y1)), (((HJ3.out.bel.setCell (p := ⟨gc, 1, none⟩) (by show w.heap.size ≤ gc; omega) (.int .i64 b.y0)).setCell (p := ⟨gc, 2, none⟩) (by show w.heap.size ≤ gc; omega) (.int .i64 b.x1)).setCell (p := ⟨gc, 3, none⟩) (by show w.heap.size ≤ gc; omega) (.int .i64 b.y1))⟩
              have HC4 : Hid (At (((y3.setCell ⟨gc, 1, none⟩ (.int .i64 b.y0)).setCell ⟨gc, 2, none⟩ (.int .i64 b.x1)).setCell ⟨gc, 3, none⟩ (.int .i64 b.y1)) gc 26 (bxA (hullX a b))) := by
                have := (((HC3.out.set 1 (.int .i64 b.y0)).set 2 (.int .i64 b.x1)).set 3 (.int .i64 b.y1))
                rw [HU.out]
                exact this
              generalize (((y3.setCell ⟨gc, 1, none⟩ (.int .i64 b.y0)).setCell ⟨gc, 2, none⟩ (.int .i64 b.x1)).setCell ⟨gc, 3, none⟩ (.int .i64 b.y1)) = y4 at HJ4 HC4 ⊢
              refine wp_region_held_drew (S := fun wz => RgJ w gc a b (hullX a b) wz ∧ ∃ cs : Array Value, cs.size = 4 ∧ At wz (w.heap.size + 2) 26 cs) (by kernel_rfl) ⟨⟨HJ4.out.a, HJ4.out.b, HC4.out, HJ4.out.bel.drew⟩, _, rfl, HJ4.out.r⟩ (fun hS => ?_)
              refine tkS (v := .agg (bxA (hullX a b))) 0 hS ?_ (hy := by intro wz hz; exact exec_load_at 26 (.tmp 6) rfl (gc) rfl (bxA (hullX a b)) 4 strXr rfl (hz.1.c))
              refine tkS (v := .agg (bxA a)) 1 hS ?_ (hy := by intro wz hz; exact exec_load_at 26 (.tmp 2) rfl (w.heap.size) rfl (bxA a) 4 strXr rfl (hz.1.a))
              refine tkS (v := .agg (bxA b)) 2 hS ?_ (hy := by intro wz hz; exact exec_load_at 26 (.tmp 3) rfl (w.heap.size + 1) rfl (bxA b) 4 strXr rfl (hz.1.b))
              refine tkS (v := .agg (bxA (hullX a b))) 3 hS ?_ (hy := by intro wz hz; exact exec_load_at 26 (.tmp 6) rfl (gc) rfl (bxA (hullX a b)) 4 strXr rfl (hz.1.c))
              refine wpAnyH_ready (rs := [4]) (by kernel_rfl) (by simp) ?_
              refine AllReadyH.cons rfl (fun K hK => ?_) AllReadyH.nil
              go_simp
              refine (joined_any a b (hullX a b) _).mono ?_
              rintro e z5 ⟨rfl, hb5⟩
              obtain ⟨cs5, hcs5, hr5⟩ := hS.2
              have hT5 : RgJ w gc a b (hullX a b) z5 ∧ ∃ cs : Array Value, cs.size = 4 ∧ At z5 (w.heap.size + 2) 26 cs := ⟨hS.1.call hb5, cs5, hcs5, hr5.under hb5 hr5.lt⟩
              clear hcs5 hr5 hb5
              refine hK.out _ _ (hT5) (fun hT => ?_)
              clear hK hS
              have hS := hT
              clear hT
              refine wpAnyH_ready (rs := [5]) (by kernel_rfl) (by simp) ?_
              refine AllReadyH.cons rfl (fun K hK => ?_) AllReadyH.nil
              rw [if_pos (by rfl)]
              obtain ⟨cs5, hcs5, hr5⟩ := hS.2
              refine wp_store_at 26 (.tmp 4) (.tmp 49) rfl rfl (w.heap.size + 2) rfl (bxA (hullX a b)) cs5 4 rfl strXr rfl hcs5 (bxA_one _) hr5 ?_
              intro w9 h9 g9
              have H9 := Lib.hid h9
              have HR9 := Lib.hid (hS.1.store (by have := HG.out; omega) g9)
              have hT9 : RgJ w gc a b (hullX a b) w9 ∧ ∃ cs : Array Value, cs.size = 4 ∧ At w9 (w.heap.size + 2) 26 cs := ⟨HR9.out, _, rfl, h9⟩
              clear h9 g9 hr5 hcs5
              refine hK.out _ _ (hT9) (fun hT => ?_)
              clear hK hS
              have hS := hT
              clear hT
              refine tkS 6 hS ?_
              refine wpAnyH_done (by kernel_rfl) ?_ _
              clear hS
              go_wp2_with fail
              rw [HE.out]
              exact bodyPost_ret (results_at2 (g := w.heap.size + 2) rfl H9.out strXr rfl rfl rfl) rfl ⟨rfl, HR9.out.bel⟩
            · have HU : Hid (hullX a b = ⟨a.x0, b.y0, b.x1, a.y1⟩) := by show _ = _; unfold hullX; rw [if_neg h0]; rw [if_pos h1]; rw [if_pos h2]; rw [if_neg h3]
              go_upto_region 12 with fail
              have HJ4 : Hid (JnS w 26 a b ((y3.setCell ⟨gc, 1, none⟩ (.int .i64 b.y0)).setCell ⟨gc, 2, none⟩ (.int .i64 b.x1))) := ⟨((HJ3.out.a.other (p := ⟨gc, 1, none⟩) (by show w.heap.size ≠ gc; omega) (.int .i64 b.y0)).other (p := ⟨gc, 2, none⟩) (by show w.heap.size ≠ gc; omega) (.int .i64 b.x1)), ((HJ3.out.b.other (p := ⟨gc, 1, none⟩) (by show w.heap.size + 1 ≠ gc; omega) (.int .i64 b.y0)).other (p := ⟨gc, 2, none⟩) (by show w.heap.size + 1 ≠ gc; omega) (.int .i64 b.x1)), ((HJ3.out.r.other (p := ⟨gc, 1, none⟩) (by show w.heap.size + 2 ≠ gc; omega) (.int .i64 b.y0)).other (p := ⟨gc, 2, none⟩) (by show w.heap.size + 2 ≠ gc; omega) (.int .i64 b.x1)), ((HJ3.out.bel.setCell (p := ⟨gc, 1, none⟩) (by show w.heap.size ≤ gc; omega) (.int .i64 b.y0)).setCell (p := ⟨gc, 2, none⟩) (by show w.heap.size ≤ gc; omega) (.int .i64 b.x1))⟩
              have HC4 : Hid (At ((y3.setCell ⟨gc, 1, none⟩ (.int .i64 b.y0)).setCell ⟨gc, 2, none⟩ (.int .i64 b.x1)) gc 26 (bxA (hullX a b))) := by
                have := ((HC3.out.set 1 (.int .i64 b.y0)).set 2 (.int .i64 b.x1))
                rw [HU.out]
                exact this
              generalize ((y3.setCell ⟨gc, 1, none⟩ (.int .i64 b.y0)).setCell ⟨gc, 2, none⟩ (.int .i64 b.x1)) = y4 at HJ4 HC4 ⊢
              refine wp_region_held_drew (S := fun wz => RgJ w gc a b (hullX a b) wz ∧ ∃ cs : Array Value, cs.size = 4 ∧ At wz (w.heap.size + 2) 26 cs) (by kernel_rfl) ⟨⟨HJ4.out.a, HJ4.out.b, HC4.out, HJ4.out.bel.drew⟩, _, rfl, HJ4.out.r⟩ (fun hS => ?_)
              refine tkS (v := .agg (bxA (hullX a b))) 0 hS ?_ (hy := by intro wz hz; exact exec_load_at 26 (.tmp 6) rfl (gc) rfl (bxA (hullX a b)) 4 strXr rfl (hz.1.c))
              refine tkS (v := .agg (bxA a)) 1 hS ?_ (hy := by intro wz hz; exact exec_load_at 26 (.tmp 2) rfl (w.heap.size) rfl (bxA a) 4 strXr rfl (hz.1.a))
              refine tkS (v := .agg (bxA b)) 2 hS ?_ (hy := by intro wz hz; exact exec_load_at 26 (.tmp 3) rfl (w.heap.size + 1) rfl (bxA b) 4 strXr rfl (hz.1.b))
              refine tkS (v := .agg (bxA (hullX a b))) 3 hS ?_ (hy := by intro wz hz; exact exec_load_at 26 (.tmp 6) rfl (gc) rfl (bxA (hullX a b)) 4 strXr rfl (hz.1.c))
              refine wpAnyH_ready (rs := [4]) (by kernel_rfl) (by simp) ?_
              refine AllReadyH.cons rfl (fun K hK => ?_) AllReadyH.nil
              go_simp
              refine (joined_any a b (hullX a b) _).mono ?_
              rintro e z5 ⟨rfl, hb5⟩
              obtain ⟨cs5, hcs5, hr5⟩ := hS.2
              have hT5 : RgJ w gc a b (hullX a b) z5 ∧ ∃ cs : Array Value, cs.size = 4 ∧ At z5 (w.heap.size + 2) 26 cs := ⟨hS.1.call hb5, cs5, hcs5, hr5.under hb5 hr5.lt⟩
              clear hcs5 hr5 hb5
              refine hK.out _ _ (hT5) (fun hT => ?_)
              clear hK hS
              have hS := hT
              clear hT
              refine wpAnyH_ready (rs := [5]) (by kernel_rfl) (by simp) ?_
              refine AllReadyH.cons rfl (fun K hK => ?_) AllReadyH.nil
              rw [if_pos (by rfl)]
              obtain ⟨cs5, hcs5, hr5⟩ := hS.2
              refine wp_store_at 26 (.tmp 4) (.tmp 49) rfl rfl (w.heap.size + 2) rfl (bxA (hullX a b)) cs5 4 rfl strXr rfl hcs5 (bxA_one _) hr5 ?_
              intro w9 h9 g9
              have H9 := Lib.hid h9
              have HR9 := Lib.hid (hS.1.store (by have := HG.out; omega) g9)
              have hT9 : RgJ w gc a b (hullX a b) w9 ∧ ∃ cs : Array Value, cs.size = 4 ∧ At w9 (w.heap.size + 2) 26 cs := ⟨HR9.out, _, rfl, h9⟩
              clear h9 g9 hr5 hcs5
              refine hK.out _ _ (hT9) (fun hT => ?_)
              clear hK hS
              have hS := hT
              clear hT
              refine tkS 6 hS ?_
              refine wpAnyH_done (by kernel_rfl) ?_ _
              clear hS
              go_wp2_with fail
              rw [HE.out]
              exact bodyPost_ret (results_at2 (g := w.heap.size + 2) rfl H9.out strXr rfl rfl rfl) rfl ⟨rfl, HR9.out.bel⟩
          · by_cases h3 : a.y1 < b.y1
            · have HU : Hid (hullX a b = ⟨a.x0, b.y0, a.x1, b.y1⟩) := by show _ = _; unfold hullX; rw [if_neg h0]; rw [if_pos h1]; rw [if_neg h2]; rw [if_pos h3]
              go_upto_region 12 with fail
              have HJ4 : Hid (JnS w 26 a b ((y3.setCell ⟨gc, 1, none⟩ (.int .i64 b.y0)).setCell ⟨gc, 3, none⟩ (.int .i64 b.y1))) := ⟨((HJ3.out.a.other (p := ⟨gc, 1, none⟩) (by show w.heap.size ≠ gc; omega) (.int .i64 b.y0)).other (p := ⟨gc, 3, none⟩) (by show w.heap.size ≠ gc; omega) (.int .i64 b.y1)), ((HJ3.out.b.other (p := ⟨gc, 1, none⟩) (by show w.heap.size + 1 ≠ gc; omega) (.int .i64 b.y0)).other (p := ⟨gc, 3, none⟩) (by show w.heap.size + 1 ≠ gc; omega) (.int .i64 b.y1)), ((HJ3.out.r.other (p := ⟨gc, 1, none⟩) (by show w.heap.size + 2 ≠ gc; omega) (.int .i64 b.y0)).other (p := ⟨gc, 3, none⟩) (by show w.heap.size + 2 ≠ gc; omega) (.int .i64 b.y1)), ((HJ3.out.bel.setCell (p := ⟨gc, 1, none⟩) (by show w.heap.size ≤ gc; omega) (.int .i64 b.y0)).setCell (p := ⟨gc, 3, none⟩) (by show w.heap.size ≤ gc; omega) (.int .i64 b.y1))⟩
              have HC4 : Hid (At ((y3.setCell ⟨gc, 1, none⟩ (.int .i64 b.y0)).setCell ⟨gc, 3, none⟩ (.int .i64 b.y1)) gc 26 (bxA (hullX a b))) := by
                have := ((HC3.out.set 1 (.int .i64 b.y0)).set 3 (.int .i64 b.y1))
                rw [HU.out]
                exact this
              generalize ((y3.setCell ⟨gc, 1, none⟩ (.int .i64 b.y0)).setCell ⟨gc, 3, none⟩ (.int .i64 b.y1)) = y4 at HJ4 HC4 ⊢
              refine wp_region_held_drew (S := fun wz => RgJ w gc a b (hullX a b) wz ∧ ∃ cs : Array Value, cs.size = 4 ∧ At wz (w.heap.size + 2) 26 cs) (by kernel_rfl) ⟨⟨HJ4.out.a, HJ4.out.b, HC4.out, HJ4.out.bel.drew⟩, _, rfl, HJ4.out.r⟩ (fun hS => ?_)
              refine tkS (v := .agg (bxA (hullX a b))) 0 hS ?_ (hy := by intro wz hz; exact exec_load_at 26 (.tmp 6) rfl (gc) rfl (bxA (hullX a b)) 4 strXr rfl (hz.1.c))
              refine tkS (v := .agg (bxA a)) 1 hS ?_ (hy := by intro wz hz; exact exec_load_at 26 (.tmp 2) rfl (w.heap.size) rfl (bxA a) 4 strXr rfl (hz.1.a))
              refine tkS (v := .agg (bxA b)) 2 hS ?_ (hy := by intro wz hz; exact exec_load_at 26 (.tmp 3) rfl (w.heap.size + 1) rfl (bxA b) 4 strXr rfl (hz.1.b))
              refine tkS (v := .agg (bxA (hullX a b))) 3 hS ?_ (hy := by intro wz hz; exact exec_load_at 26 (.tmp 6) rfl (gc) rfl (bxA (hullX a b)) 4 strXr rfl (hz.1.c))
              refine wpAnyH_ready (rs := [4]) (by kernel_rfl) (by simp) ?_
              refine AllReadyH.cons rfl (fun K hK => ?_) AllReadyH.nil
              go_simp
              refine (joined_any a b (hullX a b) _).mono ?_
              rintro e z5 ⟨rfl, hb5⟩
              obtain ⟨cs5, hcs5, hr5⟩ := hS.2
              have hT5 : RgJ w gc a b (hullX a b) z5 ∧ ∃ cs : Array Value, cs.size = 4 ∧ At z5 (w.heap.size + 2) 26 cs := ⟨hS.1.call hb5, cs5, hcs5, hr5.under hb5 hr5.lt⟩
              clear hcs5 hr5 hb5
              refine hK.out _ _ (hT5) (fun hT => ?_)
              clear hK hS
              have hS := hT
              clear hT
              refine wpAnyH_ready (rs := [5]) (by kernel_rfl) (by simp) ?_
              refine AllReadyH.cons rfl (fun K hK => ?_) AllReadyH.nil
              rw [if_pos (by rfl)]
              obtain ⟨cs5, hcs5, hr5⟩ := hS.2
              refine wp_store_at 26 (.tmp 4) (.tmp 49) rfl rfl (w.heap.size + 2) rfl (bxA (hullX a b)) cs5 4 rfl strXr rfl hcs5 (bxA_one _) hr5 ?_
              intro w9 h9 g9
              have H9 := Lib.hid h9
              have HR9 := Lib.hid (hS.1.store (by have := HG.out; omega) g9)
              have hT9 : RgJ w gc a b (hullX a b) w9 ∧ ∃ cs : Array Value, cs.size = 4 ∧ At w9 (w.heap.size + 2) 26 cs := ⟨HR9.out, _, rfl, h9⟩
              clear h9 g9 hr5 hcs5
              refine hK.out _ _ (hT9) (fun hT => ?_)
              clear hK hS
              have hS := hT
              clear hT
              refine tkS 6 hS ?_
              refine wpAnyH_done (by kernel_rfl) ?_ _
              clear hS
              go_wp2_with fail
              rw [HE.out]
              exact bodyPost_ret (results_at2 (g := w.heap.size + 2) rfl H9.out strXr rfl rfl rfl) rfl ⟨rfl, HR9.out.bel⟩
            · have HU : Hid (hullX a b = ⟨a.x0, b.y0, a.x1, a.y1⟩) := by show _ = _; unfold hullX; rw [if_neg h0]; rw [if_pos h1]; rw [if_neg h2]; rw [if_neg h3]
              go_upto_region 12 with fail
              have HJ4 : Hid (JnS w 26 a b (y3.setCell ⟨gc, 1, none⟩ (.int .i64 b.y0))) := ⟨(HJ3.out.a.other (p := ⟨gc, 1, none⟩) (by show w.heap.size ≠ gc; omega) (.int .i64 b.y0)), (HJ3.out.b.other (p := ⟨gc, 1, none⟩) (by show w.heap.size + 1 ≠ gc; omega) (.int .i64 b.y0)), (HJ3.out.r.other (p := ⟨gc, 1, none⟩) (by show w.heap.size + 2 ≠ gc; omega) (.int .i64 b.y0)), (HJ3.out.bel.setCell (p := ⟨gc, 1, none⟩) (by show w.heap.size ≤ gc; omega) (.int .i64 b.y0))⟩
              have HC4 : Hid (At (y3.setCell ⟨gc, 1, none⟩ (.int .i64 b.y0)) gc 26 (bxA (hullX a b))) := by
                have := (HC3.out.set 1 (.int .i64 b.y0))
                rw [HU.out]
                exact this
              generalize (y3.setCell ⟨gc, 1, none⟩ (.int .i64 b.y0)) = y4 at HJ4 HC4 ⊢
              refine wp_region_held_drew (S := fun wz => RgJ w gc a b (hullX a b) wz ∧ ∃ cs : Array Value, cs.size = 4 ∧ At wz (w.heap.size + 2) 26 cs) (by kernel_rfl) ⟨⟨HJ4.out.a, HJ4.out.b, HC4.out, HJ4.out.bel.drew⟩, _, rfl, HJ4.out.r⟩ (fun hS => ?_)
              refine tkS (v := .agg (bxA (hullX a b))) 0 hS ?_ (hy := by intro wz hz; exact exec_load_at 26 (.tmp 6) rfl (gc) rfl (bxA (hullX a b)) 4 strXr rfl (hz.1.c))
              refine tkS (v := .agg (bxA a)) 1 hS ?_ (hy := by intro wz hz; exact exec_load_at 26 (.tmp 2) rfl (w.heap.size) rfl (bxA a) 4 strXr rfl (hz.1.a))
              refine tkS (v := .agg (bxA b)) 2 hS ?_ (hy := by intro wz hz; exact exec_load_at 26 (.tmp 3) rfl (w.heap.size + 1) rfl (bxA b) 4 strXr rfl (hz.1.b))
              refine tkS (v := .agg (bxA (hullX a b))) 3 hS ?_ (hy := by intro wz hz; exact exec_load_at 26 (.tmp 6) rfl (gc) rfl (bxA (hullX a b)) 4 strXr rfl (hz.1.c))
              refine wpAnyH_ready (rs := [4]) (by kernel_rfl) (by simp) ?_
              refine AllReadyH.cons rfl (fun K hK => ?_) AllReadyH.nil
              go_simp
              refine (joined_any a b (hullX a b) _).mono ?_
              rintro e z5 ⟨rfl, hb5⟩
              obtain ⟨cs5, hcs5, hr5⟩ := hS.2
              have hT5 : RgJ w gc a b (hullX a b) z5 ∧ ∃ cs : Array Value, cs.size = 4 ∧ At z5 (w.heap.size + 2) 26 cs := ⟨hS.1.call hb5, cs5, hcs5, hr5.under hb5 hr5.lt⟩
              clear hcs5 hr5 hb5
              refine hK.out _ _ (hT5) (fun hT => ?_)
              clear hK hS
              have hS := hT
              clear hT
              refine wpAnyH_ready (rs := [5]) (by kernel_rfl) (by simp) ?_
              refine AllReadyH.cons rfl (fun K hK => ?_) AllReadyH.nil
              rw [if_pos (by rfl)]
              obtain ⟨cs5, hcs5, hr5⟩ := hS.2
              refine wp_store_at 26 (.tmp 4) (.tmp 49) rfl rfl (w.heap.size + 2) rfl (bxA (hullX a b)) cs5 4 rfl strXr rfl hcs5 (bxA_one _) hr5 ?_
              intro w9 h9 g9
              have H9 := Lib.hid h9
              have HR9 := Lib.hid (hS.1.store (by have := HG.out; omega) g9)
              have hT9 : RgJ w gc a b (hullX a b) w9 ∧ ∃ cs : Array Value, cs.size = 4 ∧ At w9 (w.heap.size + 2) 26 cs := ⟨HR9.out, _, rfl, h9⟩
              clear h9 g9 hr5 hcs5
              refine hK.out _ _ (hT9) (fun hT => ?_)
              clear hK hS
              have hS := hT
              clear hT
              refine tkS 6 hS ?_
              refine wpAnyH_done (by kernel_rfl) ?_ _
              clear hS
              go_wp2_with fail
              rw [HE.out]
              exact bodyPost_ret (results_at2 (g := w.heap.size + 2) rfl H9.out strXr rfl rfl rfl) rfl ⟨rfl, HR9.out.bel⟩
        · by_cases h2 : a.x1 < b.x1
          · by_cases h3 : a.y1 < b.y1
            · have HU : Hid (hullX a b = ⟨a.x0, a.y0, b.x1, b.y1⟩) := by show _ = _; unfold hullX; rw [if_neg h0]; rw [if_neg h1]; rw [if_pos h2]; rw [if_pos h3]
              go_upto_region 12 with fail
              have HJ4 : Hid (JnS w 26 a b ((y3.setCell ⟨gc, 2, none⟩ (.int .i64 b.x1)).setCell ⟨gc, 3, none⟩ (.int .i64 b.y1))) := ⟨((HJ3.out.a.other (p := ⟨gc, 2, none⟩) (by show w.heap.size ≠ gc; omega) (.int .i64 b.x1)).other (p := ⟨gc, 3, none⟩) (by show w.heap.size ≠ gc; omega) (.int .i64 b.y1)), ((HJ3.out.b.other (p := ⟨gc, 2, none⟩) (by show w.heap.size + 1 ≠ gc; omega) (.int .i64 b.x1)).other (p := ⟨gc, 3, none⟩) (by show w.heap.size + 1 ≠ gc; omega) (.int .i64 b.y1)), ((HJ3.out.r.other (p := ⟨gc, 2, none⟩) (by show w.heap.size + 2 ≠ gc; omega) (.int .i64 b.x1)).other (p := ⟨gc, 3, none⟩) (by show w.heap.size + 2 ≠ gc; omega) (.int .i64 b.y1)), ((HJ3.out.bel.setCell (p := ⟨gc, 2, none⟩) (by show w.heap.size ≤ gc; omega) (.int .i64 b.x1)).setCell (p := ⟨gc, 3, none⟩) (by show w.heap.size ≤ gc; omega) (.int .i64 b.y1))⟩
              have HC4 : Hid (At ((y3.setCell ⟨gc, 2, none⟩ (.int .i64 b.x1)).setCell ⟨gc, 3, none⟩ (.int .i64 b.y1)) gc 26 (bxA (hullX a b))) := by
                have := ((HC3.out.set 2 (.int .i64 b.x1)).set 3 (.int .i64 b.y1))
                rw [HU.out]
                exact this
              generalize ((y3.setCell ⟨gc, 2, none⟩ (.int .i64 b.x1)).setCell ⟨gc, 3, none⟩ (.int .i64 b.y1)) = y4 at HJ4 HC4 ⊢
              refine wp_region_held_drew (S := fun wz => RgJ w gc a b (hullX a b) wz ∧ ∃ cs : Array Value, cs.size = 4 ∧ At wz (w.heap.size + 2) 26 cs) (by kernel_rfl) ⟨⟨HJ4.out.a, HJ4.out.b, HC4.out, HJ4.out.bel.drew⟩, _, rfl, HJ4.out.r⟩ (fun hS => ?_)
              refine tkS (v := .agg (bxA (hullX a b))) 0 hS ?_ (hy := by intro wz hz; exact exec_load_at 26 (.tmp 6) rfl (gc) rfl (bxA (hullX a b)) 4 strXr rfl (hz.1.c))
              refine tkS (v := .agg (bxA a)) 1 hS ?_ (hy := by intro wz hz; exact exec_load_at 26 (.tmp 2) rfl (w.heap.size) rfl (bxA a) 4 strXr rfl (hz.1.a))
              refine tkS (v := .agg (bxA b)) 2 hS ?_ (hy := by intro wz hz; exact exec_load_at 26 (.tmp 3) rfl (w.heap.size + 1) rfl (bxA b) 4 strXr rfl (hz.1.b))
              refine tkS (v := .agg (bxA (hullX a b))) 3 hS ?_ (hy := by intro wz hz; exact exec_load_at 26 (.tmp 6) rfl (gc) rfl (bxA (hullX a b)) 4 strXr rfl (hz.1.c))
              refine wpAnyH_ready (rs := [4]) (by kernel_rfl) (by simp) ?_
              refine AllReadyH.cons rfl (fun K hK => ?_) AllReadyH.nil
              go_simp
              refine (joined_any a b (hullX a b) _).mono ?_
              rintro e z5 ⟨rfl, hb5⟩
              obtain ⟨cs5, hcs5, hr5⟩ := hS.2
              have hT5 : RgJ w gc a b (hullX a b) z5 ∧ ∃ cs : Array Value, cs.size = 4 ∧ At z5 (w.heap.size + 2) 26 cs := ⟨hS.1.call hb5, cs5, hcs5, hr5.under hb5 hr5.lt⟩
              clear hcs5 hr5 hb5
              refine hK.out _ _ (hT5) (fun hT => ?_)
              clear hK hS
              have hS := hT
              clear hT
              refine wpAnyH_ready (rs := [5]) (by kernel_rfl) (by simp) ?_
              refine AllReadyH.cons rfl (fun K hK => ?_) AllReadyH.nil
              rw [if_pos (by rfl)]
              obtain ⟨cs5, hcs5, hr5⟩ := hS.2
              refine wp_store_at 26 (.tmp 4) (.tmp 49) rfl rfl (w.heap.size + 2) rfl (bxA (hullX a b)) cs5 4 rfl strXr rfl hcs5 (bxA_one _) hr5 ?_
              intro w9 h9 g9
              have H9 := Lib.hid h9
              have HR9 := Lib.hid (hS.1.store (by have := HG.out; omega) g9)
              have hT9 : RgJ w gc a b (hullX a b) w9 ∧ ∃ cs : Array Value, cs.size = 4 ∧ At w9 (w.heap.size + 2) 26 cs := ⟨HR9.out, _, rfl, h9⟩
              clear h9 g9 hr5 hcs5
              refine hK.out _ _ (hT9) (fun hT => ?_)
              clear hK hS
              have hS := hT
              clear hT
              refine tkS 6 hS ?_
              refine wpAnyH_done (by kernel_rfl) ?_ _
              clear hS
              go_wp2_with fail
              rw [HE.out]
              exact bodyPost_ret (results_at2 (g := w.heap.size + 2) rfl H9.out strXr rfl rfl rfl) rfl ⟨rfl, HR9.out.bel⟩
            · have HU : Hid (hullX a b = ⟨a.x0, a.y0, b.x1, a.y1⟩) := by show _ = _; unfold hullX; rw [if_neg h0]; rw [if_neg h1]; rw [if_pos h2]; rw [if_neg h3]
              go_upto_region 12 with fail
              have HJ4 : Hid (JnS w 26 a b (y3.setCell ⟨gc, 2, none⟩ (.int .i64 b.x1))) := ⟨(HJ3.out.a.other (p := ⟨gc, 2, none⟩) (by show w.heap.size ≠ gc; omega) (.int .i64 b.x1)), (HJ3.out.b.other (p := ⟨gc, 2, none⟩) (by show w.heap.size + 1 ≠ gc; omega) (.int .i64 b.x1)), (HJ3.out.r.other (p := ⟨gc, 2, none⟩) (by show w.heap.size + 2 ≠ gc; omega) (.int .i64 b.x1)), (HJ3.out.bel.setCell (p := ⟨gc, 2, none⟩) (by show w.heap.size ≤ gc; omega) (.int .i64 b.x1))⟩
              have HC4 : Hid (At (y3.setCell ⟨gc, 2, none⟩ (.int .i64 b.x1)) gc 26 (bxA (hullX a b))) := by
                have := (HC3.out.set 2 (.int .i64 b.x1))
                rw [HU.out]
                exact this
              generalize (y3.setCell ⟨gc, 2, none⟩ (.int .i64 b.x1)) = y4 at HJ4 HC4 ⊢
              refine wp_region_held_drew (S := fun wz => RgJ w gc a b (hullX a b) wz ∧ ∃ cs : Array Value, cs.size = 4 ∧ At wz (w.heap.size + 2) 26 cs) (by kernel_rfl) ⟨⟨HJ4.out.a, HJ4.out.b, HC4.out, HJ4.out.bel.drew⟩, _, rfl, HJ4.out.r⟩ (fun hS => ?_)
              refine tkS (v := .agg (bxA (hullX a b))) 0 hS ?_ (hy := by intro wz hz; exact exec_load_at 26 (.tmp 6) rfl (gc) rfl (bxA (hullX a b)) 4 strXr rfl (hz.1.c))
              refine tkS (v := .agg (bxA a)) 1 hS ?_ (hy := by intro wz hz; exact exec_load_at 26 (.tmp 2) rfl (w.heap.size) rfl (bxA a) 4 strXr rfl (hz.1.a))
              refine tkS (v := .agg (bxA b)) 2 hS ?_ (hy := by intro wz hz; exact exec_load_at 26 (.tmp 3) rfl (w.heap.size + 1) rfl (bxA b) 4 strXr rfl (hz.1.b))
              refine tkS (v := .agg (bxA (hullX a b))) 3 hS ?_ (hy := by intro wz hz; exact exec_load_at 26 (.tmp 6) rfl (gc) rfl (bxA (hullX a b)) 4 strXr rfl (hz.1.c))
              refine wpAnyH_ready (rs := [4]) (by kernel_rfl) (by simp) ?_
              refine AllReadyH.cons rfl (fun K hK => ?_) AllReadyH.nil
              go_simp
              refine (joined_any a b (hullX a b) _).mono ?_
              rintro e z5 ⟨rfl, hb5⟩
              obtain ⟨cs5, hcs5, hr5⟩ := hS.2
              have hT5 : RgJ w gc a b (hullX a b) z5 ∧ ∃ cs : Array Value, cs.size = 4 ∧ At z5 (w.heap.size + 2) 26 cs := ⟨hS.1.call hb5, cs5, hcs5, hr5.under hb5 hr5.lt⟩
              clear hcs5 hr5 hb5
              refine hK.out _ _ (hT5) (fun hT => ?_)
              clear hK hS
              have hS := hT
              clear hT
              refine wpAnyH_ready (rs := [5]) (by kernel_rfl) (by simp) ?_
              refine AllReadyH.cons rfl (fun K hK => ?_) AllReadyH.nil
              rw [if_pos (by rfl)]
              obtain ⟨cs5, hcs5, hr5⟩ := hS.2
              refine wp_store_at 26 (.tmp 4) (.tmp 49) rfl rfl (w.heap.size + 2) rfl (bxA (hullX a b)) cs5 4 rfl strXr rfl hcs5 (bxA_one _) hr5 ?_
              intro w9 h9 g9
              have H9 := Lib.hid h9
              have HR9 := Lib.hid (hS.1.store (by have := HG.out; omega) g9)
              have hT9 : RgJ w gc a b (hullX a b) w9 ∧ ∃ cs : Array Value, cs.size = 4 ∧ At w9 (w.heap.size + 2) 26 cs := ⟨HR9.out, _, rfl, h9⟩
              clear h9 g9 hr5 hcs5
              refine hK.out _ _ (hT9) (fun hT => ?_)
              clear hK hS
              have hS := hT
              clear hT
              refine tkS 6 hS ?_
              refine wpAnyH_done (by kernel_rfl) ?_ _
              clear hS
              go_wp2_with fail
              rw [HE.out]
              exact bodyPost_ret (results_at2 (g := w.heap.size + 2) rfl H9.out strXr rfl rfl rfl) rfl ⟨rfl, HR9.out.bel⟩
          · by_cases h3 : a.y1 < b.y1
            · have HU : Hid (hullX a b = ⟨a.x0, a.y0, a.x1, b.y1⟩) := by show _ = _; unfold hullX; rw [if_neg h0]; rw [if_neg h1]; rw [if_neg h2]; rw [if_pos h3]
              go_upto_region 12 with fail
              have HJ4 : Hid (JnS w 26 a b (y3.setCell ⟨gc, 3, none⟩ (.int .i64 b.y1))) := ⟨(HJ3.out.a.other (p := ⟨gc, 3, none⟩) (by show w.heap.size ≠ gc; omega) (.int .i64 b.y1)), (HJ3.out.b.other (p := ⟨gc, 3, none⟩) (by show w.heap.size + 1 ≠ gc; omega) (.int .i64 b.y1)), (HJ3.out.r.other (p := ⟨gc, 3, none⟩) (by show w.heap.size + 2 ≠ gc; omega) (.int .i64 b.y1)), (HJ3.out.bel.setCell (p := ⟨gc, 3, none⟩) (by show w.heap.size ≤ gc; omega) (.int .i64 b.y1))⟩
              have HC4 : Hid (At (y3.setCell ⟨gc, 3, none⟩ (.int .i64 b.y1)) gc 26 (bxA (hullX a b))) := by
                have := (HC3.out.set 3 (.int .i64 b.y1))
                rw [HU.out]
                exact this
              generalize (y3.setCell ⟨gc, 3, none⟩ (.int .i64 b.y1)) = y4 at HJ4 HC4 ⊢
              refine wp_region_held_drew (S := fun wz => RgJ w gc a b (hullX a b) wz ∧ ∃ cs : Array Value, cs.size = 4 ∧ At wz (w.heap.size + 2) 26 cs) (by kernel_rfl) ⟨⟨HJ4.out.a, HJ4.out.b, HC4.out, HJ4.out.bel.drew⟩, _, rfl, HJ4.out.r⟩ (fun hS => ?_)
              refine tkS (v := .agg (bxA (hullX a b))) 0 hS ?_ (hy := by intro wz hz; exact exec_load_at 26 (.tmp 6) rfl (gc) rfl (bxA (hullX a b)) 4 strXr rfl (hz.1.c))
              refine tkS (v := .agg (bxA a)) 1 hS ?_ (hy := by intro wz hz; exact exec_load_at 26 (.tmp 2) rfl (w.heap.size) rfl (bxA a) 4 strXr rfl (hz.1.a))
              refine tkS (v := .agg (bxA b)) 2 hS ?_ (hy := by intro wz hz; exact exec_load_at 26 (.tmp 3) rfl (w.heap.size + 1) rfl (bxA b) 4 strXr rfl (hz.1.b))
              refine tkS (v := .agg (bxA (hullX a b))) 3 hS ?_ (hy := by intro wz hz; exact exec_load_at 26 (.tmp 6) rfl (gc) rfl (bxA (hullX a b)) 4 strXr rfl (hz.1.c))
              refine wpAnyH_ready (rs := [4]) (by kernel_rfl) (by simp) ?_
              refine AllReadyH.cons rfl (fun K hK => ?_) AllReadyH.nil
              go_simp
              refine (joined_any a b (hullX a b) _).mono ?_
              rintro e z5 ⟨rfl, hb5⟩
              obtain ⟨cs5, hcs5, hr5⟩ := hS.2
              have hT5 : RgJ w gc a b (hullX a b) z5 ∧ ∃ cs : Array Value, cs.size = 4 ∧ At z5 (w.heap.size + 2) 26 cs := ⟨hS.1.call hb5, cs5, hcs5, hr5.under hb5 hr5.lt⟩
              clear hcs5 hr5 hb5
              refine hK.out _ _ (hT5) (fun hT => ?_)
              clear hK hS
              have hS := hT
              clear hT
              refine wpAnyH_ready (rs := [5]) (by kernel_rfl) (by simp) ?_
              refine AllReadyH.cons rfl (fun K hK => ?_) AllReadyH.nil
              rw [if_pos (by rfl)]
              obtain ⟨cs5, hcs5, hr5⟩ := hS.2
              refine wp_store_at 26 (.tmp 4) (.tmp 49) rfl rfl (w.heap.size + 2) rfl (bxA (hullX a b)) cs5 4 rfl strXr rfl hcs5 (bxA_one _) hr5 ?_
              intro w9 h9 g9
              have H9 := Lib.hid h9
              have HR9 := Lib.hid (hS.1.store (by have := HG.out; omega) g9)
              have hT9 : RgJ w gc a b (hullX a b) w9 ∧ ∃ cs : Array Value, cs.size = 4 ∧ At w9 (w.heap.size + 2) 26 cs := ⟨HR9.out, _, rfl, h9⟩
              clear h9 g9 hr5 hcs5
              refine hK.out _ _ (hT9) (fun hT => ?_)
              clear hK hS
              have hS := hT
              clear hT
              refine tkS 6 hS ?_
              refine wpAnyH_done (by kernel_rfl) ?_ _
              clear hS
              go_wp2_with fail
              rw [HE.out]
              exact bodyPost_ret (results_at2 (g := w.heap.size + 2) rfl H9.out strXr rfl rfl rfl) rfl ⟨rfl, HR9.out.bel⟩
            · have HU : Hid (hullX a b = ⟨a.x0, a.y0, a.x1, a.y1⟩) := by show _ = _; unfold hullX; rw [if_neg h0]; rw [if_neg h1]; rw [if_neg h2]; rw [if_neg h3]
              go_upto_region 12 with fail
              have HJ4 : Hid (JnS w 26 a b y3) := ⟨HJ3.out.a, HJ3.out.b, HJ3.out.r, HJ3.out.bel⟩
              have HC4 : Hid (At y3 gc 26 (bxA (hullX a b))) := by
                have := HC3.out
                rw [HU.out]
                exact this
              have e34 : y3 = y3 := rfl
              clear e34
              generalize y3 = y4 at HJ4 HC4 ⊢
              refine wp_region_held_drew (S := fun wz => RgJ w gc a b (hullX a b) wz ∧ ∃ cs : Array Value, cs.size = 4 ∧ At wz (w.heap.size + 2) 26 cs) (by kernel_rfl) ⟨⟨HJ4.out.a, HJ4.out.b, HC4.out, HJ4.out.bel.drew⟩, _, rfl, HJ4.out.r⟩ (fun hS => ?_)
              refine tkS (v := .agg (bxA (hullX a b))) 0 hS ?_ (hy := by intro wz hz; exact exec_load_at 26 (.tmp 6) rfl (gc) rfl (bxA (hullX a b)) 4 strXr rfl (hz.1.c))
              refine tkS (v := .agg (bxA a)) 1 hS ?_ (hy := by intro wz hz; exact exec_load_at 26 (.tmp 2) rfl (w.heap.size) rfl (bxA a) 4 strXr rfl (hz.1.a))
              refine tkS (v := .agg (bxA b)) 2 hS ?_ (hy := by intro wz hz; exact exec_load_at 26 (.tmp 3) rfl (w.heap.size + 1) rfl (bxA b) 4 strXr rfl (hz.1.b))
              refine tkS (v := .agg (bxA (hullX a b))) 3 hS ?_ (hy := by intro wz hz; exact exec_load_at 26 (.tmp 6) rfl (gc) rfl (bxA (hullX a b)) 4 strXr rfl (hz.1.c))
              refine wpAnyH_ready (rs := [4]) (by kernel_rfl) (by simp) ?_
              refine AllReadyH.cons rfl (fun K hK => ?_) AllReadyH.nil
              go_simp
              refine (joined_any a b (hullX a b) _).mono ?_
              rintro e z5 ⟨rfl, hb5⟩
              obtain ⟨cs5, hcs5, hr5⟩ := hS.2
              have hT5 : RgJ w gc a b (hullX a b) z5 ∧ ∃ cs : Array Value, cs.size = 4 ∧ At z5 (w.heap.size + 2) 26 cs := ⟨hS.1.call hb5, cs5, hcs5, hr5.under hb5 hr5.lt⟩
              clear hcs5 hr5 hb5
              refine hK.out _ _ (hT5) (fun hT => ?_)
              clear hK hS
              have hS := hT
              clear hT
              refine wpAnyH_ready (rs := [5]) (by kernel_rfl) (by simp) ?_
              refine AllReadyH.cons rfl (fun K hK => ?_) AllReadyH.nil
              rw [if_pos (by rfl)]
              obtain ⟨cs5, hcs5, hr5⟩ := hS.2
              refine wp_store_at 26 (.tmp 4) (.tmp 49) rfl rfl (w.heap.size + 2) rfl (bxA (hullX a b)) cs5 4 rfl strXr rfl hcs5 (bxA_one _) hr5 ?_
              intro w9 h9 g9
              have H9 := Lib.hid h9
              have HR9 := Lib.hid (hS.1.store (by have := HG.out; omega) g9)
              have hT9 : RgJ w gc a b (hullX a b) w9 ∧ ∃ cs : Array Value, cs.size = 4 ∧ At w9 (w.heap.size + 2) 26 cs := ⟨HR9.out, _, rfl, h9⟩
              clear h9 g9 hr5 hcs5
              refine hK.out _ _ (hT9) (fun hT => ?_)
              clear hK hS
              have hS := hT
              clear hT
              refine tkS 6 hS ?_
              refine wpAnyH_done (by kernel_rfl) ?_ _
              clear hS
              go_wp2_with fail
              rw [HE.out]
              exact bodyPost_ret (results_at2 (g := w.heap.size + 2) rfl H9.out strXr rfl rfl rfl) rfl ⟨rfl, HR9.out.bel⟩
end Go.Proofs.Ytgjkbnplpioloaa
