/-
  Add.
  Conditions: at most 90000 points and pages.
-/
import Derived.Test.YtgjkbnplpioloaaB8
namespace Go.Proofs.Ytgjkbnplpioloaa
open Go.RowKit
attribute [local go_sem] Oper.semAt_some
set_option maxRecDepth 20000

/-- A new bucket and a second result. -/
def RetBC (w : World) (d : Bx) (ps : List Int) (pn : Nat) (rs : List Rc) (x : Value) (e : Ending) (z : World) : Prop := ∃ v, e = .returned (.tuple #[v, x]) ∧ RetBk w d ps pn rs rs.length v z
theorem RetBC.mk {w z : World} {d : Bx} {ps : List Int} {pn rn : Nat} {rs : List Rc} {v x : Value} (h : RetBk w d ps pn rs rn v z) : RetBC w d ps pn rs x (.returned (.tuple #[v, x])) z := by
  obtain ⟨PA, pc, RA, rc, hv, hp, hr, hb⟩ := h
  have h2 : Lz NoX z 4 RA rn (rcsL rs) := Lz.of_own hr (fun _ h => h.elim)
  have := h2.rclen
  subst this
  exact ⟨v, rfl, PA, pc, RA, rc, hv, hp, hr, hb⟩
set_option maxHeartbeats 6400000 in
theorem Add_any (d : Bx) (PA : Option Addr) (pn pc : Nat) (RA : Option Addr) (rn rc : Nat) (ps : List Int) (rs : List Rc) (r : Rc) (w : World) (h : BkL w PA pn RA rn ps rs) (hpn : pn ≤ 90000) (hrn : rn ≤ 90000) (hrc : rn ≤ rc) :
    Calls Try.prog 21 #[.agg (bkA d (.slice PA pn pc) (.slice RA rn rc)), .agg (rcA r)] w (RetBC w d ps pn (addR pn rs r).1 (.int .i64 (addR pn rs r).2)) := by
  have HRN := Lib.hid h.r.rclen
  have HBK := Lib.hid h
  clear h
  obtain ⟨q, hq⟩ : ∃ q, idxE r rs = q := ⟨_, rfl⟩
  have HQ := Lib.hid hq
  clear hq
  go_enter Try.func21, Try.ntmps21
  go_upto_region 1 with fail
  have hz0 : (#[Value.int .i64 0, .int .i64 0, .int .i64 0, .int .i64 0, .slice none 0 0, .slice none 0 0] : Array Value) = zbk := rfl
  rw [hz0]
  clear hz0
  have HA2 : Hid (At (((w.alloc (.cells (bkA d (.slice PA pn pc) (.slice RA rn rc)) 44)).alloc (.cells (rcA r) 50)).alloc (.cells zbk 44)) w.heap.size 44 (bkA d (.slice PA pn pc) (.slice RA rn rc))) := ((At.new w 44 _).alloc _).alloc _
  have HA3 : Hid (At (((w.alloc (.cells (bkA d (.slice PA pn pc) (.slice RA rn rc)) 44)).alloc (.cells (rcA r) 50)).alloc (.cells zbk 44)) (w.heap.size + 1) 50 (rcA r)) := by
    have := (At.new (w.alloc (.cells (bkA d (.slice PA pn pc) (.slice RA rn rc)) 44)) 50 (rcA r)).alloc (.cells zbk 44)
    rw [World.size_alloc] at this
    exact this
  have HA4 : Hid (At (((w.alloc (.cells (bkA d (.slice PA pn pc) (.slice RA rn rc)) 44)).alloc (.cells (rcA r) 50)).alloc (.cells zbk 44)) (w.heap.size + 2) 44 zbk) := by
    have := At.new ((w.alloc (.cells (bkA d (.slice PA pn pc) (.slice RA rn rc)) 44)).alloc (.cells (rcA r) 50)) 44 zbk
    rw [World.size_alloc, World.size_alloc] at this
    exact this
  have HB0 : Hid (Below w.heap.size w (((w.alloc (.cells (bkA d (.slice PA pn pc) (.slice RA rn rc)) 44)).alloc (.cells (rcA r) 50)).alloc (.cells zbk 44))) := (((Below.refl _ w).alloc (Nat.le_refl _) _).alloc (by simp) _).alloc (by simp; omega) _
  generalize (((w.alloc (.cells (bkA d (.slice PA pn pc) (.slice RA rn rc)) 44)).alloc (.cells (rcA r) 50)).alloc (.cells zbk 44)) = w1 at HA2 HA3 HA4 HB0 ⊢
  by_cases h1 : roomI pn rn < 1
  · have HE : Hid (addR pn rs r = (rs, 6)) := by show _ = _; unfold addR; rw [if_pos (by rw [HRN.out]; unfold roomI at h1; omega)]
    go_wp2_with (first
      | (refine wpList_load_at 44 8 (.tmp 2) rfl rfl rfl w.heap.size rfl (bkA d (.slice PA pn pc) (.slice RA rn rc)) 6 strBk rfl HA2.out ?_)
      | (go_at_call 24; refine (Room_any d PA pn pc RA rn rc _ (by omega) (by omega)).mono ?_; rintro e z1 ⟨rfl, hz1⟩; have HW1 := Lib.hid (HB0.out.trans (hz1.mono HB0.out.size)); have HA21 := Lib.hid (HA2.out.under hz1 HA2.out.lt); have HA31 := Lib.hid (HA3.out.under hz1 HA3.out.lt); have HA41 := Lib.hid (HA4.out.under hz1 HA4.out.lt); have c21 : z1.cell? ⟨w.heap.size, 5, none⟩ = some (.slice RA rn rc) := HA21.out.cell 5; clear hz1)
      | (refine wpList_load_at 44 11 (.tmp 2) rfl rfl rfl w.heap.size rfl (bkA d (.slice PA pn pc) (.slice RA rn rc)) 6 strBk rfl HA21.out ?_)
      | (go_at_call 36; refine (twin_any d PA pn pc RA rn rc ps rs _ (HBK.out.below HW1.out) (by omega) (by omega)).mono ?_; rintro e z3 ⟨v, rfl, hv⟩; obtain ⟨A5, c5, A6, c6, rfl, h5, h6, hb3⟩ := hv; have HV : Hid (RetBk _ d ps pn rs rn _ z3) := ⟨A5, c5, A6, c6, rfl, h5, h6, hb3⟩; have HA43 := Lib.hid (HA41.out.under hb3 HA41.out.lt); clear h5 h6 hb3)
      | (refine wpList_store_at 44 (.tmp 4) (.tmp 12) rfl rfl rfl (w.heap.size + 2) rfl (bkA d (.slice A5 pn c5) (.slice A6 rn c6)) _ 6 rfl strBk rfl rfl (bkA_one _ _ _ _ _ _ _) HA43.out ?_; intro w9 ha9 hg9; have A9 := Lib.hid ha9; have G9 := Lib.hid hg9; clear ha9 hg9)
      )
    have HR := Lib.hid (HV.out.put HW1.out HA43.out G9.out (by omega : w.heap.size ≤ w.heap.size + 2))
    try dsimp only [Act.put]
    rw [HE.out]
    exact bodyPost_ret (results_at2 (g := w.heap.size + 2) rfl A9.out strBk rfl rfl rfl) rfl (RetBC.mk HR.out)
  · have HN1 : Hid (¬ 8 * pn ≤ rs.length) := by show ¬ _; rw [HRN.out]; unfold roomI at h1; omega
    by_cases h2 : 0 ≤ q
    · have HE : Hid (addR pn rs r = (rs, 8)) := by show _ = _; unfold addR; rw [if_neg HN1.out, if_pos (by rw [HQ.out]; exact h2)]
      go_wp2_with (first
        | (refine wpList_load_at 44 8 (.tmp 2) rfl rfl rfl w.heap.size rfl (bkA d (.slice PA pn pc) (.slice RA rn rc)) 6 strBk rfl HA2.out ?_)
        | (go_at_call 24; refine (Room_any d PA pn pc RA rn rc _ (by omega) (by omega)).mono ?_; rintro e z1 ⟨rfl, hz1⟩; have HW1 := Lib.hid (HB0.out.trans (hz1.mono HB0.out.size)); have HA21 := Lib.hid (HA2.out.under hz1 HA2.out.lt); have HA31 := Lib.hid (HA3.out.under hz1 HA3.out.lt); have HA41 := Lib.hid (HA4.out.under hz1 HA4.out.lt); have c21 : z1.cell? ⟨w.heap.size, 5, none⟩ = some (.slice RA rn rc) := HA21.out.cell 5; clear hz1)
        | (refine wpList_load_at 50 16 (.tmp 3) rfl rfl rfl (w.heap.size + 1) rfl (rcA r) 4 str25 rfl HA31.out ?_)
        | (go_at_call 40; refine (contR_any RA rn rc rs r _ (HBK.out.r.below HW1.out) (by omega)).mono ?_; rintro e z2 ⟨rfl, hz2⟩; have HW2 := Lib.hid (HW1.out.trans (hz2.mono HW1.out.size)); have HA22 := Lib.hid (HA21.out.under hz2 HA21.out.lt); have HA32 := Lib.hid (HA31.out.under hz2 HA31.out.lt); have HA42 := Lib.hid (HA41.out.under hz2 HA41.out.lt); have c22 : z2.cell? ⟨w.heap.size, 5, none⟩ = some (.slice RA rn rc) := HA22.out.cell 5; clear hz2; rw [HQ.out])
        | (refine wpList_load_at 44 18 (.tmp 2) rfl rfl rfl w.heap.size rfl (bkA d (.slice PA pn pc) (.slice RA rn rc)) 6 strBk rfl HA22.out ?_)
        | (go_at_call 36; refine (twin_any d PA pn pc RA rn rc ps rs _ (HBK.out.below HW2.out) (by omega) (by omega)).mono ?_; rintro e z3 ⟨v, rfl, hv⟩; obtain ⟨A5, c5, A6, c6, rfl, h5, h6, hb3⟩ := hv; have HV : Hid (RetBk _ d ps pn rs rn _ z3) := ⟨A5, c5, A6, c6, rfl, h5, h6, hb3⟩; have HA43 := Lib.hid (HA42.out.under hb3 HA42.out.lt); clear h5 h6 hb3)
        | (refine wpList_store_at 44 (.tmp 4) (.tmp 19) rfl rfl rfl (w.heap.size + 2) rfl (bkA d (.slice A5 pn c5) (.slice A6 rn c6)) _ 6 rfl strBk rfl rfl (bkA_one _ _ _ _ _ _ _) HA43.out ?_; intro w9 ha9 hg9; have A9 := Lib.hid ha9; have G9 := Lib.hid hg9; clear ha9 hg9)
        )
      have HR := Lib.hid (HV.out.put HW2.out HA43.out G9.out (by omega : w.heap.size ≤ w.heap.size + 2))
      try dsimp only [Act.put]
      rw [HE.out]
      exact bodyPost_ret (results_at2 (g := w.heap.size + 2) rfl A9.out strBk rfl rfl rfl) rfl (RetBC.mk HR.out)
    · have HE : Hid (addR pn rs r = (rs ++ [r], 0)) := by show _ = _; unfold addR; rw [if_neg HN1.out, if_neg (by rw [HQ.out]; exact h2)]
      go_upto_region 6 with (first
          | (refine wpList_load_at 44 8 (.tmp 2) rfl rfl rfl w.heap.size rfl (bkA d (.slice PA pn pc) (.slice RA rn rc)) 6 strBk rfl HA2.out ?_)
          | (go_at_call 24; refine (Room_any d PA pn pc RA rn rc _ (by omega) (by omega)).mono ?_; rintro e z1 ⟨rfl, hz1⟩; have HW1 := Lib.hid (HB0.out.trans (hz1.mono HB0.out.size)); have HA21 := Lib.hid (HA2.out.under hz1 HA2.out.lt); have HA31 := Lib.hid (HA3.out.under hz1 HA3.out.lt); have HA41 := Lib.hid (HA4.out.under hz1 HA4.out.lt); have c21 : z1.cell? ⟨w.heap.size, 5, none⟩ = some (.slice RA rn rc) := HA21.out.cell 5; clear hz1)
          | (refine wpList_load_at 50 16 (.tmp 3) rfl rfl rfl (w.heap.size + 1) rfl (rcA r) 4 str25 rfl HA31.out ?_)
          | (go_at_call 40; refine (contR_any RA rn rc rs r _ (HBK.out.r.below HW1.out) (by omega)).mono ?_; rintro e z2 ⟨rfl, hz2⟩; have HW2 := Lib.hid (HW1.out.trans (hz2.mono HW1.out.size)); have HA22 := Lib.hid (HA21.out.under hz2 HA21.out.lt); have HA32 := Lib.hid (HA31.out.under hz2 HA31.out.lt); have HA42 := Lib.hid (HA41.out.under hz2 HA41.out.lt); have c22 : z2.cell? ⟨w.heap.size, 5, none⟩ = some (.slice RA rn rc) := HA22.out.cell 5; clear hz2; rw [HQ.out])
          )
      have HS0 : Hid (MkS (w.heap.size + 2) z2 z2.drew) := ⟨(Below.refl _ _).drew, zbk, rfl, HA42.out⟩
      have HSZ := Lib.hid HA42.out.lt
      clear c22 c21
      refine wp_region_held_drew (S := MkS (w.heap.size + 2) z2) (by kernel_rfl) HS0.out (fun hS => ?_)
      refine tkS (v := .agg (bkA d (.slice PA pn pc) (.slice RA rn rc))) 0 hS ?_ (hy := by intro wz hz; have q2 : wz.cell? ⟨w.heap.size, 5, none⟩ = some (.slice RA rn rc) := (hz.1.cell (p := ⟨w.heap.size, 5, none⟩) (by show w.heap.size < w.heap.size + 2; omega)).trans (HA22.out.cell 5); exact exec_load_at 44 (.tmp 2) rfl w.heap.size rfl _ 6 strBk rfl (HA22.out.under hz.1 (by show w.heap.size < w.heap.size + 2; omega)))
      refine tkS 1 hS ?_
      refine tkS 2 hS ?_ (hy := by intro wz hz; have q2 : wz.cell? ⟨w.heap.size, 5, none⟩ = some (.slice RA rn rc) := (hz.1.cell (p := ⟨w.heap.size, 5, none⟩) (by show w.heap.size < w.heap.size + 2; omega)).trans (HA22.out.cell 5); go_simp <;> with_reducible rfl)
      refine tkS 3 hS ?_
      refine tkS 4 hS ?_
      refine tkS (v := .slice RA rn rn) 5 hS ?_ (hy := by intro wz hz; have q2 : wz.cell? ⟨w.heap.size, 5, none⟩ = some (.slice RA rn rc) := (hz.1.cell (p := ⟨w.heap.size, 5, none⟩) (by show w.heap.size < w.heap.size + 2; omega)).trans (HA22.out.cell 5); exact exec_cut (.tmp 25) (.tmp 26) (.tmp 27) rfl RA rn rc rfl rfl rfl hrc (by omega))
      refine tkS (v := .agg (rcA r)) 6 hS ?_ (hy := by intro wz hz; have q2 : wz.cell? ⟨w.heap.size, 5, none⟩ = some (.slice RA rn rc) := (hz.1.cell (p := ⟨w.heap.size, 5, none⟩) (by show w.heap.size < w.heap.size + 2; omega)).trans (HA22.out.cell 5); exact exec_load_at 50 (.tmp 3) rfl (w.heap.size + 1) rfl (rcA r) 4 str25 rfl (HA32.out.under hz.1 (Nat.lt_succ_self _)))
      refine wpAnyH_ready (rs := [7]) (by kernel_rfl) (by simp) ?_
      refine AllReadyH.cons rfl (fun K hK => ?_) AllReadyH.nil
      rw [if_pos (by rfl)]
      refine wp_lit1r 30 (.tmp 29) 40 50 4 (.agg (rcA zrc)) (rcA r) rfl rfl rfl Try.underlying40 rc_zero (by omega) (by omega) rfl ?_
      have HS1 := Lib.hid (hS.call ((Below.refl _ _).alloc (Nat.le_refl _) (.cells (rcA r) 50)))
      refine hK.out _ _ (HS1.out) (fun hT => ?_)
      clear hK hS
      have hS := hT
      clear hT
      refine wpAnyH_ready (rs := [8]) (by kernel_rfl) (by simp) ?_
      refine AllReadyH.cons rfl (fun K hK => ?_) AllReadyH.nil
      rw [if_pos (by rfl)]
      refine wp_grows 31 (.tmp 28) (.tmp 30) rfl rfl RA rn rs rfl (HBK.out.r.below ((HW2.out.trans (hS.1.mono (by omega))))) z2.drew.heap.size r rfl (fun j u hu => new_cells r hu) (by omega) ?_
      intro v8 w8 ho8 hg8
      obtain ⟨A8, c8, rfl, _, _⟩ := pl_own_slice ho8
      have HB8 := Lib.hid ((Below.refl _ _).grown hg8 (Nat.le_refl _) (fun j e => by cases e))
      have HO8 := Lib.hid (own_base ho8 (HW2.out.trans (hS.1.mono (by omega))).size)
      have HY8 := Lib.hid ((HW2.out.trans (hS.1.mono (by omega))).trans (HB8.out.mono (HW2.out.trans (hS.1.mono (by omega))).size))
      have HS8 := Lib.hid (hS.call HB8.out)
      clear ho8 hg8
      refine hK.out _ _ (HS8.out) (fun hT => ?_)
      clear hK hS
      have hS := hT
      clear hT
      refine wpAnyH_ready (rs := [9]) (by kernel_rfl) (by simp) ?_
      refine AllReadyH.cons rfl (fun K hK => ?_) AllReadyH.nil
      go_simp
      refine (with_any d PA pn pc ps _ A8 (rn + 1) c8 w8 (HBK.out.p.below HY8.out) (by omega)).mono ?_
      rintro e y8 ⟨A6, c6, rfl, ho6, hb6⟩
      have hb : True := trivial
      have HO6 := Lib.hid ho6
      have HB6 := Lib.hid hb6
      have HS6 := Lib.hid (hS.call hb6)
      clear ho6 hb6
      refine hK.out _ _ (HS6.out) (fun hT => ?_)
      clear hK hS
      have hS := hT
      clear hT
      refine wpAnyH_ready (rs := [10]) (by kernel_rfl) (by simp) ?_
      refine AllReadyH.cons rfl (fun K hK => ?_) AllReadyH.nil
      rw [if_pos (by rfl)]
      obtain ⟨cs9, hcs9, ha8⟩ := hS.2
      refine wp_store_at 44 (.tmp 4) (.tmp 32) rfl rfl (w.heap.size + 2) rfl (bkA d (.slice A6 pn c6) (.slice A8 (rn + 1) c8)) cs9 6 rfl strBk rfl hcs9 (bkA_one _ _ _ _ _ _ _) ha8 ?_
      intro w9 ha9 hg9
      have A9 := Lib.hid ha9
      have G9 := Lib.hid hg9
      have HSS := Lib.hid (hS.store hg9 ha9 rfl)
      clear ha9 hg9 ha8
      refine hK.out _ _ (HSS.out) (fun hT => ?_)
      clear hK hS
      have hS := hT
      clear hT
      refine tkS 11 hS ?_
      refine wpAnyH_done (by kernel_rfl) ?_ _
      clear hS
      have HV8 : Hid (RetBk w d ps pn (rs ++ [r]) (rn + 1) (.agg (bkA d (.slice A6 pn c6) (.slice A8 (rn + 1) c8))) w9) := RetBk.mk (d := d) HY8.out HO8.out HO6.out HB6.out HS6.out G9.out (by omega)
      go_wp2_with fail
      try dsimp only [Act.put]
      rw [HE.out]
      exact bodyPost_ret (results_at2 (g := w.heap.size + 2) rfl A9.out strBk rfl rfl rfl) rfl (RetBC.mk HV8.out)
end Go.Proofs.Ytgjkbnplpioloaa
