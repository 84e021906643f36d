/-
  Mark.
  Conditions: at most 90000 records and pages.
-/
import Derived.Test.YtpffnjnncgmgnaaB9
namespace Go.Proofs.Ytpffnjnncgmgnaa
open Go.RowKit
attribute [local go_sem] Oper.semAt_some
set_option maxRecDepth 20000

set_option maxHeartbeats 6400000 in
theorem Mark_any (d : Int) (PA : Option Addr) (pn pc : Nat) (RA : Option Addr) (rn rc : Nat) (ps : List Int) (rs : List Rc) (id : Nat) (b : Bool) (w : World) (h : BkL w PA pn RA rn ps rs) (hpn : pn ≤ 90000) (hrn : rn ≤ 90000) :
    Calls Try.prog 22 #[.agg (bkA d (.slice PA pn pc) (.slice RA rn rc)), .int .u64 (id : Int), .bool b] w (RetBC w d ps pn (markR rs id b).1 (.bool (markR rs id b).2)) := by
  have HRN := Lib.hid h.r.rclen
  have HBK := Lib.hid h
  clear h
  go_enter Try.func22, Try.ntmps22
  go_upto_region 1 with fail
  have hz0 : (#[Value.int .i64 0, .slice none 0 0, .slice none 0 0] : Array Value) = zbk := rfl
  rw [hz0]
  have HZ0 := Lib.hid hz0
  clear hz0
  have HA2 : Hid (At ((w.alloc (.cells (bkA d (.slice PA pn pc) (.slice RA rn rc)) 29)).alloc (.cells zbk 29)) w.heap.size 29 (bkA d (.slice PA pn pc) (.slice RA rn rc))) := (At.new w 29 _).alloc _
  have HA4 : Hid (At ((w.alloc (.cells (bkA d (.slice PA pn pc) (.slice RA rn rc)) 29)).alloc (.cells zbk 29)) (w.heap.size + 1) 29 zbk) := by
    have := At.new (w.alloc (.cells (bkA d (.slice PA pn pc) (.slice RA rn rc)) 29)) 29 zbk
    rw [World.size_alloc] at this
    exact this
  have HB0 : Hid (Below w.heap.size w ((w.alloc (.cells (bkA d (.slice PA pn pc) (.slice RA rn rc)) 29)).alloc (.cells zbk 29))) := ((Below.refl _ w).alloc (Nat.le_refl _) _).alloc (by simp) _
  generalize ((w.alloc (.cells (bkA d (.slice PA pn pc) (.slice RA rn rc)) 29)).alloc (.cells zbk 29)) = w1 at HA2 HA4 HB0 ⊢
  rcases idxP_cases (fun x => x.id == id) rs with h2 | ⟨q, hql, h2⟩
  · have HE : Hid (markR rs id b = (rs, false)) := by show _ = _; unfold markR; rw [h2]; rfl
    have HQ := Lib.hid h2
    clear h2
    go_wp2_with (first
      | (refine wpList_load_at 29 10 (.tmp 3) rfl rfl rfl w.heap.size rfl (bkA d (.slice PA pn pc) (.slice RA rn rc)) 3 strBk rfl HA2.out ?_)
      | (go_at_call 39; refine (twin_any d PA pn pc RA rn rc ps rs _ (HBK.out.below HB0.out) (by omega) (by omega)).mono ?_; rintro e z1 ⟨v, rfl, hv⟩; obtain ⟨A5, c5, A6, c6, rfl, h5, h6, hb1⟩ := hv; have HO5 := Lib.hid (own_base h5 HB0.out.size); have HO6 := Lib.hid (own_base h6 HB0.out.size); have HW1 := Lib.hid (HB0.out.trans (hb1.mono HB0.out.size)); have HA21 := Lib.hid (HA2.out.under hb1 HA2.out.lt); have HA41 := Lib.hid (HA4.out.under hb1 HA4.out.lt); clear h5 h6 hb1)
      | (refine wpList_store_new 29 (.tmp 8) (.tmp 11) rfl rfl rfl z1.heap.size z1 rfl rfl (bkA d (.slice A5 pn c5) (.slice A6 rn c6)) zbk 3 rfl strBk rfl rfl (bkA_one _ _ _ _ _ _ _) rfl ?_; have hk := (Below.refl z1.heap.size z1).alloc (Nat.le_refl _) (.cells (bkA d (.slice A5 pn c5) (.slice A6 rn c6)) 29); have HA8 := Lib.hid (At.new z1 29 (bkA d (.slice A5 pn c5) (.slice A6 rn c6))); have HO58 := Lib.hid (own_under HO5.out hk (Nat.le_refl _)); have HO68 := Lib.hid (own_under HO6.out hk (Nat.le_refl _)); have HW8 := Lib.hid (HW1.out.trans (hk.mono HW1.out.size)); have HA28 := Lib.hid (HA21.out.under hk HA21.out.lt); have HA48 := Lib.hid (HA41.out.under hk HA41.out.lt); clear hk; generalize z1.alloc (.cells (bkA d (.slice A5 pn c5) (.slice A6 rn c6)) 29) = z8 at HA8 HO58 HO68 HW8 HA28 HA48 ⊢)
      | (refine wpList_load_at 29 12 (.tmp 3) rfl rfl rfl w.heap.size rfl (bkA d (.slice PA pn pc) (.slice RA rn rc)) 3 strBk rfl HA28.out ?_)
      | (go_at_call 12; refine (Find_any d PA pn pc RA rn rc rs id _ (HBK.out.r.below HW8.out) (by omega)).mono ?_; rintro e z2 ⟨rfl, hk⟩; have HA9 := Lib.hid (HA8.out.under hk HA8.out.lt); have HO59 := Lib.hid (own_under HO58.out hk (Nat.le_refl _)); have HO69 := Lib.hid (own_under HO68.out hk (Nat.le_refl _)); have HW9 := Lib.hid (HW8.out.trans (hk.mono HW8.out.size)); have HA49 := Lib.hid (HA48.out.under hk HA48.out.lt); clear hk; rw [HQ.out])
      | (refine wpList_load_at 29 17 (.tmp 8) rfl rfl rfl z1.heap.size rfl (bkA d (.slice A5 pn c5) (.slice A6 rn c6)) 3 strBk rfl HA9.out ?_)
      | (refine wpList_store_at 29 (.tmp 6) (.tmp 17) rfl rfl rfl (w.heap.size + 1) rfl (bkA d (.slice A5 pn c5) (.slice A6 rn c6)) _ 3 rfl strBk rfl rfl (bkA_one _ _ _ _ _ _ _) HA49.out ?_; intro w9 ha9 hg9; have A9 := Lib.hid ha9; have G9 := Lib.hid hg9; clear ha9 hg9)
      )
    have HV : Hid (RetBk w d ps pn rs rn (.agg (bkA d (.slice A5 pn c5) (.slice A6 rn c6))) z2) := ⟨A5, c5, A6, c6, rfl, HO59.out, HO69.out, HW9.out⟩
    have HR := Lib.hid (HV.out.put (Below.refl _ w) HA49.out G9.out (by omega : w.heap.size ≤ w.heap.size + 1))
    try dsimp only [Act.put]
    rw [HE.out]
    exact bodyPost_ret (results_at2 (g := w.heap.size + 1) rfl A9.out strBk rfl rfl rfl) rfl (RetBC.mk HR.out)
  · have HE : Hid (markR rs id b = (ghostAt rs q b, true)) := by show _ = _; unfold markR; rw [h2, if_pos (by omega)]; rfl
    have HQ := Lib.hid h2
    obtain ⟨r, hr⟩ : ∃ r, rs[q] = r := ⟨_, rfl⟩
    have HC : Hid ((rcsL rs)[q * 6 + 5]? = some (.bool r.ghost)) := rcsL_get rs q hql 5 _ (by rw [hr]; rfl)
    have HQL := Lib.hid hql
    clear h2 hr
    rw [HRN.out] at hql
    go_wp2_with (first
      | (refine wpList_load_at 29 10 (.tmp 3) rfl rfl rfl w.heap.size rfl (bkA d (.slice PA pn pc) (.slice RA rn rc)) 3 strBk rfl HA2.out ?_)
      | (go_at_call 39; refine (twin_any d PA pn pc RA rn rc ps rs _ (HBK.out.below HB0.out) (by omega) (by omega)).mono ?_; rintro e z1 ⟨v, rfl, hv⟩; obtain ⟨A5, c5, A6, c6, rfl, h5, h6, hb1⟩ := hv; have HO5 := Lib.hid (own_base h5 HB0.out.size); have HO6 := Lib.hid (own_base h6 HB0.out.size); have HW1 := Lib.hid (HB0.out.trans (hb1.mono HB0.out.size)); have HA21 := Lib.hid (HA2.out.under hb1 HA2.out.lt); have HA41 := Lib.hid (HA4.out.under hb1 HA4.out.lt); clear h5 h6 hb1)
      | (refine wpList_store_new 29 (.tmp 8) (.tmp 11) rfl rfl rfl z1.heap.size z1 rfl rfl (bkA d (.slice A5 pn c5) (.slice A6 rn c6)) zbk 3 rfl strBk rfl rfl (bkA_one _ _ _ _ _ _ _) rfl ?_; have hk := (Below.refl z1.heap.size z1).alloc (Nat.le_refl _) (.cells (bkA d (.slice A5 pn c5) (.slice A6 rn c6)) 29); have HA8 := Lib.hid (At.new z1 29 (bkA d (.slice A5 pn c5) (.slice A6 rn c6))); have HO58 := Lib.hid (own_under HO5.out hk (Nat.le_refl _)); have HO68 := Lib.hid (own_under HO6.out hk (Nat.le_refl _)); have HW8 := Lib.hid (HW1.out.trans (hk.mono HW1.out.size)); have HA28 := Lib.hid (HA21.out.under hk HA21.out.lt); have HA48 := Lib.hid (HA41.out.under hk HA41.out.lt); clear hk; generalize z1.alloc (.cells (bkA d (.slice A5 pn c5) (.slice A6 rn c6)) 29) = z8 at HA8 HO58 HO68 HW8 HA28 HA48 ⊢)
      | (refine wpList_load_at 29 12 (.tmp 3) rfl rfl rfl w.heap.size rfl (bkA d (.slice PA pn pc) (.slice RA rn rc)) 3 strBk rfl HA28.out ?_)
      | (go_at_call 12; refine (Find_any d PA pn pc RA rn rc rs id _ (HBK.out.r.below HW8.out) (by omega)).mono ?_; rintro e z2 ⟨rfl, hk⟩; have HA9 := Lib.hid (HA8.out.under hk HA8.out.lt); have HO59 := Lib.hid (own_under HO58.out hk (Nat.le_refl _)); have HO69 := Lib.hid (own_under HO68.out hk (Nat.le_refl _)); have HW9 := Lib.hid (HW8.out.trans (hk.mono HW8.out.size)); have HA49 := Lib.hid (HA48.out.under hk HA48.out.lt); clear hk; rw [HQ.out]; have c82 : z2.cell? ⟨z1.heap.size, 2, none⟩ = some (.slice A6 rn c6) := HA9.out.cell 2; obtain ⟨g6, k6, e6, hgB, hcap⟩ := own_some HO69.out (by omega); injection e6 with e6 _ e7; subst e6 e7; have cG := own_cell HO69.out HC.out; have fG := HO69.out.frozenAt (q * 6 + 5); have hst := HO69.out.stored (q * 6 + 5) (.bool b); have HA93 := Lib.hid (HA9.out.grown hst.2 (own_ne HO69.out HA9.out (by decide))); have HA43 := Lib.hid (HA49.out.grown hst.2 (own_ne HO69.out HA49.out (by decide))); have HO53 := Lib.hid (HO59.out.kept hst.2 (.inr (row_ne HO69.out HO59.out (by decide) rfl))); have h63 := hst.1; rw [rcsL_ghost b rs q HQL.out] at h63; have HO63 := Lib.hid h63; have HW3 := Lib.hid (HW9.out.setCell (p := ⟨g6, q * 6 + 5, none⟩) hgB (.bool b)); clear hst h63)
      | (refine wpList_load_at 29 24 (.tmp 8) rfl rfl rfl z1.heap.size rfl (bkA d (.slice A5 pn c5) (.slice (some ⟨g6, 0, none⟩) rn c6)) 3 strBk rfl HA93.out ?_)
      | (refine wpList_store_at 29 (.tmp 6) (.tmp 24) rfl rfl rfl (w.heap.size + 1) rfl (bkA d (.slice A5 pn c5) (.slice (some ⟨g6, 0, none⟩) rn c6)) _ 3 rfl strBk rfl rfl (bkA_one _ _ _ _ _ _ _) HA43.out ?_; intro w9 ha9 hg9; have A9 := Lib.hid ha9; have G9 := Lib.hid hg9; clear ha9 hg9)
      )
    have HV : Hid (RetBk w d ps pn (ghostAt rs q b) rn (.agg (bkA d (.slice A5 pn c5) (.slice (some ⟨g6, 0, none⟩) rn c6))) (z2.setCell ⟨g6, q * 6 + 5, none⟩ (.bool b))) := ⟨A5, c5, _, c6, rfl, HO53.out, HO63.out, HW3.out⟩
    have HR := Lib.hid (HV.out.put (Below.refl _ w) HA43.out G9.out (by omega : w.heap.size ≤ w.heap.size + 1))
    try dsimp only [Act.put]
    rw [HE.out]
    exact bodyPost_ret (results_at2 (g := w.heap.size + 1) rfl A9.out strBk rfl rfl rfl) rfl (RetBC.mk HR.out)
end Go.Proofs.Ytpffnjnncgmgnaa
