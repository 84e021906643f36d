/-
  Drop.
  Conditions: at most 90000 points and pages.
-/
import Derived.Test.YtgjkbnplpioloaaB11
namespace Go.Proofs.Ytgjkbnplpioloaa
open Go.RowKit
attribute [local go_sem] Oper.semAt_some
set_option maxRecDepth 20000

theorem rcsL_take (l : List Rc) (k : Nat) (h : k ≤ l.length) : (rcsL l).take (k * 4) = rcsL (l.take k) := by
  conv => lhs; rw [← List.take_append_drop k l, rcsL_append]
  have : (rcsL (l.take k)).length = k * 4 := by rw [rcsL_length, List.length_take, Nat.min_eq_left h]
  rw [← this]
  exact List.take_left
theorem rcsL_drop (l : List Rc) (k : Nat) (h : k ≤ l.length) : (rcsL l).drop (k * 4) = rcsL (l.drop k) := by
  conv => lhs; rw [← List.take_append_drop k l, rcsL_append]
  have : (rcsL (l.take k)).length = k * 4 := by rw [rcsL_length, List.length_take, Nat.min_eq_left h]
  rw [← this]
  exact List.drop_left
theorem Lz.rhead {X : Nat → Prop} {w : World} {A : Option Addr} {n k : Nat} {l : List Rc} (h : Lz X w 4 A n (rcsL l)) (hk : k ≤ n) : Lz X w 4 A k (rcsL (l.take k)) := by
  rw [← rcsL_take l k (by rw [h.rclen]; exact hk)]
  exact h.head hk
theorem Lz.rtail {X : Nat → Prop} {w : World} {A : Option Addr} {n k : Nat} {l : List Rc} (h : Lz X w 4 A n (rcsL l)) (hk : k ≤ n) (A' : Option Addr) (hA : k < n → A' = A.map (·.add (k * 4))) : Lz X w 4 A' (n - k) (rcsL (l.drop k)) := by
  rw [← rcsL_drop l k (by rw [h.rclen]; exact hk)]
  exact h.tail hk A' hA
/-- The address of what lies behind the first k. -/
def tlA (A : Option Addr) (c k : Nat) : Option Addr := if c = k then A else A.map (·.add (k * 4))
section
variable {op : Oper} {a : Act}
theorem exec_head {w : World} (x y : Operand) (ho : op.op = .slice 40 x none (some y) none) (A : Option Addr) (n c q : Nat) (hx : a.eval x = .slice A n c) (hy : a.eval y = .int .i64 (q : Int)) (hc : q ≤ c) :
    (execOp a.eval op).run Try.prog w = .ok (.value (.slice A q c)) w := by
  have h0 : (Instr.sliceAt 40 (.slice A n c) none (some (.int .i64 (q : Int))) none).run Try.prog w = .ok (.slice A q c) w := by
    rw [run_sliceAt_slice w 40 _ _ _ _ (by rw [show Try.prog.elem 40 = 50 from rfl]; exact Try.underlying40)]
    rw [run_slice_h w 40 A n c (by rw [show Try.prog.elem 40 = 50 from rfl]; exact Try.underlying40) .i64 (q : Int) (by omega) (by omega)]
    have : (sizeOf (Try.prog.elem 40)).run Try.prog w = .ok 4 w := by go_simp
    rw [this]
    cases A with
    | none => simp [Result.andThen, sliced]
    | some b =>
      have e0 : b.add 0 = b := by unfold Addr.add; simp
      simp [Result.andThen, sliced, e0]
  unfold execOp
  simp [ho, hx, hy, h0, Result.andThen]
theorem exec_tail {w : World} (x y : Operand) (ho : op.op = .slice 40 x (some y) none none) (A : Option Addr) (n c q : Nat) (hx : a.eval x = .slice A n c) (hy : a.eval y = .int .i64 ((q : Int) + 1)) (hc : q < n) :
    (execOp a.eval op).run Try.prog w = .ok (.value (.slice (tlA A c (q + 1)) (n - (q + 1)) (c - (q + 1)))) w := by
  have e1 : ((q : Int) + 1).toNat = q + 1 := by omega
  have h0 : (Instr.sliceAt 40 (.slice A n c) (some (.int .i64 ((q : Int) + 1))) none none).run Try.prog w = .ok (.slice (tlA A c (q + 1)) (n - (q + 1)) (c - (q + 1))) w := by
    rw [run_sliceAt_slice w 40 _ _ _ _ (by rw [show Try.prog.elem 40 = 50 from rfl]; exact Try.underlying40)]
    rw [run_slice_l w 40 A n c (by rw [show Try.prog.elem 40 = 50 from rfl]; exact Try.underlying40) .i64 ((q : Int) + 1) (by omega) (by omega)]
    have : (sizeOf (Try.prog.elem 40)).run Try.prog w = .ok 4 w := by go_simp
    rw [this, e1]
    rfl
  unfold execOp
  simp [ho, hx, hy, h0, Result.andThen]
end
theorem wp_lit2 {o : Oper} {a : Act} {w : World} {K : Act → World → Prop} {Q : Exit → Act → World → Prop} {A B : Option Addr} {n m c e : Nat} (d : Nat) (x y : Operand) (hop : o.dst = some d) (ho : o.op = .buildSlice 88 2 #[(0, x), (1, y)]) (hx : a.eval x = .slice A n c) (hy : a.eval y = .slice B m e)
    (h : K (a.put (some d) (.slice (some ⟨w.heap.size, 0, none⟩) 2 2)) (w.alloc (.cells #[.slice A n c, .slice B m e] 40))) : o.wp Try.prog a w K Q := by
  have hrun : (Instr.buildSlice 88 2 #[(0, .slice A n c), (1, .slice B m e)]).run Try.prog w = .ok (.slice (some ⟨w.heap.size, 0, none⟩) 2 2) (w.alloc (.cells #[.slice A n c, .slice B m e] 40)) := by go_simp
  unfold Oper.wp
  simp [execOp, ho, hx, hy, hrun, Result.andThen]
  simp only [Oper.upon]
  rw [hop]
  exact h
theorem drop_split (l : List Rc) (q : Nat) : l.take q ++ l.drop (q + 1) = dropAt l q := (List.eraseIdx_eq_take_drop_succ l q).symm
set_option maxHeartbeats 6400000 in
theorem Drop_any (d : Bx) (PA : Option Addr) (pn pc : Nat) (RA : Option Addr) (rn rc : Nat) (ps : List Int) (rs : List Rc) (r : Rc) (w : World) (h : BkL w PA pn RA rn ps rs) (hpn : pn ≤ 90000) (hrn : rn ≤ 90000) (hrc : rn ≤ rc) :
    Calls Try.prog 19 #[.agg (bkA d (.slice PA pn pc) (.slice RA rn rc)), .agg (rcA r)] w (RetBC w d ps pn (dropR rs r).1 (.bool (dropR rs r).2)) := by
  have HRN := Lib.hid h.r.rclen
  have HBK := Lib.hid h
  clear h
  go_enter Try.func19, Try.ntmps19
  go_upto_region 1 with fail
  have hz0 : (#[Value.int .i64 0, .int .i64 0, .int .i64 0, .int .i64 0, .slice none 0 0, .slice none 0 0] : Array Value) = zbk := rfl
  rw [hz0]
  clear hz0
  have HA2 : Hid (At (((w.alloc (.cells (bkA d (.slice PA pn pc) (.slice RA rn rc)) 44)).alloc (.cells (rcA r) 50)).alloc (.cells zbk 44)) w.heap.size 44 (bkA d (.slice PA pn pc) (.slice RA rn rc))) := ((At.new w 44 _).alloc _).alloc _
  have HA3 : Hid (At (((w.alloc (.cells (bkA d (.slice PA pn pc) (.slice RA rn rc)) 44)).alloc (.cells (rcA r) 50)).alloc (.cells zbk 44)) (w.heap.size + 1) 50 (rcA r)) := by
    have := (At.new (w.alloc (.cells (bkA d (.slice PA pn pc) (.slice RA rn rc)) 44)) 50 (rcA r)).alloc (.cells zbk 44)
    rw [World.size_alloc] at this
    exact this
  have HA4 : Hid (At (((w.alloc (.cells (bkA d (.slice PA pn pc) (.slice RA rn rc)) 44)).alloc (.cells (rcA r) 50)).alloc (.cells zbk 44)) (w.heap.size + 2) 44 zbk) := by
    have := At.new ((w.alloc (.cells (bkA d (.slice PA pn pc) (.slice RA rn rc)) 44)).alloc (.cells (rcA r) 50)) 44 zbk
    rw [World.size_alloc, World.size_alloc] at this
    exact this
  have HB0 : Hid (Below w.heap.size w (((w.alloc (.cells (bkA d (.slice PA pn pc) (.slice RA rn rc)) 44)).alloc (.cells (rcA r) 50)).alloc (.cells zbk 44))) := (((Below.refl _ w).alloc (Nat.le_refl _) _).alloc (by simp) _).alloc (by simp; omega) _
  generalize (((w.alloc (.cells (bkA d (.slice PA pn pc) (.slice RA rn rc)) 44)).alloc (.cells (rcA r) 50)).alloc (.cells zbk 44)) = w1 at HA2 HA3 HA4 HB0 ⊢
  have q5 : w1.cell? ⟨w.heap.size, 5, none⟩ = some (.slice RA rn rc) := HA2.out.cell 5
  rcases idxE_cases r rs with h2 | ⟨q, hql, h2⟩
  · have HE : Hid (dropR rs r = (rs, false)) := by show _ = _; unfold dropR; rw [h2]; rfl
    have HQ := Lib.hid h2
    clear h2
    go_wp2_with (first
      | (refine wpList_load_at 50 9 (.tmp 3) rfl rfl rfl (w.heap.size + 1) rfl (rcA r) 4 str25 rfl HA3.out ?_)
      | (go_at_call 35; refine (idxR_any RA rn rc rs r _ (HBK.out.r.below HB0.out) (by omega)).mono ?_; rintro e z2 ⟨rfl, hk⟩; have HW2 := Lib.hid (HB0.out.trans (hk.mono HB0.out.size)); have HA22 := Lib.hid (HA2.out.under hk HA2.out.lt); have HA42 := Lib.hid (HA4.out.under hk HA4.out.lt); clear hk; rw [HQ.out])
      | (refine wpList_load_at 44 13 (.tmp 2) rfl rfl rfl w.heap.size rfl (bkA d (.slice PA pn pc) (.slice RA rn rc)) 6 strBk rfl HA22.out ?_)
      | (go_at_call 36; refine (twin_any d PA pn pc RA rn rc ps rs _ (HBK.out.below HW2.out) (by omega) (by omega)).mono ?_; rintro e z1 ⟨v, rfl, hv⟩; obtain ⟨A5, c5, A6, c6, rfl, h5, h6, hb1⟩ := hv; have HV : Hid (RetBk _ d ps pn rs rn _ z1) := ⟨A5, c5, A6, c6, rfl, h5, h6, hb1⟩; have HA43 := Lib.hid (HA42.out.under hb1 HA42.out.lt); clear h5 h6 hb1)
      | (refine wpList_store_at 44 (.tmp 4) (.tmp 14) rfl rfl rfl (w.heap.size + 2) rfl (bkA d (.slice A5 pn c5) (.slice A6 rn c6)) _ 6 rfl strBk rfl rfl (bkA_one _ _ _ _ _ _ _) HA43.out ?_; intro w9 ha9 hg9; have A9 := Lib.hid ha9; have G9 := Lib.hid hg9; clear ha9 hg9)
      )
    have HR := Lib.hid (HV.out.put HW2.out HA43.out G9.out (by omega : w.heap.size ≤ w.heap.size + 2))
    try dsimp only [Act.put]
    rw [HE.out]
    exact bodyPost_ret (results_at2 (g := w.heap.size + 2) rfl A9.out strBk rfl rfl rfl) rfl (RetBC.mk HR.out)
  · have HE : Hid (dropR rs r = (dropAt rs q, true)) := by show _ = _; unfold dropR; rw [h2, if_pos (by omega)]; rfl
    have HQ := Lib.hid h2
    have HDL : Hid ((dropAt rs q).length ≤ 90000) := by show _ ≤ _; unfold dropAt; rw [List.length_eraseIdx]; split <;> (rw [HRN.out]; omega)
    clear h2
    rw [HRN.out] at hql
    have HT : Hid (q + 1 < rn → tlA RA rc (q + 1) = RA.map (·.add ((q + 1) * 4))) := fun h => by unfold tlA; rw [if_neg (by omega)]
    go_upto_region 4 with (first
      | (refine wpList_load_at 50 9 (.tmp 3) rfl rfl rfl (w.heap.size + 1) rfl (rcA r) 4 str25 rfl HA3.out ?_)
      | (go_at_call 35; refine (idxR_any RA rn rc rs r _ (HBK.out.r.below HB0.out) (by omega)).mono ?_; rintro e z2 ⟨rfl, hk⟩; have HW2 := Lib.hid (HB0.out.trans (hk.mono HB0.out.size)); have HA22 := Lib.hid (HA2.out.under hk HA2.out.lt); have HA42 := Lib.hid (HA4.out.under hk HA4.out.lt); clear hk; rw [HQ.out])
      )
    clear q5
    have HWQ : Hid (IntKind.i64.wrap ((q : Int) + 1) = (q : Int) + 1) := by show _ = _; rw [IntKind.wrap_i64]; omega
    have HS0 : Hid (MkS (w.heap.size + 2) z2 z2.drew) := ⟨(Below.refl _ _).drew, zbk, rfl, HA42.out⟩
    refine wp_region_held_drew (S := MkS (w.heap.size + 2) z2) (by kernel_rfl) HS0.out (fun hS => ?_)
    refine tkS (v := .agg (bkA d (.slice PA pn pc) (.slice RA rn rc))) 0 hS ?_ (hy := by intro wz hz; have q2 : wz.cell? ⟨w.heap.size, 5, none⟩ = some (.slice RA rn rc) := (hz.1.cell (p := ⟨w.heap.size, 5, none⟩) (by show w.heap.size < w.heap.size + 2; omega)).trans (HA22.out.cell 5); exact exec_load_at 44 (.tmp 2) rfl w.heap.size rfl _ 6 strBk rfl (HA22.out.under hz.1 (by show w.heap.size < w.heap.size + 2; omega)))
    refine tkS 1 hS ?_
    refine tkS 2 hS ?_ (hy := by intro wz hz; have q2 : wz.cell? ⟨w.heap.size, 5, none⟩ = some (.slice RA rn rc) := (hz.1.cell (p := ⟨w.heap.size, 5, none⟩) (by show w.heap.size < w.heap.size + 2; omega)).trans (HA22.out.cell 5); go_simp <;> with_reducible rfl)
    refine tkS 3 hS ?_
    refine tkS (v := .slice RA q rc) 4 hS ?_ (hy := by intro wz hz; have q2 : wz.cell? ⟨w.heap.size, 5, none⟩ = some (.slice RA rn rc) := (hz.1.cell (p := ⟨w.heap.size, 5, none⟩) (by show w.heap.size < w.heap.size + 2; omega)).trans (HA22.out.cell 5); exact exec_head (.tmp 17) (.tmp 18) rfl RA rn rc q rfl rfl (by omega))
    refine tkS 5 hS ?_
    refine tkS 6 hS ?_ (hy := by intro wz hz; have q2 : wz.cell? ⟨w.heap.size, 5, none⟩ = some (.slice RA rn rc) := (hz.1.cell (p := ⟨w.heap.size, 5, none⟩) (by show w.heap.size < w.heap.size + 2; omega)).trans (HA22.out.cell 5); go_simp <;> with_reducible rfl)
    refine tkS 7 hS ?_
    refine tkS (v := .int .i64 ((q : Int) + 1)) 8 hS ?_ (hy := by intro wz hz; have q2 : wz.cell? ⟨w.heap.size, 5, none⟩ = some (.slice RA rn rc) := (hz.1.cell (p := ⟨w.heap.size, 5, none⟩) (by show w.heap.size < w.heap.size + 2; omega)).trans (HA22.out.cell 5); (go_simp <;> rw [HWQ.out]))
    refine tkS (v := .slice (tlA RA rc (q + 1)) (rn - (q + 1)) (rc - (q + 1))) 9 hS ?_ (hy := by intro wz hz; have q2 : wz.cell? ⟨w.heap.size, 5, none⟩ = some (.slice RA rn rc) := (hz.1.cell (p := ⟨w.heap.size, 5, none⟩) (by show w.heap.size < w.heap.size + 2; omega)).trans (HA22.out.cell 5); exact exec_tail (.tmp 21) (.tmp 23) rfl RA rn rc q rfl rfl hql)
    refine wpAnyH_ready (rs := [10]) (by kernel_rfl) (by simp) ?_
    refine AllReadyH.cons rfl (fun K hK => ?_) AllReadyH.nil
    rw [if_pos (by rfl)]
    refine wp_lit2 25 (.tmp 19) (.tmp 24) rfl rfl rfl rfl ?_
    have HS1 := Lib.hid (hS.call ((Below.refl _ _).alloc (Nat.le_refl _) (.cells #[.slice RA q rc, .slice (tlA RA rc (q + 1)) (rn - (q + 1)) (rc - (q + 1))] 40)))
    have HY1 : Hid (Below w.heap.size w (z2.drew.alloc (.cells #[.slice RA q rc, .slice (tlA RA rc (q + 1)) (rn - (q + 1)) (rc - (q + 1))] 40))) := (HW2.out.drew).alloc HW2.out.size _
    have HC1 : Hid (At (z2.drew.alloc (.cells #[.slice RA q rc, .slice (tlA RA rc (q + 1)) (rn - (q + 1)) (rc - (q + 1))] 40)) z2.drew.heap.size 40 #[.slice RA q rc, .slice (tlA RA rc (q + 1)) (rn - (q + 1)) (rc - (q + 1))]) := At.new z2.drew 40 _
    generalize z2.drew.alloc (.cells #[.slice RA q rc, .slice (tlA RA rc (q + 1)) (rn - (q + 1)) (rc - (q + 1))] 40) = y1 at HS1 HY1 HC1 ⊢
    refine hK.out _ _ (HS1.out) (fun hT => ?_)
    clear hK hS
    have hS := hT
    clear hT
    refine wpAnyH_ready (rs := [11]) (by kernel_rfl) (by simp) ?_
    refine AllReadyH.cons rfl (fun K hK => ?_) AllReadyH.nil
    go_simp
    refine (concat_any _ 2 RA (tlA RA rc (q + 1)) q rc (rn - (q + 1)) (rc - (q + 1)) (rs.take q) (rs.drop (q + 1)) y1 (HC1.out.cell 0) (HC1.out.cell 1) ((HBK.out.r.below HY1.out).rhead (by omega)) ((HBK.out.r.below HY1.out).rtail (by omega) _ HT.out) (by omega)).mono ?_
    rintro e y2 ⟨A8, c8, rfl, ho8, hb8⟩
    rw [drop_split] at ho8 ⊢
    have hb : True := trivial
    have HO8 := Lib.hid (own_base ho8 HY1.out.size)
    have HY8 := Lib.hid (HY1.out.trans (hb8.mono HY1.out.size))
    have HS8 := Lib.hid (hS.call hb8)
    clear ho8 hb8
    refine hK.out _ _ (HS8.out) (fun hT => ?_)
    clear hK hS
    have hS := hT
    clear hT
    refine wpAnyH_ready (rs := [12]) (by kernel_rfl) (by simp) ?_
    refine AllReadyH.cons rfl (fun K hK => ?_) AllReadyH.nil
    go_simp
    refine (with_any d PA pn pc ps _ A8 (dropAt rs q).length c8 y2 (HBK.out.p.below HY8.out) (by omega)).mono ?_
    rintro e y8 ⟨A6, c6, rfl, ho6, hb6⟩
    have hb : True := trivial
    have HO6 := Lib.hid ho6
    have HB6 := Lib.hid hb6
    have HS6 := Lib.hid (hS.call hb6)
    clear ho6 hb6
    refine hK.out _ _ (HS6.out) (fun hT => ?_)
    clear hK hS
    have hS := hT
    clear hT
    refine wpAnyH_ready (rs := [13]) (by kernel_rfl) (by simp) ?_
    refine AllReadyH.cons rfl (fun K hK => ?_) AllReadyH.nil
    rw [if_pos (by rfl)]
    obtain ⟨cs9, hcs9, ha8⟩ := hS.2
    refine wp_store_at 44 (.tmp 4) (.tmp 27) rfl rfl (w.heap.size + 2) rfl (bkA d (.slice A6 pn c6) (.slice A8 (dropAt rs q).length c8)) cs9 6 rfl strBk rfl hcs9 (bkA_one _ _ _ _ _ _ _) ha8 ?_
    intro w9 ha9 hg9
    have A9 := Lib.hid ha9
    have G9 := Lib.hid hg9
    have HSS := Lib.hid (hS.store hg9 ha9 rfl)
    clear ha9 hg9 ha8
    refine hK.out _ _ (HSS.out) (fun hT => ?_)
    clear hK hS
    have hS := hT
    clear hT
    refine tkS 14 hS ?_
    refine wpAnyH_done (by kernel_rfl) ?_ _
    clear hS
    have HV8 : Hid (RetBk w d ps pn (dropAt rs q) (dropAt rs q).length (.agg (bkA d (.slice A6 pn c6) (.slice A8 (dropAt rs q).length c8))) w9) := RetBk.mk (d := d) HY8.out HO8.out HO6.out HB6.out HS6.out G9.out (by omega)
    go_wp2_with fail
    try dsimp only [Act.put]
    rw [HE.out]
    exact bodyPost_ret (results_at2 (g := w.heap.size + 2) rfl A9.out strBk rfl rfl rfl) rfl (RetBC.mk HV8.out)
end Go.Proofs.Ytgjkbnplpioloaa
