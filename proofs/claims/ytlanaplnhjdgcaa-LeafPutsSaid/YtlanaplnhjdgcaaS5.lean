/-
  The walk of the reference's Get.
  Conditions: the sectors' cells are bytes.
-/
import Derived.Test.YtlanaplnhjdgcaaS4
namespace Go.Proofs.Ytlanaplnhjdgcaa
open Go.RowKit

theorem wp_store_pg {op : Oper} {a : Act} {w : World} {K : Act → World → Prop} {Q : Exit → Act → World → Prop} (x y : Operand) (hop : op.dst = none) (ho : op.op = .store 22 x y)
    (g : Nat) (hx : a.eval x = .pointer (some ⟨g, 0, none⟩)) (p q : Pg) (hy : a.eval y = .agg (pgA p)) (hc : RowAt w g 22 q.toList)
    (h : ∀ w', RowAt w' g 22 p.toList → Mod (fun k => k = g) w w' → K (a.put none undef) w') : Oper.wp Try.prog op a w K Q := by
  refine wp_store_mid 22 x y ho g 0 (pgA p) hx hy (by rw [pgA_size]; exact hc.there 0 224 (by simp)) (by rw [pgA_size]; exact pg_size) (pgA_one p) ?_
  rw [hop]
  refine h _ ?_ (Mod.setCells (X := fun k => k = g) (Mod.refl _ w) (.inl rfl) _ _)
  have := hc.put 0 p.toList (by simp)
  rw [show splice q.toList 0 p.toList = p.toList by simp [splice]] at this
  exact this
def pgi (l : List Sect) (k : Nat) : List Int := (pagesL l).take k ++ List.replicate (224 - k) 0
theorem pgi_length (l : List Sect) (k : Nat) (hl : l.length = 4) (hk : k ≤ 224) : (pgi l k).length = 224 := by
  rw [pgi, List.length_append, List.length_take, pagesL_length, List.length_replicate]; omega
theorem pgi_step (l : List Sect) (k : Nat) (x : Int) (hl : l.length = 4) (hk : k < 224) (hx : (pagesL l)[k]? = some x) : (pgi l k).set k x = pgi l (k + 1) := by
  have h1 : (pagesL l).length = 224 := by rw [pagesL_length, hl]
  obtain ⟨_, rfl⟩ := List.getElem?_eq_some_iff.1 hx
  rw [pgi, pgi, List.set_append, if_neg (by rw [List.length_take]; omega), List.length_take, Nat.min_eq_left (by omega), Nat.sub_self, show 224 - k = (224 - (k + 1)) + 1 from by omega, List.replicate_succ, List.set_cons_zero, take_snoc _ k (by omega), List.append_assoc]
  rfl
theorem pgi_zero (l : List Sect) : pgi l 0 = zpg.toList := by rw [pgi, zpg_toList, List.take_zero]; rfl
theorem pgi_full (l : List Sect) (hl : l.length = 4) : pgi l 224 = (pageOf l).toList := by
  rw [pgi, pageOf_toList l hl, List.take_of_length_le (by rw [pagesL_length, hl]; omega), Nat.sub_self, List.replicate_zero, List.append_nil]
theorem pages_get : ∀ (l : List Sect) (k : Nat), k < l.length * 56 → ∃ x, (pagesL l)[k]? = some x ∧ (byt l)[k / 56 * 64 + k % 56]? = some x
  | [], k, h => by simp at h
  | s :: r, k, h => by
    simp only [List.length_cons] at h
    by_cases hk : k < 56
    · refine ⟨s.toList[k]'(by rw [Vector.length_toList]; omega), ?_, ?_⟩
      · rw [pagesL, List.getElem?_append_left (by rw [body_length]; exact hk), bodyL, List.getElem?_take, if_pos hk, List.getElem?_eq_getElem]
      · rw [byt, Nat.div_eq_of_lt hk, Nat.mod_eq_of_lt hk, Nat.zero_mul, Nat.zero_add, List.getElem?_append_left (by rw [Vector.length_toList]; omega), List.getElem?_eq_getElem]
    · obtain ⟨x, h1, h2⟩ := pages_get r (k - 56) (by omega)
      refine ⟨x, ?_, ?_⟩
      · rw [pagesL, List.getElem?_append_right (by rw [body_length]; omega), body_length]
        exact h1
      · rw [byt, List.getElem?_append_right (by rw [Vector.length_toList]; omega), Vector.length_toList, ← h2]
        congr 1
        omega

set_option maxRecDepth 8000 in
set_option maxHeartbeats 400000 in
theorem refGet6_short (n c : Nat) (A : Option Addr) (l : List Sect) (w : World) (hl : l.length = n) (hn : n ≠ 4) : Calls Try.prog 9 #[.slice A n c] w (Got w l) := by
  have hzero := (zero_of_info pg_info).1
  have hinfo := Lib.hid (zero_of_info pg_info).2
  have R1 := Lib.hid ((row_pg w zpg).alloc (.cells (pgA zpg) 22))
  have R2 := row_pg (w.alloc (.cells (pgA zpg) 22)) zpg
  rw [show (w.alloc (.cells (pgA zpg) 22)).heap.size = w.heap.size + 1 by simp] at R2
  have R2 := Lib.hid R2
  have HG := Lib.hid (GotV_no l (whole_short l (by rw [hl]; exact hn)))
  have d1 : ((n : Int) != 4) = true := by rw [bne_iff_ne]; omega
  have d2 : ((n : Int) == 4) = false := by rw [beq_eq_false_iff_ne]; omega
  go_enter Try.func9, Try.ntmps9
  go_wp2_with (first
    | refine wpList_load_pg 11 (.tmp 5) rfl rfl rfl (w.heap.size + 1) rfl zpg R2.out ?_
    | (refine wpList_store_pg (.tmp 2) (.tmp 11) rfl rfl rfl w.heap.size rfl zpg zpg rfl R1.out ?_; intro w9 h9 m9; have H9 := Lib.hid h9; have M9 := Lib.hid m9; clear h9 m9))
  refine bodyPost_ret (v := .tuple #[.agg (pgA zpg), .int .u64 0, .bool false]) (results_pg3 _ _ w.heap.size zpg _ _ rfl H9.out Try.results9 rfl rfl) rfl ⟨by rw [HG.out], ?_⟩
  have h1 : Below w.heap.size w _ := ((Below.refl w.heap.size w).alloc (Nat.le_refl _) (.cells (pgA zpg) 22)).alloc (by simp) (.cells (pgA zpg) 22)
  exact M9.out.below h1 (fun q hq => by omega) h1.size

set_option maxRecDepth 8000 in
set_option maxHeartbeats 1600000 in
theorem refGet6_four (X : Nat → Prop) (c : Nat) (A : Option Addr) (l : List Sect) (w : World) (h : Lz X w 64 A 4 (flat l)) (hs : Oks l) : Calls Try.prog 9 #[.slice A 4 c] w (Got w l) := by
  have hl : l.length = 4 := by have := h.len; rw [flat_length] at this; omega
  have hzero := (zero_of_info pg_info).1
  have hinfo := Lib.hid (zero_of_info pg_info).2
  obtain ⟨b, o, rfl, _⟩ := h.spot (by omega)
  have R1 := Lib.hid ((row_pg w zpg).alloc (.cells (pgA zpg) 22))
  have R2 := row_pg (w.alloc (.cells (pgA zpg) 22)) zpg
  rw [show (w.alloc (.cells (pgA zpg) 22)).heap.size = w.heap.size + 1 by simp] at R2
  have R2 := Lib.hid R2
  have B1 := Lib.hid (((Below.refl w.heap.size w).alloc (Nat.le_refl _) (.cells (pgA zpg) 22)).alloc (by simp) (.cells (pgA zpg) 22))
  obtain ⟨x0, hx0⟩ : ∃ x0, x0 = l[0]'(by omega) := ⟨_, rfl⟩
  have hhead : l.headD zsec = x0 := by
    rw [hx0]
    cases l with
    | nil => simp at hl
    | cons s r => rfl
  have HRG : Hid (∀ wq, Below w.heap.size w wq → wq.rangeAt b o (flat l)) := by
    intro wq hb
    obtain ⟨b', o', e, _, _, hr⟩ := (h.below hb).spot (by omega)
    injection e with e
    injection e with e1 e2
    subst e1 e2
    exact hr
  have HIN0 : Hid (∀ {wq}, Below w.heap.size w wq → wq.rangeAt b o (sec x0)) := by
    intro wq hb
    have := flat_range (HRG.out wq hb) (k := 0) (by omega)
    rw [← hx0, Nat.zero_mul, Nat.add_zero] at this
    exact this
  have OK0 := Lib.hid (hs x0 (by rw [hx0]; exact List.getElem_mem _))
  have HS := Lib.hid hs
  have HL := Lib.hid hl
  have HX := Lib.hid hhead
  have HT1 : Hid (l.take 1 = [x0]) := by
    show _ = _
    have := take_snoc l 0 (by omega)
    rw [← hx0] at this
    simpa using this
  clear h hs hl hhead hx0
  obtain ⟨m0, hm0⟩ : ∃ m0, m0 = markI x0 := ⟨_, rfl⟩
  have HM0 := Lib.hid hm0
  clear hm0
  go_enter Try.func9, Try.ntmps9
  go_wp2_with fail
  go_loopw [6] (fun i wr => ∃ k : Nat, 1 ≤ k ∧ k ≤ 4 ∧ i = .int .i64 k ∧ Hid (∀ s ∈ l.take k, markI s = m0) ∧ Hid (RowAt wr (w.heap.size + 1) 22 zpg.toList) ∧ Hid (RowAt wr w.heap.size 22 zpg.toList) ∧ Hid (Below w.heap.size w wr)) (fun i _ => 4 - (intOf i).toNat)
  case atStart =>
    refine ⟨1, Nat.le_refl _, by omega, rfl, ?_, R2, R1, B1⟩
    intro s hs
    rw [HT1.out, List.mem_singleton] at hs
    rw [hs, HM0.out]
  case round =>
    obtain ⟨k, hk1, hk, rfl, hM, hR, hZ, hB⟩ := hrel
    have hgt : w.heap.size + 1 < wr.heap.size := hR.out.lt
    by_cases hlt : k < 4
    · have hkl : k < l.length := by rw [HL.out]; exact hlt
      have HIN : Hid (∀ {wq}, Below w.heap.size w wq → wq.rangeAt b (o + k * 64) (sec l[k])) := fun hb => flat_range (HRG.out _ hb) hkl
      have OK := Lib.hid (HS.out l[k] (List.getElem_mem _))
      have HNO := Lib.hid (whole_no l k hkl)
      have HSN := Lib.hid (take_snoc l k hkl)
      generalize l[k] = x at *
      obtain ⟨mx, hmx⟩ : ∃ mx, mx = markI x := ⟨_, rfl⟩
      have HMX := Lib.hid hmx
      clear hmx
      by_cases hq : mx = m0
      · have q1 : (mx != m0) = false := by rw [hq]; simp
        have HQ := Lib.hid hq
        clear hq
        go_wp2_with fail
        have HBD := Lib.hid (below_drew hB.out)
        refine wp_region_held_drew (S := fun z => z.rangeAt b (o + k * 64) (sec x) ∧ z.rangeAt b o (sec x0)) (by kernel_rfl) ⟨HIN.out HBD.out, HIN0.out HBD.out⟩ (fun hS => ?_)
        refine takeH (i := 0) (d := 16) (v := ?vr0) rfl (by kernel_rfl) (by kernel_rfl) (by kernel_rfl) (fun _ _ _ h => h) rfl (by rfl) ?yr0 hS ?rr0
        case yr0 => (intro wz hz; go_simp <;> with_reducible rfl)
        simp only [List.setIfInBounds_toArray, List.set_cons_zero, List.set_cons_succ]
        refine takeH (i := 1) (d := 17) (v := ?vr1) rfl (by kernel_rfl) (by kernel_rfl) (by kernel_rfl) (fun _ _ _ h => h) rfl (by rfl) ?yr1 hS ?rr1
        case yr1 => (intro wz hz; go_simp <;> with_reducible rfl)
        simp only [List.setIfInBounds_toArray, List.set_cons_zero, List.set_cons_succ]
        refine takeH (i := 2) (d := 18) (v := .pointer (some ⟨b, o + k * 64, none⟩)) rfl (by kernel_rfl) (by kernel_rfl) (by kernel_rfl) (fun _ _ _ h => h) rfl (by rfl) ?yr2 hS ?rr2
        case yr2 => (intro wz hz; go_simp <;> (first | done | with_reducible rfl))
        simp only [List.setIfInBounds_toArray, List.set_cons_zero, List.set_cons_succ]
        refine takeH (i := 3) (d := 19) (v := .agg (secA x)) rfl (by kernel_rfl) (by kernel_rfl) (by kernel_rfl) (fun _ _ _ h => h) rfl (by rfl) ?yr3 hS ?rr3
        case yr3 => (intro wz hz; exact exec_load 45 (.tmp 18) rfl b (o + k * 64) rfl (sec x) _ hz.1 Try.underlying45 rfl (by rw [sec_length]; exact arr_size))
        simp only [List.setIfInBounds_toArray, List.set_cons_zero, List.set_cons_succ]
        refine takeH (i := 5) (d := 21) (v := ?vr5) rfl (by kernel_rfl) (by kernel_rfl) (by kernel_rfl) (fun _ _ _ h => h) rfl (by rfl) ?yr5 hS ?rr5
        case yr5 => (intro wz hz; go_simp <;> with_reducible rfl)
        simp only [List.setIfInBounds_toArray, List.set_cons_zero, List.set_cons_succ]
        refine takeH (i := 6) (d := 22) (v := .pointer (some ⟨b, o, none⟩)) rfl (by kernel_rfl) (by kernel_rfl) (by kernel_rfl) (fun _ _ _ h => h) rfl (by rfl) ?yr6 hS ?rr6
        case yr6 => (intro wz hz; go_simp <;> (first | done | with_reducible rfl))
        simp only [List.setIfInBounds_toArray, List.set_cons_zero, List.set_cons_succ]
        refine takeH (i := 7) (d := 23) (v := .agg (secA x0)) rfl (by kernel_rfl) (by kernel_rfl) (by kernel_rfl) (fun _ _ _ h => h) rfl (by rfl) ?yr7 hS ?rr7
        case yr7 => (intro wz hz; exact exec_load 45 (.tmp 22) rfl b (o) rfl (sec x0) _ hz.2 Try.underlying45 rfl (by rw [sec_length]; exact arr_size))
        simp only [List.setIfInBounds_toArray, List.set_cons_zero, List.set_cons_succ]
        refine wpAnyH_ready (rs := [4]) (by kernel_rfl) (by simp) ?_
        refine AllReadyH.cons rfl (fun K hK => ?_) AllReadyH.nil
        go_simp
        refine (mark_any x _ OK.out).mono ?_
        rintro e w1 ⟨rfl, hb1⟩
        rw [← HMX.out]
        have HB1 := Lib.hid hb1
        clear hb1
        refine hK.out _ _ (⟨HIN.out (HBD.out.trans (HB1.out.mono HBD.out.size)), HIN0.out (HBD.out.trans (HB1.out.mono HBD.out.size))⟩) (fun hT => ?_)
        clear hK  hS
        have hS := hT
        clear hT
        refine wpAnyH_ready (rs := [8]) (by kernel_rfl) (by simp) ?_
        refine AllReadyH.cons rfl (fun K hK => ?_) AllReadyH.nil
        go_simp
        refine (mark_any x0 _ OK0.out).mono ?_
        rintro e w2 ⟨rfl, hb2⟩
        rw [← HM0.out]
        have HB2 := Lib.hid hb2
        clear hb2
        have HBE := Lib.hid ((HBD.out.trans (HB1.out.mono HBD.out.size)).trans (HB2.out.mono (by have := HBD.out.size; have := HB1.out.size; omega)))
        refine hK.out _ _ (⟨HIN.out HBE.out, HIN0.out HBE.out⟩) (fun hT => ?_)
        clear hK  hS
        have hS := hT
        clear hT
        refine takeH (i := 9) (d := 25) (v := ?vr9) rfl (by kernel_rfl) (by kernel_rfl) (by kernel_rfl) (fun _ _ _ h => h) rfl (by rfl) ?yr9 hS ?rr9
        case yr9 => (intro wz hz; go_simp <;> with_reducible rfl)
        simp only [List.setIfInBounds_toArray, List.set_cons_zero, List.set_cons_succ]
        refine wpAnyH_done (by kernel_rfl) ?_ _
        go_wp2_with fail
        refine ⟨⟨k + 1, by omega, by omega, by go_num, ?_, ?_, ?_, HBE⟩, by simp [intOf]; omega⟩
        · show ∀ s ∈ _, _
          rw [HSN.out]
          intro s hs
          rw [List.mem_append, List.mem_singleton] at hs
          rcases hs with hs | rfl
          · exact hM.out s hs
          · rw [← HMX.out]; exact HQ.out
        · exact (hR.out.drew.below HB1.out).below HB2.out
        · exact (hZ.out.drew.below HB1.out).below HB2.out
      · have q1 : (mx != m0) = true := by rw [bne_iff_ne]; exact hq
        have HG := Lib.hid (GotV_no l (HNO.out (by rw [HX.out, ← HM0.out, ← HMX.out]; exact hq)))
        clear hq
        go_wp2_with fail
        have HBD := Lib.hid (below_drew hB.out)
        refine wp_region_held_drew (S := fun z => z.rangeAt b (o + k * 64) (sec x) ∧ z.rangeAt b o (sec x0)) (by kernel_rfl) ⟨HIN.out HBD.out, HIN0.out HBD.out⟩ (fun hS => ?_)
        refine takeH (i := 0) (d := 16) (v := ?vu0) rfl (by kernel_rfl) (by kernel_rfl) (by kernel_rfl) (fun _ _ _ h => h) rfl (by rfl) ?yu0 hS ?ru0
        case yu0 => (intro wz hz; go_simp <;> with_reducible rfl)
        simp only [List.setIfInBounds_toArray, List.set_cons_zero, List.set_cons_succ]
        refine takeH (i := 1) (d := 17) (v := ?vu1) rfl (by kernel_rfl) (by kernel_rfl) (by kernel_rfl) (fun _ _ _ h => h) rfl (by rfl) ?yu1 hS ?ru1
        case yu1 => (intro wz hz; go_simp <;> with_reducible rfl)
        simp only [List.setIfInBounds_toArray, List.set_cons_zero, List.set_cons_succ]
        refine takeH (i := 2) (d := 18) (v := .pointer (some ⟨b, o + k * 64, none⟩)) rfl (by kernel_rfl) (by kernel_rfl) (by kernel_rfl) (fun _ _ _ h => h) rfl (by rfl) ?yu2 hS ?ru2
        case yu2 => (intro wz hz; go_simp <;> (first | done | with_reducible rfl))
        simp only [List.setIfInBounds_toArray, List.set_cons_zero, List.set_cons_succ]
        refine takeH (i := 3) (d := 19) (v := .agg (secA x)) rfl (by kernel_rfl) (by kernel_rfl) (by kernel_rfl) (fun _ _ _ h => h) rfl (by rfl) ?yu3 hS ?ru3
        case yu3 => (intro wz hz; exact exec_load 45 (.tmp 18) rfl b (o + k * 64) rfl (sec x) _ hz.1 Try.underlying45 rfl (by rw [sec_length]; exact arr_size))
        simp only [List.setIfInBounds_toArray, List.set_cons_zero, List.set_cons_succ]
        refine takeH (i := 5) (d := 21) (v := ?vu5) rfl (by kernel_rfl) (by kernel_rfl) (by kernel_rfl) (fun _ _ _ h => h) rfl (by rfl) ?yu5 hS ?ru5
        case yu5 => (intro wz hz; go_simp <;> with_reducible rfl)
        simp only [List.setIfInBounds_toArray, List.set_cons_zero, List.set_cons_succ]
        refine takeH (i := 6) (d := 22) (v := .pointer (some ⟨b, o, none⟩)) rfl (by kernel_rfl) (by kernel_rfl) (by kernel_rfl) (fun _ _ _ h => h) rfl (by rfl) ?yu6 hS ?ru6
        case yu6 => (intro wz hz; go_simp <;> (first | done | with_reducible rfl))
        simp only [List.setIfInBounds_toArray, List.set_cons_zero, List.set_cons_succ]
        refine takeH (i := 7) (d := 23) (v := .agg (secA x0)) rfl (by kernel_rfl) (by kernel_rfl) (by kernel_rfl) (fun _ _ _ h => h) rfl (by rfl) ?yu7 hS ?ru7
        case yu7 => (intro wz hz; exact exec_load 45 (.tmp 22) rfl b (o) rfl (sec x0) _ hz.2 Try.underlying45 rfl (by rw [sec_length]; exact arr_size))
        simp only [List.setIfInBounds_toArray, List.set_cons_zero, List.set_cons_succ]
        refine wpAnyH_ready (rs := [4]) (by kernel_rfl) (by simp) ?_
        refine AllReadyH.cons rfl (fun K hK => ?_) AllReadyH.nil
        go_simp
        refine (mark_any x _ OK.out).mono ?_
        rintro e w1 ⟨rfl, hb1⟩
        rw [← HMX.out]
        have HB1 := Lib.hid hb1
        clear hb1
        refine hK.out _ _ (⟨HIN.out (HBD.out.trans (HB1.out.mono HBD.out.size)), HIN0.out (HBD.out.trans (HB1.out.mono HBD.out.size))⟩) (fun hT => ?_)
        clear hK  hS
        have hS := hT
        clear hT
        refine wpAnyH_ready (rs := [8]) (by kernel_rfl) (by simp) ?_
        refine AllReadyH.cons rfl (fun K hK => ?_) AllReadyH.nil
        go_simp
        refine (mark_any x0 _ OK0.out).mono ?_
        rintro e w2 ⟨rfl, hb2⟩
        rw [← HM0.out]
        have HB2 := Lib.hid hb2
        clear hb2
        have HBE := Lib.hid ((HBD.out.trans (HB1.out.mono HBD.out.size)).trans (HB2.out.mono (by have := HBD.out.size; have := HB1.out.size; omega)))
        refine hK.out _ _ (⟨HIN.out HBE.out, HIN0.out HBE.out⟩) (fun hT => ?_)
        clear hK  hS
        have hS := hT
        clear hT
        refine takeH (i := 9) (d := 25) (v := ?vu9) rfl (by kernel_rfl) (by kernel_rfl) (by kernel_rfl) (fun _ _ _ h => h) rfl (by rfl) ?yu9 hS ?ru9
        case yu9 => (intro wz hz; go_simp <;> with_reducible rfl)
        simp only [List.setIfInBounds_toArray, List.set_cons_zero, List.set_cons_succ]
        refine wpAnyH_done (by kernel_rfl) ?_ _
        have RP2 := Lib.hid ((hR.out.drew.below HB1.out).below HB2.out)
        have RZ2 := Lib.hid ((hZ.out.drew.below HB1.out).below HB2.out)
        go_wp2_with (first
          | refine wpList_load_pg 26 (.tmp 5) rfl rfl rfl (w.heap.size + 1) rfl zpg RP2.out ?_
          | (refine wpList_store_pg (.tmp 2) (.tmp 26) rfl rfl rfl w.heap.size rfl zpg zpg rfl RZ2.out ?_; intro w9 h9 m9; have H9 := Lib.hid h9; have M9 := Lib.hid m9; clear h9 m9))
        refine bodyPost_ret (v := .tuple #[.agg (pgA zpg), .int .u64 0, .bool false]) (results_pg3 _ _ w.heap.size zpg _ _ rfl H9.out Try.results9 rfl rfl) rfl ⟨by rw [HG.out], ?_⟩
        exact M9.out.below HBE.out (fun q hq => by omega) HBE.out.size
    · obtain rfl : k = 4 := by omega
      have HG : Hid (GotV l = .tuple #[.agg (pgA (pageOf l)), .int .u64 m0, .bool true]) := by
        show _ = _
        rw [GotV_yes l (whole_yes l HL.out (fun s hs => ?_)), HX.out, ← HM0.out]
        rw [HX.out, ← HM0.out]
        exact hM.out s (by rw [List.take_of_length_le (by rw [HL.out]; exact Nat.le_refl _)]; exact hs)
      go_wp2_with fail
      go_loopw [7] (fun i wr => ∃ k : Nat, k ≤ 224 ∧ i = .int .i64 k ∧ Hid (RowAt wr (w.heap.size + 1) 22 (pgi l k)) ∧ Hid (RowAt wr w.heap.size 22 zpg.toList) ∧ Hid (Below w.heap.size w wr)) (fun i _ => 224 - (intOf i).toNat)
      case atStart =>
        refine ⟨0, Nat.zero_le _, rfl, ?_, hZ, hB⟩
        show RowAt _ _ _ _
        rw [pgi_zero]
        exact hR.out
      case round =>
        obtain ⟨k, hk2, rfl, hR2, hZ2, hB2⟩ := hrel
        by_cases hlt : k < 224
        · obtain ⟨x, hx1, hx2⟩ := pages_get l k (by rw [HL.out]; exact hlt)
          have STP := Lib.hid (pgi_step l k x HL.out hlt hx1)
          have hcell : wr.cell? ⟨b, o + (k / 56 * 64 + k % 56), none⟩ = some (.int .u8 x) := by
            have hb9 := (List.getElem?_eq_some_iff.1 hx2).1
            refine HRG.out wr hB2.out _ _ ?_
            rw [flat_byt, CL_get _ _ hb9, (List.getElem?_eq_some_iff.1 hx2).2]
          have hc2 := hR2.out.cell k (by rw [pgi_length l k HL.out hk2]; exact hlt)
          have hf2 := hR2.out.frozen k
          generalize (pgi l k)[k]'(by rw [pgi_length l k HL.out hk2]; exact hlt) = y at hc2
          obtain ⟨q, hq⟩ : ∃ q : Nat, q = k / 56 := ⟨_, rfl⟩
          obtain ⟨r, hr⟩ : ∃ r : Nat, r = k % 56 := ⟨_, rfl⟩
          rw [← hq, ← hr, ← Nat.add_assoc] at hcell
          have q1 : (k : Int) / 56 = (q : Int) := by omega
          have q2 : (k : Int).tdiv 56 = (q : Int) := by rw [Int.tdiv_eq_ediv_of_nonneg (by omega)]; exact q1
          have r1 : (k : Int) % 56 = (r : Int) := by omega
          have r2 : (k : Int).tmod 56 = (r : Int) := by rw [Int.tmod_eq_emod_of_nonneg (by omega)]; exact r1
          have hq4 : q < 4 := by omega
          have hr56 : r < 56 := by omega
          clear hx1 hx2 hq hr
          go_wp2_with fail
          refine ⟨⟨k + 1, by omega, by go_num, ?_, ?_, ?_⟩, by simp [intOf]; omega⟩
          · show RowAt _ _ _ _
            rw [← STP.out]
            exact hR2.out.set k x
          · exact hZ2.out.kept (Mod.setCell (X := fun q => q = w.heap.size + 1) (p := ⟨w.heap.size + 1, k, none⟩) (Mod.refl _ _) (.inl rfl) _) (by show ¬ w.heap.size = w.heap.size + 1; omega)
          · exact hB2.out.setCell (by show w.heap.size ≤ w.heap.size + 1; omega) _
        · obtain rfl : k = 224 := by omega
          have RP : Hid (RowAt wr (w.heap.size + 1) 22 (pageOf l).toList) := by
            show RowAt _ _ _ _
            rw [← pgi_full l HL.out]
            exact hR2.out
          go_wp2_with fail
          refine wp_region_held_drew (S := fun z => RowAt z (w.heap.size + 1) 22 (pageOf l).toList ∧ z.rangeAt b o (sec x0)) (by kernel_rfl) ⟨RP.out.drew, HIN0.out (below_drew hB2.out)⟩ (fun hS => ?_)
          refine takeH (i := 0) (d := 41) (v := .agg (pgA (pageOf l))) rfl (by kernel_rfl) (by kernel_rfl) (by kernel_rfl) (fun _ _ _ h => h) rfl (by rfl) ?ys0 hS ?rs0
          case ys0 => (intro wz hz; exact exec_load_pg (.tmp 5) rfl (w.heap.size + 1) rfl (pageOf l) hz.1)
          simp only [List.setIfInBounds_toArray, List.set_cons_zero, List.set_cons_succ]
          refine takeH (i := 1) (d := 42) (v := ?vs1) rfl (by kernel_rfl) (by kernel_rfl) (by kernel_rfl) (fun _ _ _ h => h) rfl (by rfl) ?ys1 hS ?rs1
          case ys1 => (intro wz hz; go_simp <;> with_reducible rfl)
          simp only [List.setIfInBounds_toArray, List.set_cons_zero, List.set_cons_succ]
          refine takeH (i := 2) (d := 43) (v := .pointer (some ⟨b, o, none⟩)) rfl (by kernel_rfl) (by kernel_rfl) (by kernel_rfl) (fun _ _ _ h => h) rfl (by rfl) ?ys2 hS ?rs2
          case ys2 => (intro wz hz; go_simp <;> (first | done | with_reducible rfl))
          simp only [List.setIfInBounds_toArray, List.set_cons_zero, List.set_cons_succ]
          refine takeH (i := 3) (d := 44) (v := .agg (secA x0)) rfl (by kernel_rfl) (by kernel_rfl) (by kernel_rfl) (fun _ _ _ h => h) rfl (by rfl) ?ys3 hS ?rs3
          case ys3 => (intro wz hz; exact exec_load 45 (.tmp 43) rfl b (o) rfl (sec x0) _ hz.2 Try.underlying45 rfl (by rw [sec_length]; exact arr_size))
          simp only [List.setIfInBounds_toArray, List.set_cons_zero, List.set_cons_succ]
          refine wpAnyH_ready (rs := [4]) (by kernel_rfl) (by simp) ?_
          refine AllReadyH.cons rfl (fun K hK => ?_) AllReadyH.nil
          go_simp
          refine (mark_any x0 _ OK0.out).mono ?_
          rintro e w2 ⟨rfl, hb2⟩
          rw [← HM0.out]
          have HB2 := Lib.hid hb2
          clear hb2
          refine hK.out _ _ (⟨RP.out.drew.below HB2.out, HIN0.out ((below_drew hB2.out).trans (HB2.out.mono hB2.out.size))⟩) (fun hT => ?_)
          clear hK  hS
          have hS := hT
          clear hT
          refine wpAnyH_ready (rs := [5]) (by kernel_rfl) (by simp) ?_
          refine AllReadyH.cons rfl (fun K hK => ?_) AllReadyH.nil
          rw [if_pos (by rfl)]
          refine wp_store_pg (.tmp 2) (.tmp 41) rfl rfl w.heap.size rfl (pageOf l) zpg rfl (hZ2.out.drew.below HB2.out) ?_
          intro w9 h9 m9
          have H9 := Lib.hid h9
          have M9 := Lib.hid m9
          clear h9 m9
          refine hK.out _ _ (⟨(RP.out.drew.below HB2.out).kept M9.out (by show ¬ w.heap.size + 1 = w.heap.size; omega), HIN0.out (M9.out.below ((below_drew hB2.out).trans (HB2.out.mono hB2.out.size)) (fun q hq => by omega) (by have := hB2.out.size; have := HB2.out.size; simp at this; omega))⟩) (fun hT => ?_)
          clear hK  hS
          have hS := hT
          clear hT
          refine takeH (i := 6) (d := 3) (v := ?vs6) rfl (by kernel_rfl) (by kernel_rfl) (by kernel_rfl) (fun _ _ _ h => h) rfl (by rfl) ?ys6 hS ?rs6
          case ys6 => (intro wz hz; go_simp <;> with_reducible rfl)
          simp only [List.setIfInBounds_toArray, List.set_cons_zero, List.set_cons_succ]
          refine takeH (i := 7) (d := 4) (v := ?vs7) rfl (by kernel_rfl) (by kernel_rfl) (by kernel_rfl) (fun _ _ _ h => h) rfl (by rfl) ?ys7 hS ?rs7
          case ys7 => (intro wz hz; go_simp <;> with_reducible rfl)
          simp only [List.setIfInBounds_toArray, List.set_cons_zero, List.set_cons_succ]
          refine wpAnyH_done (by kernel_rfl) ?_ _
          go_wp2_with fail
          refine bodyPost_ret (v := .tuple #[.agg (pgA (pageOf l)), .int .u64 m0, .bool true]) (results_pg3 _ _ w.heap.size (pageOf l) _ _ rfl H9.out Try.results9 rfl rfl) rfl ⟨by rw [HG.out], ?_⟩
          exact M9.out.below ((below_drew hB2.out).trans (HB2.out.mono hB2.out.size)) (fun q hq => by omega) (by have := hB2.out.size; have := HB2.out.size; simp at this; omega)
theorem refGet6_any (X : Nat → Prop) (n c : Nat) (A : Option Addr) (l : List Sect) (w : World) (h : Lz X w 64 A n (flat l)) (hs : Oks l) : Calls Try.prog 9 #[.slice A n c] w (Got w l) := by
  have hl : l.length = n := by have := h.len; rw [flat_length] at this; omega
  by_cases hn : n = 4
  · subst hn
    exact refGet6_four X c A l w h hs
  · exact refGet6_short n c A l w hl hn
end Go.Proofs.Ytlanaplnhjdgcaa
