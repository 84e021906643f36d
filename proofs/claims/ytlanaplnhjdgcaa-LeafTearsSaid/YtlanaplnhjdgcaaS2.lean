/-
  The walk of leaf.Get.
  Conditions: slices of at most 100000 sectors; the sectors' cells are bytes.
-/
import Derived.Test.YtlanaplnhjdgcaaS1
namespace Go.Proofs.Ytlanaplnhjdgcaa
open Go.RowKit

theorem exec_cut_l {op : Oper} {a : Act} {w : World} (x lo : Operand) (ho : op.op = .slice 22 x (some lo) none none) (g l : Nat) (hx : a.eval x = .pointer (some ⟨g, 0, none⟩)) (hl : a.eval lo = .int .i64 (l : Int)) (h1 : l < 224) :
    (execOp a.eval op).run Try.prog w = .ok (.value (.slice (some ⟨g, l, none⟩) (224 - l) (224 - l))) w := by
  have := run_sliceAt_array_l (P := Try.prog) w 22 ⟨g, 0, none⟩ und22 .i64 (l : Int) (by omega) (by rw [alen22]; omega)
  unfold execOp
  simp [ho, hx, hl, this, alen22, elem22, slicedAt, add_plain]
  omega
theorem exec_cut_h {op : Oper} {a : Act} {w : World} (x hi : Operand) (ho : op.op = .slice 45 x none (some hi) none) (g : Nat) (hx : a.eval x = .pointer (some ⟨g, 0, none⟩)) (hh : a.eval hi = .int .i64 56) :
    (execOp a.eval op).run Try.prog w = .ok (.value (.slice (some ⟨g, 0, none⟩) 56 64)) w := by
  have := run_sliceAt_array_h (P := Try.prog) w 45 ⟨g, 0, none⟩ und45 .i64 56 (by omega) (by rw [alen45]; omega)
  unfold execOp
  simp [ho, hx, hh, this, alen45, elem45, slicedAt, add_plain]
theorem wpList_store_secR {ops : Array Oper} {rest : List Oper} {op : Oper} {a : Act} {w : World} {Q : Exit → Act → World → Prop} (x y : Operand) (hop : op.dst = none) (hgd : op.guard = none) (ho : op.op = .store 45 x y)
    (g : Nat) (hx : a.eval x = .pointer (some ⟨g, 0, none⟩)) (s q : Sect) (hy : a.eval y = .agg (secA s)) (hc : RowAt w g 45 q.toList)
    (h : ∀ w', RowAt w' g 45 s.toList → Mod (fun k => k = g) w w' → wpList Try.prog ops Q rest (a.put none undef) w') : wpList Try.prog ops Q (op :: rest) a w := by
  refine wpList_store_sec x y hop hgd ho g 0 hx s hy (hc.there 0 64 (by simp)) ?_
  rintro w' rfl
  refine h _ ?_ (Mod.setCells (X := fun k => k = g) (Mod.refl _ w) (.inl rfl) _ _)
  have := hc.put 0 s.toList (by simp)
  rw [show splice q.toList 0 s.toList = s.toList by simp [splice]] at this
  exact this
theorem mod_new {X : Nat → Prop} {w w' : World} {o : Obj} (h : Mod (fun k => k = w.heap.size) (w.alloc o) w') : Mod X w w' :=
  ⟨h.os, h.tape, h.output, by have := h.size; simp at this; omega, fun k hk _ => by
    rw [h.block k (by simp; omega) (by omega), Below.heap_alloc _ _ _ hk]⟩
def pgk (l : List Sect) (k : Nat) : List Int := pagesL (l.take k) ++ List.replicate (224 - k * 56) 0
theorem pgk_length (l : List Sect) (k : Nat) (hl : l.length = 4) (hk : k ≤ 4) : (pgk l k).length = 224 := by
  rw [pgk, List.length_append, pagesL_length, List.length_replicate, List.length_take]; omega
theorem pgk_step (l : List Sect) (k : Nat) (hl : l.length = 4) (hk : k < 4) : splice (pgk l k) (k * 56) (bodyL (l[k]'(by omega))) = pgk l (k + 1) := by
  have h1 : (pagesL (l.take k)).length = k * 56 := by rw [pagesL_length, List.length_take, Nat.min_eq_left (by omega)]
  have := splice_mid (pagesL (l.take k)) (List.replicate 56 0) (List.replicate (224 - (k + 1) * 56) 0) (bodyL (l[k]'(by omega))) (by rw [body_length, List.length_replicate])
  rw [h1, List.replicate_append_replicate, show 56 + (224 - (k + 1) * 56) = 224 - k * 56 by omega] at this
  rw [pgk, this, pgk, take_snoc l k (by omega), pagesL_append, pagesL, pagesL, List.append_nil, List.append_assoc]
theorem pgk_zero (l : List Sect) : pgk l 0 = zpg.toList := by rw [pgk, zpg_toList, List.take_zero]; rfl
theorem pgk_four (l : List Sect) (hl : l.length = 4) : pgk l 4 = (pageOf l).toList := by
  rw [pgk, pageOf_toList l hl, List.take_of_length_le (by omega), Nat.sub_self, List.replicate_zero, List.append_nil]
theorem body_cells {w : World} {g : Nat} {t : TypeId} {s : Sect} (h : RowAt w g t s.toList) : ∀ j v, (CL (bodyL s))[j]? = some v → w.cell? ((⟨g, 0, none⟩ : Addr).add j) = some v := fun j v hv => by
  rw [add_plain]
  have := h.range 0 56
  rw [List.drop_zero] at this
  exact this j v hv
theorem whole_no (l : List Sect) (k : Nat) (h : k < l.length) (hne : markI l[k] ≠ markI (l.headD zsec)) : whole l = false := by
  rw [whole, Bool.and_eq_false_iff]
  right
  rw [List.all_eq_false]
  exact ⟨l[k], List.getElem_mem h, by simpa using hne⟩
theorem whole_short (l : List Sect) (h : l.length ≠ 4) : whole l = false := by simp [whole, h]
theorem whole_yes (l : List Sect) (hl : l.length = 4) (h : ∀ s ∈ l, markI s = markI (l.headD zsec)) : whole l = true := by
  rw [whole, Bool.and_eq_true, List.all_eq_true]
  exact ⟨by simp [hl], fun s hs => by simpa using h s hs⟩
def GotV (l : List Sect) : Value := .tuple #[.agg (pgA (getP l)), .int .u64 (getM l), .bool (whole l)]
theorem GotV_no (l : List Sect) (h : whole l = false) : GotV l = .tuple #[.agg (pgA zpg), .int .u64 0, .bool false] := by simp [GotV, getP, getM, h]
theorem GotV_yes (l : List Sect) (h : whole l = true) : GotV l = .tuple #[.agg (pgA (pageOf l)), .int .u64 (markI (l.headD zsec)), .bool true] := by simp [GotV, getP, getM, h]
def Got (w : World) (l : List Sect) (e : Ending) (w' : World) : Prop := e = .returned (GotV l) ∧ Below w.heap.size w w'

set_option maxRecDepth 8000 in
set_option maxHeartbeats 400000 in
theorem get6_short (n c : Nat) (A : Option Addr) (l : List Sect) (w : World) (hl : l.length = n) (hn : n ≠ 4) : Calls Try.prog 8 #[.slice A n c] w (Got w l) := by
  have hzero := (zero_of_info pg_info).1
  have hinfo := Lib.hid (zero_of_info pg_info).2
  have R1 := Lib.hid (row_pg w zpg)
  have HG := Lib.hid (GotV_no l (whole_short l (by rw [hl]; exact hn)))
  have d1 : ((n : Int) != 4) = true := by rw [bne_iff_ne]; omega
  have d2 : ((n : Int) == 4) = false := by rw [beq_eq_false_iff_ne]; omega
  go_enter Try.func8, Try.ntmps8
  go_wp2_with (refine wpList_store_pg (.tmp 2) (.tmp 12) rfl rfl rfl w.heap.size rfl zpg zpg rfl R1.out ?_; intro w9 h9 m9; have H9 := Lib.hid h9; have M9 := Lib.hid m9; clear h9 m9)
  refine bodyPost_ret (v := .tuple #[.agg (pgA zpg), .int .u64 0, .bool false]) (results_pg3 _ _ w.heap.size zpg _ _ rfl H9.out Try.results8 rfl rfl) rfl ⟨by rw [HG.out], ?_⟩
  have h1 : Below w.heap.size w _ := (Below.refl w.heap.size w).alloc (Nat.le_refl _) (.cells (pgA zpg) 22)
  exact M9.out.below h1 (fun q hq => by omega) h1.size

set_option maxRecDepth 8000 in
set_option maxHeartbeats 800000 in
theorem get6_four (X : Nat → Prop) (c : Nat) (A : Option Addr) (l : List Sect) (w : World) (h : Lz X w 64 A 4 (flat l)) (hs : Oks l) : Calls Try.prog 8 #[.slice A 4 c] w (Got w l) := by
  have hl : l.length = 4 := by have := h.len; rw [flat_length] at this; omega
  have hzero := (zero_of_info pg_info).1
  have hinfo := Lib.hid (zero_of_info pg_info).2
  have hzero2 := (zero_of_info arr_info).1
  have hinfo2 := Lib.hid (zero_of_info arr_info).2
  obtain ⟨b, o, rfl, _⟩ := h.spot (by omega)
  have R1 := Lib.hid ((row_pg w zpg).alloc (.cells (pgA zpg) 22))
  have R2 := row_pg (w.alloc (.cells (pgA zpg) 22)) zpg
  rw [show (w.alloc (.cells (pgA zpg) 22)).heap.size = w.heap.size + 1 by simp] at R2
  have R2 := Lib.hid R2
  have B1 := Lib.hid (((Below.refl w.heap.size w).alloc (Nat.le_refl _) (.cells (pgA zpg) 22)).alloc (by simp) (.cells (pgA zpg) 22))
  obtain ⟨x0, hx0⟩ : ∃ x0, x0 = l[0]'(by omega) := ⟨_, rfl⟩
  have hhead : l.headD zsec = x0 := by
    rw [hx0]
    cases l with
    | nil => simp at hl
    | cons s r => rfl
  have hr0 : ((w.alloc (.cells (pgA zpg) 22)).alloc (.cells (pgA zpg) 22)).rangeAt b o (sec x0) := by
    obtain ⟨b', o', e, _, _, hr⟩ := (h.below B1.out).spot (by omega)
    injection e with e
    injection e with e1 e2
    subst e1 e2
    have := flat_range hr (k := 0) (by omega)
    rw [← hx0, Nat.zero_mul, Nat.add_zero] at this
    exact this
  have R0 := Lib.hid hr0
  have OK0 := Lib.hid (hs x0 (by rw [hx0]; exact List.getElem_mem _))
  have HH := Lib.hid h
  have HS := Lib.hid hs
  have HL := Lib.hid hl
  have HX := Lib.hid hhead
  clear h hs hl hr0 hhead hx0
  obtain ⟨m0, hm0⟩ : ∃ m0, m0 = markI x0 := ⟨_, rfl⟩
  have HM0 := Lib.hid hm0
  clear hm0
  go_enter Try.func8, Try.ntmps8
  go_wp2_with (first
    | refine wpList_load_sec 15 (.tmp 14) rfl rfl rfl b o rfl x0 R0.out ?_
    | (go_at_call 22; refine (number_any x0 _ OK0.out).mono ?_; rintro e w1 ⟨rfl, hb1⟩; rw [← HM0.out]; have HB1 := Lib.hid hb1; clear hb1))
  go_loopw [19] (fun i wr => ∃ k : Nat, k ≤ 4 ∧ i = .int .i64 k ∧ Hid (∀ s ∈ l.take k, markI s = m0) ∧ Hid (RowAt wr (w.heap.size + 1) 22 (pgk l k)) ∧ Hid (RowAt wr w.heap.size 22 zpg.toList) ∧ Hid (Below w.heap.size w wr)) (fun i _ => 4 - (intOf i).toNat)
  case atStart =>
    refine ⟨0, Nat.zero_le _, rfl, ?_, ?_, Lib.hid (R1.out.below HB1.out), Lib.hid (B1.out.trans (HB1.out.mono (by simp; omega)))⟩
    · intro s hs
      simp at hs
    · show RowAt _ _ _ _
      rw [pgk_zero]
      exact R2.out.below HB1.out
  case round =>
    obtain ⟨k, hk, rfl, hM, hR, hZ, hB⟩ := hrel
    by_cases hlt : k < 4
    · have hkl : k < l.length := by rw [HL.out]; exact hlt
      obtain ⟨b', o', e, _, _, hr⟩ := (HH.out.below hB.out).spot (by omega)
      injection e with e
      injection e with e1 e2
      subst e1 e2
      have RX := Lib.hid (flat_range hr hkl)
      have OK := Lib.hid (HS.out l[k] (List.getElem_mem _))
      have HST := Lib.hid (pgk_step l k HL.out hlt)
      have HNO := Lib.hid (whole_no l k hkl)
      have HSN := Lib.hid (take_snoc l k hkl)
      clear hr
      generalize l[k] = x at *
      obtain ⟨mx, hmx⟩ : ∃ mx, mx = markI x := ⟨_, rfl⟩
      have HMX := Lib.hid hmx
      clear hmx
      have hwl := hB.out.size
      have hgt : w.heap.size + 1 < wr.heap.size := hR.out.lt
      by_cases hq : mx = m0
      · have q1 : (mx != m0) = false := by rw [hq]; simp
        have HQ := Lib.hid hq
        clear hq
        go_wp2_with (first
          | refine wpList_load_sec 23 (.tmp 22) rfl rfl rfl b (o + k * 64) rfl x RX.out ?_
          | (refine wpList_store_secR (.tmp 8) (.tmp 23) rfl rfl rfl wr.heap.size rfl x zsec rfl (row_sec wr zsec) ?_; intro w2 h2 m2; have RS := Lib.hid h2; have MS := Lib.hid (mod_new (X := fun _ => False) m2); clear h2 m2)
          | refine wpList_load_sec 24 (.tmp 8) rfl rfl rfl wr.heap.size 0 rfl x RS.out.all ?_
          | (go_at_call 22; refine (number_any x _ OK.out).mono ?_; rintro e w3 ⟨rfl, hb3⟩; rw [← HMX.out]
             have HB3 := Lib.hid hb3
             clear hb3))
        have R3 := Lib.hid (RS.out.below HB3.out)
        have RP3 := Lib.hid ((hR.out.kept MS.out (fun h => h)).below HB3.out)
        have RZ3 := Lib.hid ((hZ.out.kept MS.out (fun h => h)).below HB3.out)
        have B3 : Hid (Below w.heap.size w w3) := (MS.out.below hB.out (fun _ h => h.elim) hwl).trans (HB3.out.mono (by have := MS.out.size; omega))
        obtain ⟨lo, hlo⟩ : ∃ lo, lo = k * 56 := ⟨_, rfl⟩
        have HLO := Lib.hid hlo
        clear hlo
        refine wp_region_held_drew (S := fun _ => True) (by kernel_rfl) trivial (fun hS => ?_)
        refine takeH (i := 0) (d := 29) (v := ?vq0) rfl (by kernel_rfl) (by kernel_rfl) (by kernel_rfl) (fun _ _ _ h => h) rfl (by rfl) ?yq0 hS ?rq0
        case yq0 => (intro wz hz; go_simp <;> with_reducible rfl)
        simp only [List.setIfInBounds_toArray, List.set_cons_zero, List.set_cons_succ]
        refine takeH (i := 1) (d := 30) (v := .int .i64 (lo : Int)) rfl (by kernel_rfl) (by kernel_rfl) (by kernel_rfl) (fun _ _ _ h => h) rfl (by rfl) ?yq1 hS ?rq1
        case yq1 => (intro wz hz; have e1 := HLO.out; clear HLO; go_simp <;> (first | done | omega | (rw [IntKind.wrap_i64]; omega)))
        simp only [List.setIfInBounds_toArray, List.set_cons_zero, List.set_cons_succ]
        refine takeH (i := 2) (d := 31) (v := .slice (some ⟨w.heap.size + 1, lo, none⟩) (224 - lo) (224 - lo)) rfl (by kernel_rfl) (by kernel_rfl) (by kernel_rfl) (fun _ _ _ h => h) rfl (by rfl) ?yq2 hS ?rq2
        case yq2 => (intro wz hz; exact exec_cut_l (.tmp 5) (.tmp 30) rfl (w.heap.size + 1) lo rfl rfl (by have := HLO.out; omega))
        simp only [List.setIfInBounds_toArray, List.set_cons_zero, List.set_cons_succ]
        refine takeH (i := 3) (d := 32) (v := .slice (some ⟨wr.heap.size, 0, none⟩) 56 64) rfl (by kernel_rfl) (by kernel_rfl) (by kernel_rfl) (fun _ _ _ h => h) rfl (by rfl) ?yq3 hS ?rq3
        case yq3 => (intro wz hz; exact exec_cut_h (.tmp 8) (.const (.int .i64 56)) rfl wr.heap.size rfl rfl)
        simp only [List.setIfInBounds_toArray, List.set_cons_zero, List.set_cons_succ]
        refine wpAnyH_ready (rs := [4]) (by kernel_rfl) (by simp) ?_
        refine AllReadyH.cons rfl (fun K hK => ?_) AllReadyH.nil
        rw [if_pos (by rfl)]
        refine wp_copyB 33 (.tmp 31) (.tmp 32) rfl rfl (w.heap.size + 1) lo (224 - lo) (224 - lo) 56 64 ⟨wr.heap.size, 0, none⟩ (bodyL x) (pgk l k) 22 rfl rfl RP3.out.drew (by rw [body_length]; have := HLO.out; exact (Nat.min_eq_left (by omega)).symm) (body_cells R3.out.drew) (by rw [body_length, pgk_length l k HL.out hk]; have := HLO.out; omega) ?_
        intro w4 hr4 hm4
        rw [HLO.out, HST.out] at hr4
        have R4 := Lib.hid hr4
        have M4 := Lib.hid hm4
        clear hr4 hm4
        refine hK.out _ _ (trivial) (fun hT => ?_)
        clear hK  hS
        have hS := hT
        clear hT
        refine wpAnyH_done (by kernel_rfl) ?_ _
        go_wp2_with fail
        refine ⟨⟨k + 1, by omega, by go_num, ?_, R4, ?_, ?_⟩, by simp [intOf]; omega⟩
        · show ∀ s ∈ _, _
          rw [HSN.out]
          intro s hs
          rw [List.mem_append, List.mem_singleton] at hs
          rcases hs with hs | rfl
          · exact hM.out s hs
          · rw [← HMX.out]; exact HQ.out
        · exact RZ3.out.drew.kept M4.out (by show ¬ w.heap.size = w.heap.size + 1; omega)
        · exact M4.out.below (below_drew B3.out) (fun q hq => by omega) B3.out.size
      · have q1 : (mx != m0) = true := by rw [bne_iff_ne]; exact hq
        have HG := Lib.hid (GotV_no l (HNO.out (by rw [HX.out, ← HM0.out, ← HMX.out]; exact hq)))
        clear hq
        go_wp2_with (first
          | refine wpList_load_sec 23 (.tmp 22) rfl rfl rfl b (o + k * 64) rfl x RX.out ?_
          | (refine wpList_store_secR (.tmp 8) (.tmp 23) rfl rfl rfl wr.heap.size rfl x zsec rfl (row_sec wr zsec) ?_; intro w2 h2 m2; have RS := Lib.hid h2; have MS := Lib.hid (mod_new (X := fun _ => False) m2); clear h2 m2)
          | refine wpList_load_sec 24 (.tmp 8) rfl rfl rfl wr.heap.size 0 rfl x RS.out.all ?_
          | (go_at_call 22; refine (number_any x _ OK.out).mono ?_; rintro e w3 ⟨rfl, hb3⟩; rw [← HMX.out]
             have HB3 := Lib.hid hb3
             clear hb3)
          | (refine wpList_store_pg (.tmp 2) (.tmp 28) rfl rfl rfl w.heap.size rfl zpg zpg rfl ((hZ.out.kept MS.out (fun h => h)).below HB3.out) ?_; intro w9 h9 m9; have H9 := Lib.hid h9; have M9 := Lib.hid m9; clear h9 m9))
        refine bodyPost_ret (v := .tuple #[.agg (pgA zpg), .int .u64 0, .bool false]) (results_pg3 _ _ w.heap.size zpg _ _ rfl H9.out Try.results8 rfl rfl) rfl ⟨by rw [HG.out], ?_⟩
        have B3 : Below w.heap.size w w3 := (MS.out.below hB.out (fun _ h => h.elim) hwl).trans (HB3.out.mono (by have := MS.out.size; omega))
        exact M9.out.below B3 (fun q hq => by omega) B3.size
    · obtain rfl : k = 4 := by omega
      have RP : Hid (RowAt wr (w.heap.size + 1) 22 (pageOf l).toList) := by
        show RowAt _ _ _ _
        rw [← pgk_four l HL.out]
        exact hR.out
      have HG : Hid (GotV l = .tuple #[.agg (pgA (pageOf l)), .int .u64 m0, .bool true]) := by
        show _ = _
        rw [GotV_yes l (whole_yes l HL.out (fun s hs => ?_)), HX.out, ← HM0.out]
        rw [HX.out, ← HM0.out]
        exact hM.out s (by rw [List.take_of_length_le (by rw [HL.out]; exact Nat.le_refl _)]; exact hs)
      go_wp2_with (first
        | refine wpList_load_pg 35 (.tmp 5) rfl rfl rfl (w.heap.size + 1) rfl (pageOf l) RP.out ?_
        | (refine wpList_store_pg (.tmp 2) (.tmp 35) rfl rfl rfl w.heap.size rfl (pageOf l) zpg rfl hZ.out ?_; intro w9 h9 m9; have H9 := Lib.hid h9; have M9 := Lib.hid m9; clear h9 m9))
      refine bodyPost_ret (v := .tuple #[.agg (pgA (pageOf l)), .int .u64 m0, .bool true]) (results_pg3 _ _ w.heap.size (pageOf l) _ _ rfl H9.out Try.results8 rfl rfl) rfl ⟨by rw [HG.out], ?_⟩
      exact M9.out.below hB.out (fun q hq => by omega) hB.out.size
theorem get6_any (X : Nat → Prop) (n c : Nat) (A : Option Addr) (l : List Sect) (w : World) (h : Lz X w 64 A n (flat l)) (hs : Oks l) : Calls Try.prog 8 #[.slice A n c] w (Got w l) := by
  have hl : l.length = n := by have := h.len; rw [flat_length] at this; omega
  by_cases hn : n = 4
  · subst hn
    exact get6_four X c A l w h hs
  · exact get6_short n c A l w hl hn
end Go.Proofs.Ytlanaplnhjdgcaa
