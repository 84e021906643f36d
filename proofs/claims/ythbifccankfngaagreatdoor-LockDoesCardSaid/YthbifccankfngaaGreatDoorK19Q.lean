/-
  The walk of Cancel.
  Conditions: at most 99999 claims a row, with those that wait.
-/
import Derived.Test.YthbifccankfngaaGreatDoorK18Q
namespace Go.Proofs.YthbifccankfngaaGreatDoor
open Go.RowKit Go.Shelf
attribute [local go_sem] Oper.semAt_some
set_option maxRecDepth 20000

theorem TbR.tbv {w0 w : World} {X : Nat → Prop} {B g b1 b2 b3 : Nat} {s : TS} {V V' : RI → Value} {L : RI → List (Value × Value)} (h : TbR w0 X w B g b1 b2 b3 s V V' L) (hV : ∀ i, V i = V' i) (hL : ∀ i, L i = rowI s i)
    (n1 : ∀ r, s.th r = none → V (.hold r) = nilS ∧ V (.queue r) = nilS) (n2 : ∀ t, s.ow t = none → V (.own t) = nilS) : TbV w B g b1 b2 b3 s V := by
  obtain rfl : V = V' := funext hV
  obtain rfl : L = rowI s := funext hL
  exact ⟨h.gt, h.ms, h.rows, n1, n2, h.d12, h.d13, h.d23⟩
theorem GrantR.from {w w1 w' : World} {X : Nat → Prop} {g : Nat} {p : TS × List Nat} {e : Ending} (hm : Mod X w w1) {X1 : Nat → Prop} (hx : ∀ k, X1 k → X k ∨ w.heap.size ≤ k) (h : GrantR w1 X1 g p e w') : GrantR w X g p e w' := by
  obtain ⟨v, h1, h2, h3⟩ := h
  exact ⟨v, h1, own_base h2 hm.size, h3.step hx hm⟩
theorem row_wt (s : TS) (f : Nat → Option Rs) (i : RI) : rowI { s with wt := f } i = rowI s i := by cases i <;> rfl
set_option maxHeartbeats 800000 in
theorem cancel_none (X : Nat → Prop) (g : Nat) (s : TS) (t : Nat) (w : World) (h : Tt w g s X) (ht : U64 t) (hw : s.wt t = none) :
    Calls Tryz.prog 22 #[.pointer (some ⟨g, 0, none⟩), .int .u64 (t : Int)] w (GrantR w X g (cancelI s t)) := by
  have hc : cancelI s t = (s, []) := by unfold cancelI; rw [hw]
  rw [hc]
  obtain ⟨B, b1, b2, b3, V, hv, _⟩ := h.ex
  have p0 : w.cell? ⟨g, 2, none⟩ = some (.map (some b3)) := hv.cell3
  have TB := Lib.hid hv
  have HW := Lib.hid hw
  have HT := Lib.hid ht
  have HTT := Lib.hid h
  clear h hv hw ht hc
  go_enter Tryz.func22, Tryz.ntmps22
  go_wp2_with (first
    | refine wpList_look rfl 14 rfl (.tmp 12) (.tmp 13) true rfl keyT_u64 Tryz.underlying59 (rsV (0, 0)) (zero_res _) rfl TB.out.ms.m3 t rfl HT.out (.tuple #[.agg (wtV none), .bool false]) (by show lookV _ ((s.wt t).map rsV) true = _; rw [HW.out, wtV_look]; rfl) ?_
    | refine wpList_store_new 33 (.tmp 5) (.tmp 15) rfl rfl rfl _ w rfl rfl (wtV none) (rsA (0, 0)) 2 rfl strR rfl rfl (wtV_one _) rfl ?_)
  go_ret
  exact ⟨_, rfl, World.ownsRow_nil _ _ _ _, Tw.of_below HTT.out ((Below.refl _ w).alloc (Nat.le_refl _) _)⟩
set_option maxHeartbeats 12800000 in
theorem cancel_some (X : Nat → Prop) (g : Nat) (s : TS) (t : Nat) (r : Rs) (w : World) (h : Tt w g s X) (hX : ∀ k, X k → 2 ≤ k) (hT : Tab w) (hr : RsOk r) (ht : U64 t) (hok : OkQ s r) (N : Nat) (hs : SmS s N) (hN : N + N ≤ 99999) (hw : s.wt t = some r) :
    Calls Tryz.prog 22 #[.pointer (some ⟨g, 0, none⟩), .int .u64 (t : Int)] w (GrantR w X g (cancelI s t)) := by
  obtain ⟨PP, hPP⟩ : ∃ PP, cancelI s t = PP := ⟨_, rfl⟩
  rw [hPP]
  obtain ⟨B, b1, b2, b3, V, hv, hB, hx⟩ := h.ex
  obtain ⟨A1, c1, hv1, ho1⟩ := hv.holdR r
  obtain ⟨A2, c2, hv2, ho2⟩ := hv.queueR r
  have hn1 := (hs.1 r).1
  have hn2 := (hs.1 r).2
  obtain ⟨hh, hhe⟩ : ∃ hh, (s.at r).1 = hh := ⟨_, rfl⟩
  obtain ⟨qq, hqe⟩ : ∃ qq, (s.at r).2 = qq := ⟨_, rfl⟩
  obtain ⟨n1, hn1e⟩ : ∃ n1, hh.length = n1 := ⟨_, rfl⟩
  obtain ⟨n2, hn2e⟩ : ∃ n2, qq.length = n2 := ⟨_, rfl⟩
  rw [hhe] at ho1 hv1 hn1
  rw [hqe] at hv2 ho2 hn2
  rw [hn1e] at ho1 hv1 hn1
  rw [hn2e] at ho2 hv2 hn2
  obtain ⟨b5, hb5⟩ : ∃ b5, w.heap.size = b5 := ⟨_, rfl⟩
  obtain ⟨z, hz⟩ : ∃ z, w.alloc (.cells (wtV (some r)) 33) = z := ⟨_, rfl⟩
  have hbel : Below w.heap.size w z := hz ▸ (Below.refl _ w).alloc (Nat.le_refl _) _
  have p0 : w.cell? ⟨g, 2, none⟩ = some (.map (some b3)) := hv.cell3
  have p1 : z.cell? ⟨g, 2, none⟩ = some (.map (some b3)) := (hv.below hbel).cell3
  have HBW := Lib.hid hbel
  have TR := Lib.hid ((TbR.start hv hB hx).below hbel)
  have A5Z : Hid (At z b5 33 (rsA r)) := by
    have := At.new w 33 (rsA r)
    rw [← hz, ← hb5]
    exact this
  have TB := Lib.hid hv
  have HO2 := Lib.hid ho2
  have HV1 := Lib.hid hv1
  have HV2 := Lib.hid hv2
  have HHE := Lib.hid hhe
  have HQE := Lib.hid hqe
  have HN1E := Lib.hid hn1e
  have HN2E := Lib.hid hn2e
  have HB5 := Lib.hid hb5
  have HW := Lib.hid hw
  have HOT := Lib.hid ht
  have HOK := Lib.hid hr
  have HOKQ := Lib.hid hok
  have HTB := Lib.hid hT
  have HX2 := Lib.hid hX
  have HXX := Lib.hid hx
  have HXL := Lib.hid h.lt
  have HPP := Lib.hid hPP
  have HSM := Lib.hid hs
  clear h hX hT hr ht hok hs hw hPP hv hB hx ho1 ho2 hv1 hv2 hhe hqe hn1e hn2e hbel hb5
  obtain ⟨z2, hdel, hm2, hg2⟩ := TR.out.ms.m3.drop keyT_u64 Tryz.underlying59 (a := t) HOT.out 0
  unfold u64V at hdel
  go_enter Tryz.func22, Tryz.ntmps22
  go_wp2_with (first
    | refine wpList_look rfl 14 rfl (.tmp 12) (.tmp 13) true rfl keyT_u64 Tryz.underlying59 (rsV (0, 0)) (zero_res _) rfl TB.out.ms.m3 t rfl HOT.out (.tuple #[.agg (wtV (some r)), .bool true]) (by show lookV _ ((s.wt t).map rsV) true = _; rw [HW.out, wtV_look]; rfl) ?_
    | refine wpList_store_new 33 (.tmp 5) (.tmp 15) rfl rfl rfl _ w rfl rfl (wtV (some r)) (rsA (0, 0)) 2 rfl strR rfl rfl (wtV_one _) rfl ?_
    | fail)
  rw [HB5.out]
  have TRD := Lib.hid (TR.out.put3 t none hm2 hg2)
  have A5 : Hid (At z2 b5 33 (rsA r)) := by
    obtain ⟨es7, cl7, hes7, _⟩ := TR.out.ms.m3
    exact A5Z.out.grown hg2 (fun e => at_map A5Z.out hes7 (Option.some.inj e))
  have hb5z : b5 < z2.heap.size := A5.out.lt
  clear hm2 hg2 hz p0 p1 hdel
  obtain ⟨s2, hs2⟩ : ∃ s2, s2 = ({ s with wt := upd s.wt t none } : TS) := ⟨_, rfl⟩
  rw [← hs2] at TRD
  have TB2 := Lib.hid (TRD.out.tbv (fun _ => rfl) (fun i => by rw [hs2]; exact (row_wt s _ i).symm) (by rw [hs2]; exact TB.out.n1) (by rw [hs2]; exact TB.out.n2))
  have HS2 := Lib.hid hs2
  clear hs2
  refine wp_region_held_drew (S := Below z2.heap.size z2) (by kernel_rfl) ((Below.refl _ z2).drew) (fun hS => ?_)
  refine takeH (i := 0) (d := 24) (v := ?vcl0) rfl (by kernel_rfl) (by kernel_rfl) (by kernel_rfl) (fun _ _ _ h => h) rfl (by rfl) ?ycl0 hS ?rcl0
  case ycl0 => (intro wz hz; have p0 : wz.cell? ⟨g, 0, none⟩ = some (.map (some b1)) := (TB2.out.below hz).cell1; go_simp <;> with_reducible rfl)
  simp only [List.setIfInBounds_toArray, List.set_cons_zero, List.set_cons_succ]
  refine takeH (i := 1) (d := 25) (v := ?vcl1) rfl (by kernel_rfl) (by kernel_rfl) (by kernel_rfl) (fun _ _ _ h => h) rfl (by rfl) ?ycl1 hS ?rcl1
  case ycl1 => (intro wz hz; have p0 : wz.cell? ⟨g, 0, none⟩ = some (.map (some b1)) := (TB2.out.below hz).cell1; go_simp <;> with_reducible rfl)
  simp only [List.setIfInBounds_toArray, List.set_cons_zero, List.set_cons_succ]
  refine takeH (i := 2) (d := 26) (v := ?vcl2) rfl (by kernel_rfl) (by kernel_rfl) (by kernel_rfl) (fun _ _ _ h => h) rfl (by rfl) ?ycl2 hS ?rcl2
  case ycl2 => (intro wz hz; have p0 : wz.cell? ⟨g, 0, none⟩ = some (.map (some b1)) := (TB2.out.below hz).cell1; go_simp <;> with_reducible rfl)
  simp only [List.setIfInBounds_toArray, List.set_cons_zero, List.set_cons_succ]
  refine takeH (i := 3) (d := 27) (v := ?vcl3) rfl (by kernel_rfl) (by kernel_rfl) (by kernel_rfl) (fun _ _ _ h => h) rfl (by rfl) ?ycl3 hS ?rcl3
  case ycl3 => (intro wz hz; have p0 : wz.cell? ⟨g, 0, none⟩ = some (.map (some b1)) := (TB2.out.below hz).cell1; go_simp <;> with_reducible rfl)
  simp only [List.setIfInBounds_toArray, List.set_cons_zero, List.set_cons_succ]
  refine takeH (i := 4) (d := 28) (v := rsV r) rfl (by kernel_rfl) (by kernel_rfl) (by kernel_rfl) (fun _ _ _ h => h) rfl (by rfl) ?ycl4 hS ?rcl4
  case ycl4 => (intro wz hz; have p0 : wz.cell? ⟨g, 0, none⟩ = some (.map (some b1)) := (TB2.out.below hz).cell1; exact exec_load_at 33 (.tmp 5) rfl b5 rfl _ 2 strR rfl (A5.out.under hz A5.out.lt))
  simp only [List.setIfInBounds_toArray, List.set_cons_zero, List.set_cons_succ]
  refine takeH (i := 5) (d := 29) (v := thV (.slice A1 n1 c1) (.slice A2 n2 c2)) rfl (by kernel_rfl) (by kernel_rfl) (by kernel_rfl) (fun _ _ _ h => h) rfl (by rfl) ?ycl5 hS ?rcl5
  case ycl5 => (intro wz hz; have p0 : wz.cell? ⟨g, 0, none⟩ = some (.map (some b1)) := (TB2.out.below hz).cell1; exact exec_look (.tmp 27) (.tmp 28) false rfl keyT_res Tryz.underlying57 (thV nilS nilS) zero_th rfl (TB2.out.below hz).ms.m1 r rfl HOK.out _ (by rw [(TB2.out.below hz).look1, HV1.out, HV2.out]))
  simp only [List.setIfInBounds_toArray, List.set_cons_zero, List.set_cons_succ]
  refine wpAnyH_ready (rs := [6]) (by kernel_rfl) (by simp) ?_
  refine AllReadyH.cons rfl (fun K hK => ?_) AllReadyH.nil
  go_simp
  refine hK.out _ _ (((Below.refl _ z2).drew).alloc (Nat.le_refl _) _) (fun hT => ?_)
  clear hK hS
  have hS := hT
  clear hT
  refine wpAnyH_ready (rs := [7]) (by kernel_rfl) (by simp) ?_
  refine AllReadyH.cons rfl (fun K hK => ?_) AllReadyH.nil
  rw [if_pos (by rfl)]
  refine wp_store_at 79 (.tmp 7) (.tmp 29) rfl rfl z2.heap.size rfl (thA (.slice A1 n1 c1) (.slice A2 n2 c2)) (thA nilS nilS) 2 rfl strTh rfl rfl (thA_one _ _ _ _ _ _) (At.new z2.drew 79 (thA nilS nilS)) ?_
  intro w9 ha9 hg9
  have AX := Lib.hid ha9
  have HB9 := Lib.hid (show Below z2.heap.size z2 w9 from (((Below.refl _ z2).drew).alloc (Nat.le_refl _) (.cells (thA nilS nilS) 79)).grown hg9 (by simp [World.alloc]) (fun k hk => by injection hk with hk; subst hk; exact Nat.le_refl _))
  clear ha9 hg9
  refine hK.out _ _ (HB9.out) (fun hT => ?_)
  clear hK hS
  have hS := hT
  clear hT
  refine wpAnyH_done (by kernel_rfl) ?_ _
  clear hS
  obtain ⟨b7, hb7⟩ : ∃ b7, z2.heap.size = b7 := ⟨_, rfl⟩
  have hb79 : z2.heap.size < w9.heap.size := AX.out.lt
  rw [hb7] at AX hb79 hb5z ⊢
  have HB7 := Lib.hid hb7
  clear hb7
  go_wp2_with fail
  refine (of_any t w9).mono ?_
  rintro e zb ⟨rfl, hzb⟩
  obtain ⟨bf, hbf⟩ : ∃ bf, w9.heap.size = bf := ⟨_, rfl⟩
  rw [hbf] at hb79 ⊢
  have HBZ := Lib.hid (show Below z2.heap.size z2 zb from hzb ▸ HB9.out.alloc HB9.out.size _)
  have AXZ := Lib.hid (show At zb b7 79 (thA (.slice A1 n1 c1) (.slice A2 n2 c2)) from hzb ▸ AX.out.alloc _)
  have hcf : zb.cell? ⟨bf, 0, none⟩ = some (.int .u64 (t : Int)) := by
    have := (At.new w9 31 #[.int .u64 (t : Int)]).cell 0
    rw [hbf] at this
    rw [hzb]
    exact this
  have howq : ∀ k, (Value.slice A2 n2 c2).ownBlock = some k → k < b5 := fun k hk => by
    have := (HO2.out.lt k hk).2
    rw [HB5.out] at this
    exact this
  have HOWQ := Lib.hid howq
  have A5B := Lib.hid (A5.out.under HBZ.out A5.out.lt)
  have TRZ := Lib.hid (TRD.out.below HBZ.out)
  have hoz : zb.ownsRow B 54 2 (.slice A2 n2 c2) n2 (cmL qq) := by
    have := TRZ.out.rows.own (.queue r)
    have e : rowI s (.queue r) = qq.map cmP := by show (s.at r).2.map cmP = _; rw [HQE.out]
    rw [HV2.out, e, List.length_map, HN2E.out] at this
    exact this
  have HREM := Lib.hid (remove_any 64 #[.pointer (some ⟨bf, 0, none⟩)] (fun c => c.1 == t) ent_of B (.slice A2 n2 c2) qq zb (by rw [HN2E.out]; exact hoz)
    (pred_ofX t bf _ zb (fun hk => by have := howq _ hk; omega) hcf) (by rw [HN2E.out]; omega) b7 1 _ AXZ.out rfl)
  clear hzb hbf hcf howq hoz
  go_wp2_with fail
  refine HREM.out.mono ?_
  rintro e y5 ⟨rfl, v8, ho8, hv8, ha8, hm8⟩
  obtain ⟨q8, hq8⟩ : ∃ q8, qq.filter (fun c => !(c.1 == t)) = q8 := ⟨_, rfl⟩
  rw [hq8] at ho8
  obtain ⟨m8, hm8l⟩ : ∃ m8, q8.length = m8 := ⟨_, rfl⟩
  rw [hm8l] at ho8
  obtain ⟨A8, c8, hv8e, _⟩ := pl_own_slice ho8
  subst hv8e
  have hY : ∀ k, (k = b7 ∨ (Value.slice A2 n2 c2).ownBlock = some k) → (V (.queue r)).ownBlock = some k ∨ (¬ TbX g b1 b2 b3 V k ∧ w.heap.size ≤ k) := by
    rintro k (rfl | hk)
    · exact .inr ⟨TRZ.out.box_ne AXZ.out ⟨by decide, by decide, by decide⟩, by rw [HB5.out]; omega⟩
    · exact .inl (by rw [HV2.out]; exact hk)
  have TR2 := Lib.hid (TRZ.out.rowM (.queue r) hm8 hY (v := .slice A8 m8 c8) (l := q8.map cmP) (by rw [List.length_map, hm8l]; exact ho8) (fun k hk => .inl (by rw [HV2.out, ← hv8]; exact hk)))
  have A55 := Lib.hid (A5B.out.mod hm8 (by
    rintro (h | h)
    · omega
    · have := HOWQ.out b5 h; omega))
  have AX5 : Hid (At y5 b7 79 (thA (.slice A1 n1 c1) (.slice A8 m8 c8))) := ha8
  have HV8 := Lib.hid hv8
  have HQ8 := Lib.hid hq8
  clear ho8 hv8 ha8 hm8 hY hq8 HREM
  go_upto_region 7 with fail
  have hS0 : At y5.drew g 61 (tabA b1 b2 b3) ∧ At y5.drew b5 33 (rsA r) ∧ At y5.drew b7 79 (thA (.slice A1 n1 c1) (.slice A8 m8 c8)) := ⟨TR2.out.gt, A55.out, AX5.out⟩
  refine wp_region_held_drew (S := fun wz => At wz g 61 (tabA b1 b2 b3) ∧ At wz b5 33 (rsA r) ∧ At wz b7 79 (thA (.slice A1 n1 c1) (.slice A8 m8 c8))) (by kernel_rfl) hS0 (fun hS => ?_)
  refine takeH (i := 0) (d := 34) (v := ?vcp0) rfl (by kernel_rfl) (by kernel_rfl) (by kernel_rfl) (fun _ _ _ h => h) rfl (by rfl) ?ycp0 hS ?rcp0
  case ycp0 => (intro wz hz; have p0 : wz.cell? ⟨g, 0, none⟩ = some (.map (some b1)) := hz.1.cell 0; go_simp <;> with_reducible rfl)
  simp only [List.setIfInBounds_toArray, List.set_cons_zero, List.set_cons_succ]
  refine takeH (i := 1) (d := 35) (v := ?vcp1) rfl (by kernel_rfl) (by kernel_rfl) (by kernel_rfl) (fun _ _ _ h => h) rfl (by rfl) ?ycp1 hS ?rcp1
  case ycp1 => (intro wz hz; have p0 : wz.cell? ⟨g, 0, none⟩ = some (.map (some b1)) := hz.1.cell 0; go_simp <;> with_reducible rfl)
  simp only [List.setIfInBounds_toArray, List.set_cons_zero, List.set_cons_succ]
  refine takeH (i := 2) (d := 36) (v := ?vcp2) rfl (by kernel_rfl) (by kernel_rfl) (by kernel_rfl) (fun _ _ _ h => h) rfl (by rfl) ?ycp2 hS ?rcp2
  case ycp2 => (intro wz hz; have p0 : wz.cell? ⟨g, 0, none⟩ = some (.map (some b1)) := hz.1.cell 0; go_simp <;> with_reducible rfl)
  simp only [List.setIfInBounds_toArray, List.set_cons_zero, List.set_cons_succ]
  refine takeH (i := 3) (d := 37) (v := ?vcp3) rfl (by kernel_rfl) (by kernel_rfl) (by kernel_rfl) (fun _ _ _ h => h) rfl (by rfl) ?ycp3 hS ?rcp3
  case ycp3 => (intro wz hz; have p0 : wz.cell? ⟨g, 0, none⟩ = some (.map (some b1)) := hz.1.cell 0; go_simp <;> with_reducible rfl)
  simp only [List.setIfInBounds_toArray, List.set_cons_zero, List.set_cons_succ]
  refine takeH (i := 4) (d := 38) (v := rsV r) rfl (by kernel_rfl) (by kernel_rfl) (by kernel_rfl) (fun _ _ _ h => h) rfl (by rfl) ?ycp4 hS ?rcp4
  case ycp4 => (intro wz hz; have p0 : wz.cell? ⟨g, 0, none⟩ = some (.map (some b1)) := hz.1.cell 0; exact exec_load_at 33 (.tmp 5) rfl b5 rfl _ 2 strR rfl hz.2.1)
  simp only [List.setIfInBounds_toArray, List.set_cons_zero, List.set_cons_succ]
  refine takeH (i := 5) (d := 39) (v := .agg (thA (.slice A1 n1 c1) (.slice A8 m8 c8))) rfl (by kernel_rfl) (by kernel_rfl) (by kernel_rfl) (fun _ _ _ h => h) rfl (by rfl) ?ycp5 hS ?rcp5
  case ycp5 => (intro wz hz; have p0 : wz.cell? ⟨g, 0, none⟩ = some (.map (some b1)) := hz.1.cell 0; exact exec_load_at 79 (.tmp 7) rfl b7 rfl (thA (.slice A1 n1 c1) (.slice A8 m8 c8)) 2 strTh rfl hz.2.2)
  simp only [List.setIfInBounds_toArray, List.set_cons_zero, List.set_cons_succ]
  refine wpAnyH_ready (rs := [6]) (by kernel_rfl) (by simp) ?_
  refine AllReadyH.cons rfl (fun K hK => ?_) AllReadyH.nil
  rw [if_pos (by rfl)]
  refine wp_mapStore (.tmp 37) (.tmp 38) (.tmp 39) rfl rfl keyT_res Tryz.underlying57 rfl (TR2.out.below ((Below.refl _ y5).drew)).ms.m1 r rfl HOK.out (thV (.slice A1 n1 c1) (.slice A8 m8 c8)) rfl ?_
  intro w9 hm9 hg9
  have TR3 := Lib.hid ((TR2.out.below ((Below.refl _ y5).drew)).put1 r ((hh, q8)) (.slice A1 n1 c1) (.slice A8 m8 c8) hm9 hg9)
  have ngm := TR2.out.ms.m1
  obtain ⟨es9, cl9, hes9, _⟩ := ngm
  have hS9 : At w9 g 61 (tabA b1 b2 b3) ∧ At w9 b5 33 (rsA r) ∧ At w9 b7 79 (thA (.slice A1 n1 c1) (.slice A8 m8 c8)) := ⟨hS0.1.grown hg9 (fun e => at_map TR2.out.gt hes9 (Option.some.inj e)), hS0.2.1.grown hg9 (fun e => at_map A55.out hes9 (Option.some.inj e)), hS0.2.2.grown hg9 (fun e => at_map AX5.out hes9 (Option.some.inj e))⟩
  clear hm9 hes9
  refine hK.out _ _ (hS9) (fun hT => ?_)
  clear hK hS
  have hS := hT
  clear hT
  refine wpAnyH_done (by kernel_rfl) ?_ _
  obtain ⟨w3, hw3⟩ : ∃ w3, w3 = w9 := ⟨_, rfl⟩
  subst hw3
  have A56 := Lib.hid hS9.2.1
  have TT1 : Hid (Tt w3 g { s2 with th := upd s2.th r (some (hh, q8)) } X) := by
    refine th_tt (s := s2) (x := (hh, q8)) TR3.out rfl rfl (fun i => ?_) (fun i => ?_) TB2.out.n1 TB2.out.n2 (fun k hk => ?_) (fun k hk => ?_)
    · rw [← HV1.out]
      exact setTh_self V r _ i
    · have e1 : rowI s = rowI s2 := funext fun i => by rw [HS2.out]; exact (row_wt s _ i).symm
      have e2 : (s2.at r).1 = hh := by rw [HS2.out]; exact HHE.out
      rw [e1, row_self, e2]
    · rcases hk with h | h | h | h | ⟨i, hi⟩
      · exact HXX.out k (.inl h)
      · exact HXX.out k (.inr (.inl h))
      · exact HXX.out k (.inr (.inr (.inl h)))
      · exact HXX.out k (.inr (.inr (.inr (.inl h))))
      · refine HXX.out k (.inr (.inr (.inr (.inr ?_))))
        by_cases e : i = .queue r
        · subst e
          rw [setF_same, HV8.out] at hi
          exact ⟨.queue r, by rw [HV2.out]; exact hi⟩
        · rw [setF_ne _ _ e] at hi
          exact ⟨i, hi⟩
    · exact Nat.lt_of_lt_of_le (HXL.out k hk) TR3.out.mod.size
  have hm3 := Lib.hid TR3.out.mod
  clear hS hS9 hg9 hS0
  have hat : ({ s2 with th := upd s2.th r (some (hh, q8)) } : TS).at r = (hh, q8) := at_upd s2 r (hh, q8)
  have hql : q8.length ≤ N := by
    rw [← HQ8.out]
    exact Nat.le_trans (List.length_filter_le _ _) (by rw [HN2E.out]; exact hn2)
  have HG := Lib.hid (grant_any X g { s2 with th := upd s2.th r (some (hh, q8)) } r w3 TT1.out HX2.out (tab_mod HTB.out hm3.out HX2.out) HOK.out (fun c hc => by
      rw [hat] at hc
      have hc2 : c ∈ q8 := hc
      rw [← HQ8.out] at hc2
      exact HOKQ.out c (by rw [HQE.out]; exact (List.mem_filter.1 hc2).1)) N (sm_th (s := s2) (by rw [HS2.out]; exact sm_wt HSM.out _) r (hh, q8) (by rw [HN1E.out]; exact hn1) hql) (by rw [hat]; show N + q8.length ≤ _; omega))
  have HPE : Hid (grantA { s2 with th := upd s2.th r (some (hh, q8)) } r = PP) := by
    show _ = _
    rw [← HPP.out]
    unfold cancelI
    rw [HW.out]
    have e : notT t (s.at r).2 = q8 := by rw [HQE.out, ← HQ8.out]; rfl
    show _ = grantA { s with wt := upd s.wt t none, th := upd s.th r (some ((s.at r).1, notT t (s.at r).2)) } r
    rw [e, HHE.out, HS2.out]
  rw [HPE.out] at HG
  clear hat hql
  go_wp2_with (first | refine wpList_load_at 33 41 (.tmp 5) rfl rfl rfl b5 rfl _ 2 strR rfl A56.out ?_)
  refine HG.out.mono ?_
  rintro e y9 ⟨v, rfl, hov, htv⟩
  have HOV := Lib.hid hov
  have HTV := Lib.hid htv
  clear hov htv
  go_wp2_with fail
  go_ret
  exact GrantR.from hm3.out (fun _ hk => .inl hk) ⟨v, rfl, HOV.out, HTV.out⟩
theorem Cancel_any (X : Nat → Prop) (g : Nat) (s : TS) (t : Nat) (w : World) (h : Tt w g s X) (hX : ∀ k, X k → 2 ≤ k) (hT : Tab w) (hr : ∀ r, s.wt t = some r → RsOk r ∧ OkQ s r) (ht : U64 t) (N : Nat) (hs : SmS s N) (hN : N + N ≤ 99999) :
    Calls Tryz.prog 22 #[.pointer (some ⟨g, 0, none⟩), .int .u64 (t : Int)] w (GrantR w X g (cancelI s t)) := by
  cases hw : s.wt t with
  | none => exact cancel_none X g s t w h ht hw
  | some r => exact cancel_some X g s t r w h hX hT (hr r hw).1 ht (hr r hw).2 N hs hN hw
end Go.Proofs.YthbifccankfngaaGreatDoor
