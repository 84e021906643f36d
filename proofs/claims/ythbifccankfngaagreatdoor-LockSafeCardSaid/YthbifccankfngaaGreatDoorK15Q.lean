/-
  The walk of hold where a claim is new, and in general.
  Conditions: at most 99999 claims a row.
-/
import Derived.Test.YthbifccankfngaaGreatDoorQ2
namespace Go.Proofs.YthbifccankfngaaGreatDoor
open Go.RowKit Go.Shelf
attribute [local go_sem] Oper.semAt_some
set_option maxRecDepth 20000

theorem TbV.ownR {w : World} {B g b1 b2 b3 : Nat} {s : TS} {V : RI → Value} (h : TbV w B g b1 b2 b3 s V) (t : Nat) : ∃ A c, V (.own t) = .slice A ((s.ow t).getD []).length c ∧ w.ownsRow B 33 2 (.slice A ((s.ow t).getD []).length c) ((s.ow t).getD []).length (rsL ((s.ow t).getD [])) := by
  have ho : w.ownsRow B 33 2 (V (.own t)) (((s.ow t).getD []).map rsP).length (rsL ((s.ow t).getD [])) := h.rows.own (.own t)
  rw [List.length_map] at ho
  obtain ⟨A, c, hv, _⟩ := pl_own_slice ho
  rw [hv] at ho
  exact ⟨A, c, hv, ho⟩
theorem hold_fin {w0 w : World} {X : Nat → Prop} {B g b1 b2 b3 : Nat} {s : TS} {V : RI → Value} {r : Rs} {c : Cm} {v1 vq v5 : Value} {hh qq : List Cm} {lo : List Rs}
    (hq : V (.queue r) = vq) (hqq : (s.at r).2 = qq) (h1 : (s.at r).1 = hh) (hlo : (s.ow c.1).getD [] = lo) (hT : hasT hh c.1 = false)
    (h : TbR w0 X w B g b1 b2 b3 { s with th := upd s.th r (some (hh ++ [c], qq)), ow := upd s.ow c.1 (some (lo ++ [r])) } (setF (setTh V r v1 vq) (.own c.1) v5) (setF (setF V (.hold r) v1) (.own c.1) v5) (setF (setF (rowI s) (.hold r) ((hh ++ [c]).map cmP)) (.own c.1) ((lo ++ [r]).map rsP)))
    (n1 : ∀ r, s.th r = none → V (.hold r) = nilS ∧ V (.queue r) = nilS) (n2 : ∀ t, s.ow t = none → V (.own t) = nilS) : Tw w0 X g (holdI s r c) w := by
  have hH : holdI s r c = { s with th := upd s.th r (some (hh ++ [c], qq)), ow := upd s.ow c.1 (some (lo ++ [r])) } := by
    unfold holdI
    rw [h1, hqq, hlo, if_neg (by rw [hT]; simp)]
  rw [hH]
  refine h.fin (fun i => ?_) (fun i => ?_) (fun r' hr' => ?_) (fun t ht => ?_)
  · by_cases e : i = .own c.1
    · subst e; rw [setF_same, setF_same]
    · rw [setF_ne _ _ e, setF_ne _ _ e]
      cases i with
      | hold r' =>
        rw [setTh_h]
        by_cases e2 : r' = r
        · subst e2; rw [if_pos rfl, setF_same]
        · rw [if_neg e2, setF_ne _ _ (by intro e; injection e with e; exact e2 e)]
      | queue r' =>
        rw [setTh_q, setF_ne _ _ (by intro e; cases e)]
        by_cases e2 : r' = r
        · subst e2; rw [if_pos rfl, hq]
        · rw [if_neg e2]
      | own t => rw [setTh_o, setF_ne _ _ (by intro e; cases e)]
  · by_cases e : i = .own c.1
    · subst e; rw [setF_same]; simp [rowI, upd]
    · rw [setF_ne _ _ e]
      have hrow := row_hold s r (hh ++ [c], qq) i
      cases i with
      | hold r' =>
        refine Eq.trans ?_ (Eq.trans hrow.symm rfl)
        rw [setF_ne (setF (rowI s) (.hold r) _) _ (by intro e; cases e)]
      | queue r' =>
        refine Eq.trans ?_ (Eq.trans hrow.symm rfl)
        rw [setF_ne _ _ (by intro e; cases e)]
        by_cases e2 : r' = r
        · subst e2; rw [setF_same, ← hqq]; rfl
        · rw [setF_ne _ _ (by intro e; injection e with e; exact e2 e), setF_ne _ _ (by intro e; cases e)]
      | own t =>
        rw [setF_ne _ _ (by intro e; cases e)]
        have et : t ≠ c.1 := fun e2 => e (by rw [e2])
        simp [rowI, upd, et]
  · have e2 : r' ≠ r := by rintro rfl; simp [upd] at hr'
    have := n1 r' (by simpa [upd, e2] using hr')
    rw [setF_ne _ _ (by intro e; cases e), setF_ne _ _ (by intro e; cases e), setTh_h, setTh_q, if_neg e2, if_neg e2]
    exact this
  · have e2 : t ≠ c.1 := by rintro rfl; simp [upd] at ht
    have := n2 t (by simpa [upd, e2] using ht)
    rw [setF_ne _ _ (by intro e; injection e with e; exact e2 e), setTh_o]
    exact this
theorem wp_lit1r {o : Oper} {a : Act} {w : World} {K : Act → World → Prop} {Q : Exit → Act → World → Prop} (d : Nat) (x : Operand) (t e : TypeId) (size : Nat) (z : Value) (c : Array Value) (hop : o.dst = some d)
    (ho : o.op = .buildSlice t 1 #[(0, x)]) (hx : a.eval x = .agg c) (ht : Tryz.prog.underlying t = some (.slice e)) (hi : (Tryz.prog.info? e).map (fun i => (i.zero, i.size)) = some (some z, size)) (h0 : 0 < size) (hs : size ≤ 100000) (hc : c.size = size)
    (h : K (a.put (some d) (.slice (some ⟨w.heap.size, 0, none⟩) 1 1)) (w.alloc (.cells c e))) : o.wp Tryz.prog a w K Q := wp_lit1 d x t e size z c hop ho hx ht hi h0 hs hc h
set_option maxHeartbeats 6400000 in
theorem hold_new (X : Nat → Prop) (g : Nat) (s : TS) (r : Rs) (c : Cm) (w : World) (h : Tt w g s X) (hr : RsOk r) (ht : U64 c.1) (hs : SmS s 99999) (hT : hasT (s.at r).1 c.1 = false) :
    Calls Tryz.prog 44 #[.pointer (some ⟨g, 0, none⟩), .agg (rsA r), .agg (cmA c)] w fun e w' => e = .returned (.tuple #[]) ∧ Tw w X g (holdI s r c) w' := by
  obtain ⟨B, b1, b2, b3, V, hv, hB, hx⟩ := h.ex
  obtain ⟨A1, c1, hv1, ho1⟩ := hv.holdR r
  obtain ⟨A2, c2, hv2, ho2⟩ := hv.queueR r
  obtain ⟨ct, cm⟩ := c
  obtain ⟨AO, cO, hvO, hoO⟩ := hv.ownR ct
  have hn1 := (hs.1 r).1
  have hnO := hs.2 ct
  obtain ⟨hh, hhe⟩ : ∃ hh, (s.at r).1 = hh := ⟨_, rfl⟩
  obtain ⟨qq, hqe⟩ : ∃ qq, (s.at r).2 = qq := ⟨_, rfl⟩
  obtain ⟨lo, hlo⟩ : ∃ lo, (s.ow ct).getD [] = lo := ⟨_, rfl⟩
  obtain ⟨n1, hn1e⟩ : ∃ n1, hh.length = n1 := ⟨_, rfl⟩
  obtain ⟨n2, hn2e⟩ : ∃ n2, qq.length = n2 := ⟨_, rfl⟩
  obtain ⟨nO, hnOe⟩ : ∃ nO, lo.length = nO := ⟨_, rfl⟩
  rw [hhe] at hT ho1 hv1 hn1
  rw [hqe] at hv2 ho2
  rw [hlo] at hvO hoO hnO
  have hl := own_lz ho1
  rw [hn1e] at ho1 hl hv1 hn1
  rw [hn2e] at hv2
  rw [hnOe] at hvO hoO hnO
  obtain ⟨b4, hb4⟩ : ∃ b4, w.heap.size = b4 := ⟨_, rfl⟩
  obtain ⟨z, hz⟩ : ∃ z, (w.alloc (.cells (rsA r) 33)).alloc (.cells (cmA (ct, cm)) 54) = z := ⟨_, rfl⟩
  have hbel : Below w.heap.size w z := hz ▸ ((Below.refl _ w).alloc (Nat.le_refl _) _).alloc (by simp) _
  have HB := Lib.hid hbel
  have TB := Lib.hid (hv.below hbel)
  have A4 : Hid (At z b4 33 (rsA r)) := by
    have := (At.new w 33 (rsA r)).alloc (.cells (cmA (ct, cm)) 54)
    rw [hz, hb4] at this
    exact this
  have A5 : Hid (At z (b4 + 1) 54 (cmA (ct, cm))) := by
    have := At.new (w.alloc (.cells (rsA r) 33)) 54 (cmA (ct, cm))
    rw [hz] at this
    simp only [World.size_alloc, hb4] at this
    exact this
  have TR : Hid (TbR w X z B g b1 b2 b3 s V V (rowI s)) := (TbR.start hv hB hx).below hbel
  have HL := Lib.hid (hl.below hbel)
  have HNO : Hid (∀ k, b4 ≤ k → some k ≠ (Value.slice AO nO cO).ownBlock) := fun k hk e => by
    have := (hoO.lt k e.symm).2
    omega
  have HNH : Hid (∀ k, b4 ≤ k → some k ≠ (Value.slice A1 n1 c1).ownBlock) := fun k hk e => by
    have := (ho1.lt k e.symm).2
    omega
  have HV1 := Lib.hid hv1
  have HV2 := Lib.hid hv2
  have HVO := Lib.hid hvO
  have HO1 := Lib.hid ho1
  have HOO := Lib.hid hoO
  have HOK := Lib.hid hr
  have HOT := Lib.hid ht
  have N1 := Lib.hid hv.n1
  have N2 := Lib.hid hv.n2
  have HHE := Lib.hid hhe
  have HQE := Lib.hid hqe
  have HLO := Lib.hid hlo
  have HNE := Lib.hid hn1e
  have HNOE := Lib.hid hnOe
  have HT := Lib.hid hT
  have HB4 := Lib.hid hb4
  have HLK0 := Lib.hid (hv.look2 ct)
  clear h hv hB hx ho1 ho2 hv1 hv2 hvO hoO hl hr hs hn2e hn1e hnOe hhe hqe hlo hT hbel ht hb4
  go_enter Tryz.func44, Tryz.ntmps44
  go_upto_region 1 with fail
  rw [HB4.out]
  clear hz
  refine wp_region_held_drew (S := Below z.heap.size z) (by kernel_rfl) ((Below.refl _ z).drew) (fun hS => ?_)
  refine takeH (i := 0) (d := 9) (v := ?vh20) rfl (by kernel_rfl) (by kernel_rfl) (by kernel_rfl) (fun _ _ _ h => h) rfl (by rfl) ?yh20 hS ?rh20
  case yh20 => (intro wz hz; have p0 : wz.cell? ⟨g, 0, none⟩ = some (.map (some b1)) := (TB.out.below hz).cell1; go_simp <;> with_reducible rfl)
  simp only [List.setIfInBounds_toArray, List.set_cons_zero, List.set_cons_succ]
  refine takeH (i := 1) (d := 10) (v := ?vh21) rfl (by kernel_rfl) (by kernel_rfl) (by kernel_rfl) (fun _ _ _ h => h) rfl (by rfl) ?yh21 hS ?rh21
  case yh21 => (intro wz hz; have p0 : wz.cell? ⟨g, 0, none⟩ = some (.map (some b1)) := (TB.out.below hz).cell1; go_simp <;> with_reducible rfl)
  simp only [List.setIfInBounds_toArray, List.set_cons_zero, List.set_cons_succ]
  refine takeH (i := 2) (d := 11) (v := ?vh22) rfl (by kernel_rfl) (by kernel_rfl) (by kernel_rfl) (fun _ _ _ h => h) rfl (by rfl) ?yh22 hS ?rh22
  case yh22 => (intro wz hz; have p0 : wz.cell? ⟨g, 0, none⟩ = some (.map (some b1)) := (TB.out.below hz).cell1; go_simp <;> with_reducible rfl)
  simp only [List.setIfInBounds_toArray, List.set_cons_zero, List.set_cons_succ]
  refine takeH (i := 3) (d := 12) (v := ?vh23) rfl (by kernel_rfl) (by kernel_rfl) (by kernel_rfl) (fun _ _ _ h => h) rfl (by rfl) ?yh23 hS ?rh23
  case yh23 => (intro wz hz; have p0 : wz.cell? ⟨g, 0, none⟩ = some (.map (some b1)) := (TB.out.below hz).cell1; go_simp <;> with_reducible rfl)
  simp only [List.setIfInBounds_toArray, List.set_cons_zero, List.set_cons_succ]
  refine takeH (i := 4) (d := 13) (v := rsV r) rfl (by kernel_rfl) (by kernel_rfl) (by kernel_rfl) (fun _ _ _ h => h) rfl (by rfl) ?yh24 hS ?rh24
  case yh24 => (intro wz hz; have p0 : wz.cell? ⟨g, 0, none⟩ = some (.map (some b1)) := (TB.out.below hz).cell1; exact exec_load_at 33 (.tmp 4) rfl b4 rfl _ 2 strR rfl (A4.out.under hz A4.out.lt))
  simp only [List.setIfInBounds_toArray, List.set_cons_zero, List.set_cons_succ]
  refine takeH (i := 5) (d := 14) (v := thV (.slice A1 n1 c1) (.slice A2 n2 c2)) rfl (by kernel_rfl) (by kernel_rfl) (by kernel_rfl) (fun _ _ _ h => h) rfl (by rfl) ?yh25 hS ?rh25
  case yh25 => (intro wz hz; have p0 : wz.cell? ⟨g, 0, none⟩ = some (.map (some b1)) := (TB.out.below hz).cell1; exact exec_look (.tmp 12) (.tmp 13) false rfl keyT_res Tryz.underlying57 (thV nilS nilS) zero_th rfl (TB.out.below hz).ms.m1 r rfl HOK.out _ (by rw [(TB.out.below hz).look1, HV1.out, HV2.out]))
  simp only [List.setIfInBounds_toArray, List.set_cons_zero, List.set_cons_succ]
  refine wpAnyH_ready (rs := [6]) (by kernel_rfl) (by simp) ?_
  refine AllReadyH.cons rfl (fun K hK => ?_) AllReadyH.nil
  go_simp
  refine hK.out _ _ (((Below.refl _ z).drew).alloc (Nat.le_refl _) _) (fun hT => ?_)
  clear hK hS
  have hS := hT
  clear hT
  refine wpAnyH_ready (rs := [7]) (by kernel_rfl) (by simp) ?_
  refine AllReadyH.cons rfl (fun K hK => ?_) AllReadyH.nil
  rw [if_pos (by rfl)]
  refine wp_store_at 79 (.tmp 6) (.tmp 14) rfl rfl z.heap.size rfl (thA (.slice A1 n1 c1) (.slice A2 n2 c2)) (thA nilS nilS) 2 rfl strTh rfl rfl (thA_one _ _ _ _ _ _) (At.new z.drew 79 (thA nilS nilS)) ?_
  intro w9 ha9 hg9
  have A6 := Lib.hid ha9
  have HB9 := Lib.hid (show Below z.heap.size z w9 from (((Below.refl _ z).drew).alloc (Nat.le_refl _) (.cells (thA nilS nilS) 79)).grown hg9 (by simp [World.alloc]) (fun k hk => by injection hk with hk; subst hk; exact Nat.le_refl _))
  clear ha9 hg9
  refine hK.out _ _ (HB9.out) (fun hT => ?_)
  clear hK hS
  have hS := hT
  clear hT
  refine wpAnyH_done (by kernel_rfl) ?_ _
  clear hS
  have d0 : w9.cell? ⟨z.heap.size, 0, none⟩ = some (.slice A1 n1 c1) := A6.out.cell 0
  have A52 := Lib.hid (A5.out.under HB9.out A5.out.lt)
  have hb6 : z.heap.size < w9.heap.size := A6.out.lt
  have hb46 : b4 + 1 < z.heap.size := A5.out.lt
  have HZ6 : Hid (∃ b6, z.heap.size = b6) := ⟨_, rfl⟩
  obtain ⟨b6, hb6e⟩ := HZ6
  rw [hb6e] at A6 d0 hb6 hb46 ⊢
  have HB6E := Lib.hid hb6e
  clear hb6e
  go_wp2_with fail
  clear d0
  go_loopw [18] (fun i z => HoL w9 hh ct n1 i z) (fun i _ => n1 - (intOf i).toNat)
  case atStart => exact ⟨0, Nat.zero_le _, rfl, Lib.hid (Below.refl _ w9), Lib.hid (fun j _ h => absurd h (Nat.not_lt_zero _))⟩
  case round =>
    obtain ⟨k, hk, rfl, HR, HN⟩ := hrel
    have HBR := Lib.hid (show Below z.heap.size z wr from HB9.out.trans (HR.out.mono HB9.out.size))
    by_cases hlt : k < n1
    · have hkl : k < hh.length := by rw [HNE.out]; exact hlt
      obtain ⟨bL, oL, hl, rfl, _, hbL, hrg⟩ := (HL.out.below HBR.out).cm hlt
      have R1 := Lib.hid hrg
      obtain ⟨x, hx⟩ : ∃ x, hh[k] = x := ⟨_, rfl⟩
      rw [hx] at R1
      have HX := Lib.hid hx
      clear hx hrg
      have c80 : (wr.alloc (.cells (cmA x) 54)).cell? ⟨wr.heap.size, 0, none⟩ = some (.int .u64 (x.1 : Int)) := (At.new wr 54 (cmA x)).cell 0
      have HB2 := Lib.hid (HR.out.alloc HR.out.size (.cells (cmA x) 54))
      have A53 := Lib.hid (A52.out.under HB2.out A52.out.lt)
      have c50 : (wr.alloc (.cells (cmA x) 54)).cell? ⟨b4 + 1, 0, none⟩ = some (.int .u64 (ct : Int)) := A53.out.cell 0
      have hpx : x.1 ≠ ct := by
        intro hpx
        have := hasT_yes hkl (t := ct) (by rw [HX.out]; exact hpx)
        rw [show hasT hh ct = false from HT.out] at this
        cases this
      have e : ((x.1 : Int) == (ct : Int)) = false := by rw [nat_beq]; simpa using hpx
      have HPX := Lib.hid hpx
      clear hpx
      go_wp2_with (first
        | refine wpList_load_in 54 22 (.tmp 21) rfl rfl rfl bL (oL + k * 2) rfl (cmV x) 2 strC rfl R1.out ?_
        | refine wpList_store_new 54 (.tmp 8) (.tmp 22) rfl rfl rfl _ wr rfl rfl (cmA x) zC 2 rfl strC rfl rfl (cmA_one _) rfl ?_)
      exact ⟨⟨k + 1, by omega, by go_num, HB2, Lib.hid fun j hj hjk => by
        rcases Nat.lt_succ_iff_lt_or_eq.1 hjk with h1 | rfl
        · exact HN.out j hj h1
        · rw [HX.out]; exact HPX.out⟩, by simp [intOf]; omega⟩
    · obtain rfl : n1 = k := by omega
      have TRr := Lib.hid (TR.out.below HBR.out)
      have A4R := Lib.hid (A4.out.under HBR.out A4.out.lt)
      have A5R := Lib.hid (A5.out.under HBR.out A5.out.lt)
      have A6R := Lib.hid (A6.out.under HR.out A6.out.lt)
      have d0 : wr.cell? ⟨b6, 0, none⟩ = some (.slice A1 n1 c1) := A6R.out.cell 0
      have hwr : Below w.heap.size w wr := HB.out.trans (HBR.out.mono HB.out.size)
      have HI := Lib.hid (insert_any B (.slice A1 n1 c1) hh wr (by rw [HNE.out]; exact HO1.out.kept (grown_below hwr) (by cases A1 <;> first | exact .inl rfl | exact .inr (by simp [Value.ownBlock]))) (by rw [HNE.out]; omega) TRr.out.hB n1 (by rw [HNE.out]; exact Nat.le_refl _) (ct, cm) b6 0 (thA (.slice A1 n1 c1) (.slice A2 n2 c2)) A6R.out rfl)
      have HINS : Hid (hh.insertIdx n1 (ct, cm) = hh ++ [(ct, cm)]) := by
        show _ = _
        rw [ins_eq (ct, cm) hh n1 (by rw [HNE.out]; exact Nat.le_refl _), List.take_of_length_le (by rw [HNE.out]; exact Nat.le_refl _), List.drop_of_length_le (by rw [HNE.out]; exact Nat.le_refl _)]
      rw [HINS.out] at HI
      clear hwr
      go_wp2_with (first
        | refine wpList_load_at 54 38 (.tmp 5) rfl rfl rfl (b4 + 1) rfl (cmA (ct, cm)) 2 strC rfl A5R.out ?_)
      refine HI.out.mono ?_
      rintro e w2 ⟨rfl, v7, ho7, hv7, ha7, hm7⟩
      obtain ⟨A7, c7, hv7e, _⟩ := pl_own_slice ho7
      obtain ⟨m1, hm1⟩ : ∃ m1, (hh ++ [(ct, cm)]).length = m1 := ⟨_, rfl⟩
      rw [hm1] at hv7e ho7
      subst hv7e
      have hY : ∀ k, (k = b6 ∨ (Value.slice A1 n1 c1).ownBlock = some k) → (V (.hold r)).ownBlock = some k ∨ (¬ TbX g b1 b2 b3 V k ∧ w.heap.size ≤ k) := by
        rintro k (rfl | hk)
        · exact .inr ⟨TRr.out.box_ne A6R.out ⟨by decide, by decide, by decide⟩, by rw [HB4.out]; omega⟩
        · exact .inl (by rw [HV1.out]; exact hk)
      have TR2 := Lib.hid (TRr.out.rowM (.hold r) hm7 hY (v := .slice A7 m1 c7) (l := (hh ++ [(ct, cm)]).map cmP) (by rw [List.length_map, hm1]; exact ho7) (fun k hk => by rw [HV1.out]; exact hv7 k hk))
      have nb : ∀ k, b4 ≤ k → k ≠ b6 → ¬ (k = b6 ∨ (Value.slice A1 n1 c1).ownBlock = some k) := by
        rintro k hk h1 (h2 | h2)
        · exact h1 h2
        · exact HNH.out k hk h2.symm
      have A42 : Hid (At w2 b4 33 (rsA r)) := (hm7.block b4 A4R.out.lt (nb b4 (Nat.le_refl _) (by omega))).trans A4R.out
      have A52 : Hid (At w2 (b4 + 1) 54 (cmA (ct, cm))) := (hm7.block (b4 + 1) A5R.out.lt (nb (b4 + 1) (Nat.le_succ _) (by omega))).trans A5R.out
      have A62 : Hid (At w2 b6 79 (thA (.slice A7 m1 c7) (.slice A2 n2 c2))) := ha7
      clear ho7 hv7 ha7 hm7 hY nb HI d0
      go_upto_region 9 with fail
      have hS0 : At w2.drew g 61 (tabA b1 b2 b3) ∧ At w2.drew b4 33 (rsA r) ∧ At w2.drew b6 79 (thA (.slice A7 m1 c7) (.slice A2 n2 c2)) := ⟨TR2.out.gt, A42.out, A62.out⟩
      refine wp_region_held_drew (S := fun wz => At wz g 61 (tabA b1 b2 b3) ∧ At wz b4 33 (rsA r) ∧ At wz b6 79 (thA (.slice A7 m1 c7) (.slice A2 n2 c2))) (by kernel_rfl) hS0 (fun hS => ?_)
      refine takeH (i := 0) (d := 40) (v := ?vhp0) rfl (by kernel_rfl) (by kernel_rfl) (by kernel_rfl) (fun _ _ _ h => h) rfl (by rfl) ?yhp0 hS ?rhp0
      case yhp0 => (intro wz hz; have p0 : wz.cell? ⟨g, 0, none⟩ = some (.map (some b1)) := hz.1.cell 0; go_simp <;> with_reducible rfl)
      simp only [List.setIfInBounds_toArray, List.set_cons_zero, List.set_cons_succ]
      refine takeH (i := 1) (d := 41) (v := ?vhp1) rfl (by kernel_rfl) (by kernel_rfl) (by kernel_rfl) (fun _ _ _ h => h) rfl (by rfl) ?yhp1 hS ?rhp1
      case yhp1 => (intro wz hz; have p0 : wz.cell? ⟨g, 0, none⟩ = some (.map (some b1)) := hz.1.cell 0; go_simp <;> with_reducible rfl)
      simp only [List.setIfInBounds_toArray, List.set_cons_zero, List.set_cons_succ]
      refine takeH (i := 2) (d := 42) (v := ?vhp2) rfl (by kernel_rfl) (by kernel_rfl) (by kernel_rfl) (fun _ _ _ h => h) rfl (by rfl) ?yhp2 hS ?rhp2
      case yhp2 => (intro wz hz; have p0 : wz.cell? ⟨g, 0, none⟩ = some (.map (some b1)) := hz.1.cell 0; go_simp <;> with_reducible rfl)
      simp only [List.setIfInBounds_toArray, List.set_cons_zero, List.set_cons_succ]
      refine takeH (i := 3) (d := 43) (v := ?vhp3) rfl (by kernel_rfl) (by kernel_rfl) (by kernel_rfl) (fun _ _ _ h => h) rfl (by rfl) ?yhp3 hS ?rhp3
      case yhp3 => (intro wz hz; have p0 : wz.cell? ⟨g, 0, none⟩ = some (.map (some b1)) := hz.1.cell 0; go_simp <;> with_reducible rfl)
      simp only [List.setIfInBounds_toArray, List.set_cons_zero, List.set_cons_succ]
      refine takeH (i := 4) (d := 44) (v := rsV r) rfl (by kernel_rfl) (by kernel_rfl) (by kernel_rfl) (fun _ _ _ h => h) rfl (by rfl) ?yhp4 hS ?rhp4
      case yhp4 => (intro wz hz; have p0 : wz.cell? ⟨g, 0, none⟩ = some (.map (some b1)) := hz.1.cell 0; exact exec_load_at 33 (.tmp 4) rfl b4 rfl _ 2 strR rfl hz.2.1)
      simp only [List.setIfInBounds_toArray, List.set_cons_zero, List.set_cons_succ]
      refine takeH (i := 5) (d := 45) (v := .agg (thA (.slice A7 m1 c7) (.slice A2 n2 c2))) rfl (by kernel_rfl) (by kernel_rfl) (by kernel_rfl) (fun _ _ _ h => h) rfl (by rfl) ?yhp5 hS ?rhp5
      case yhp5 => (intro wz hz; have p0 : wz.cell? ⟨g, 0, none⟩ = some (.map (some b1)) := hz.1.cell 0; exact exec_load_at 79 (.tmp 6) rfl b6 rfl (thA (.slice A7 m1 c7) (.slice A2 n2 c2)) 2 strTh rfl hz.2.2)
      simp only [List.setIfInBounds_toArray, List.set_cons_zero, List.set_cons_succ]
      refine wpAnyH_ready (rs := [6]) (by kernel_rfl) (by simp) ?_
      refine AllReadyH.cons rfl (fun K hK => ?_) AllReadyH.nil
      rw [if_pos (by rfl)]
      refine wp_mapStore (.tmp 43) (.tmp 44) (.tmp 45) rfl rfl keyT_res Tryz.underlying57 rfl (TR2.out.below ((Below.refl _ w2).drew)).ms.m1 r rfl HOK.out (thV (.slice A7 m1 c7) (.slice A2 n2 c2)) rfl ?_
      intro w9 hm9 hg9
      have TR3 := Lib.hid ((TR2.out.below ((Below.refl _ w2).drew)).put1 r ((hh ++ [(ct, cm)], qq)) (.slice A7 m1 c7) (.slice A2 n2 c2) hm9 hg9)
      have ngm := TR2.out.ms.m1
      obtain ⟨es9, cl9, hes9, _⟩ := ngm
      have hS9 : At w9 g 61 (tabA b1 b2 b3) ∧ At w9 b4 33 (rsA r) ∧ At w9 b6 79 (thA (.slice A7 m1 c7) (.slice A2 n2 c2)) := ⟨hS0.1.grown hg9 (fun e => at_map TR2.out.gt hes9 (Option.some.inj e)), hS0.2.1.grown hg9 (fun e => at_map A42.out hes9 (Option.some.inj e)), hS0.2.2.grown hg9 (fun e => at_map A62.out hes9 (Option.some.inj e))⟩
      clear hm9 hes9
      refine hK.out _ _ (hS9) (fun hT => ?_)
      clear hK hS
      have hS := hT
      clear hT
      refine wpAnyH_done (by kernel_rfl) ?_ _
      have A43 := Lib.hid hS9.2.1
      have A53 : Hid (At w9 (b4 + 1) 54 (cmA (ct, cm))) := by
        obtain ⟨es7, cl7, hes7, _⟩ := TR2.out.ms.m1
        exact (show At w2.drew (b4 + 1) 54 (cmA (ct, cm)) from A52.out).grown hg9 (fun e => at_map A52.out hes7 (Option.some.inj e))
      clear hS hS9 hg9 hS0
      have TR3d := Lib.hid (TR3.out.below ((Below.refl _ w9).drew))
      have TR4 := Lib.hid (TR3.out.below (((Below.refl _ w9).drew).alloc (Nat.le_refl _) (.cells (rsA r) 33)))
      have HA6 := Lib.hid (At.new w9.drew 33 (rsA r))
      have HLK : Hid (lookV nilS ((s.ow ct).map fun _ => setTh V r (.slice A7 m1 c7) (.slice A2 n2 c2) (.own ct)) false = .slice AO nO cO) := by
        show _ = _
        rw [setTh_o]
        exact HLK0.out.trans HVO.out
      have HO4 : Hid ((w9.drew.alloc (.cells (rsA r) 33)).ownsRow B 33 2 (.slice AO nO cO) nO (rsL lo)) := by
        have := TR4.out.rows.own (.own ct)
        rw [setF_ne _ _ (by intro e; cases e), setF_ne _ _ (by intro e; cases e), HVO.out] at this
        have e : rowI s (.own ct) = lo.map rsP := by show ((s.ow ct).getD []).map rsP = _; rw [HLO.out]
        rw [e, List.length_map, HNOE.out] at this
        exact this
      have HS5 : Hid (∀ (v5 : Value) (w5 : World), w5.ownsRow B 33 2 v5 (nO + 1) (rsL lo ++ rsL [r]) → (w9.drew.alloc (.cells (rsA r) 33)).grownBy w5 (Value.slice AO nO cO).ownBlock → (v5.ownBlock = (Value.slice AO nO cO).ownBlock ∨ v5.ownBlock = some (w9.drew.alloc (.cells (rsA r) 33)).heap.size) →
          TbR w X w5 B g b1 b2 b3 { s with th := upd s.th r (some (hh ++ [(ct, cm)], qq)) } (setTh V r (.slice A7 m1 c7) (.slice A2 n2 c2)) (setF (setF V (.hold r) (.slice A7 m1 c7)) (.own ct) v5) (setF (setF (rowI s) (.hold r) ((hh ++ [(ct, cm)]).map cmP)) (.own ct) ((lo ++ [r]).map rsP))) := fun v5 w5 ho hg hb => by
        have eV : setF V (.hold r) (.slice A7 m1 c7) (.own ct) = .slice AO nO cO := by rw [setF_ne _ _ (by intro e; cases e), HVO.out]
        refine TR4.out.row (.own ct) (by rw [eV]; exact hg) ?_ (fun k hk => ?_)
        · rw [List.length_map, List.length_append, HNOE.out]
          show w5.ownsRow B 33 2 v5 (nO + 1) (rsL (lo ++ [r]))
          rw [rsL_append]
          exact ho
        · rw [eV]
          rcases hb with h | h
          · exact .inl (by rw [← h]; exact hk)
          · rw [h] at hk
            injection hk with hk
            exact .inr (by omega)
      have HFIN : Hid (∀ (w6 : World) (v5 : Value), TbR w X w6 B g b1 b2 b3 { s with th := upd s.th r (some (hh ++ [(ct, cm)], qq)), ow := upd s.ow ct (some (lo ++ [r])) } (setF (setTh V r (.slice A7 m1 c7) (.slice A2 n2 c2)) (.own ct) v5) (setF (setF V (.hold r) (.slice A7 m1 c7)) (.own ct) v5) (setF (setF (rowI s) (.hold r) ((hh ++ [(ct, cm)]).map cmP)) (.own ct) ((lo ++ [r]).map rsP)) → Tw w X g (holdI s r (ct, cm)) w6) := fun w6 v5 h =>
        hold_fin (c := (ct, cm)) HV2.out HQE.out HHE.out HLO.out HT.out h N1.out N2.out
      obtain ⟨i0, hi0, hz0, hz1, hz2⟩ := r_info
      go_upto_region 10 with fail
      refine wp_region_held_drew (S := fun wz => At wz g 61 (tabA b1 b2 b3) ∧ At wz b4 33 (rsA r) ∧ At wz (b4 + 1) 54 (cmA (ct, cm))) (by kernel_rfl) ⟨TR3.out.gt, A43.out, A53.out⟩ (fun hS => ?_)
      refine takeH (i := 0) (d := 46) (v := ?vho0) rfl (by kernel_rfl) (by kernel_rfl) (by kernel_rfl) (fun _ _ _ h => h) rfl (by rfl) ?yho0 hS ?rho0
      case yho0 => (intro wz hz; have p0 : wz.cell? ⟨g, 1, none⟩ = some (.map (some b2)) := hz.1.cell 1; have p1 : wz.cell? ⟨b4 + 1, 0, none⟩ = some (.int .u64 (ct : Int)) := hz.2.2.cell 0; go_simp <;> with_reducible rfl)
      simp only [List.setIfInBounds_toArray, List.set_cons_zero, List.set_cons_succ]
      refine takeH (i := 1) (d := 47) (v := ?vho1) rfl (by kernel_rfl) (by kernel_rfl) (by kernel_rfl) (fun _ _ _ h => h) rfl (by rfl) ?yho1 hS ?rho1
      case yho1 => (intro wz hz; have p0 : wz.cell? ⟨g, 1, none⟩ = some (.map (some b2)) := hz.1.cell 1; have p1 : wz.cell? ⟨b4 + 1, 0, none⟩ = some (.int .u64 (ct : Int)) := hz.2.2.cell 0; go_simp <;> with_reducible rfl)
      simp only [List.setIfInBounds_toArray, List.set_cons_zero, List.set_cons_succ]
      refine takeH (i := 2) (d := 48) (v := ?vho2) rfl (by kernel_rfl) (by kernel_rfl) (by kernel_rfl) (fun _ _ _ h => h) rfl (by rfl) ?yho2 hS ?rho2
      case yho2 => (intro wz hz; have p0 : wz.cell? ⟨g, 1, none⟩ = some (.map (some b2)) := hz.1.cell 1; have p1 : wz.cell? ⟨b4 + 1, 0, none⟩ = some (.int .u64 (ct : Int)) := hz.2.2.cell 0; go_simp <;> with_reducible rfl)
      simp only [List.setIfInBounds_toArray, List.set_cons_zero, List.set_cons_succ]
      refine takeH (i := 3) (d := 49) (v := ?vho3) rfl (by kernel_rfl) (by kernel_rfl) (by kernel_rfl) (fun _ _ _ h => h) rfl (by rfl) ?yho3 hS ?rho3
      case yho3 => (intro wz hz; have p0 : wz.cell? ⟨g, 1, none⟩ = some (.map (some b2)) := hz.1.cell 1; have p1 : wz.cell? ⟨b4 + 1, 0, none⟩ = some (.int .u64 (ct : Int)) := hz.2.2.cell 0; go_simp <;> with_reducible rfl)
      simp only [List.setIfInBounds_toArray, List.set_cons_zero, List.set_cons_succ]
      refine takeH (i := 4) (d := 50) (v := ?vho4) rfl (by kernel_rfl) (by kernel_rfl) (by kernel_rfl) (fun _ _ _ h => h) rfl (by rfl) ?yho4 hS ?rho4
      case yho4 => (intro wz hz; have p0 : wz.cell? ⟨g, 1, none⟩ = some (.map (some b2)) := hz.1.cell 1; have p1 : wz.cell? ⟨b4 + 1, 0, none⟩ = some (.int .u64 (ct : Int)) := hz.2.2.cell 0; go_simp <;> with_reducible rfl)
      simp only [List.setIfInBounds_toArray, List.set_cons_zero, List.set_cons_succ]
      refine takeH (i := 5) (d := 51) (v := ?vho5) rfl (by kernel_rfl) (by kernel_rfl) (by kernel_rfl) (fun _ _ _ h => h) rfl (by rfl) ?yho5 hS ?rho5
      case yho5 => (intro wz hz; have p0 : wz.cell? ⟨g, 1, none⟩ = some (.map (some b2)) := hz.1.cell 1; have p1 : wz.cell? ⟨b4 + 1, 0, none⟩ = some (.int .u64 (ct : Int)) := hz.2.2.cell 0; go_simp <;> with_reducible rfl)
      simp only [List.setIfInBounds_toArray, List.set_cons_zero, List.set_cons_succ]
      refine takeH (i := 6) (d := 52) (v := ?vho6) rfl (by kernel_rfl) (by kernel_rfl) (by kernel_rfl) (fun _ _ _ h => h) rfl (by rfl) ?yho6 hS ?rho6
      case yho6 => (intro wz hz; have p0 : wz.cell? ⟨g, 1, none⟩ = some (.map (some b2)) := hz.1.cell 1; have p1 : wz.cell? ⟨b4 + 1, 0, none⟩ = some (.int .u64 (ct : Int)) := hz.2.2.cell 0; go_simp <;> with_reducible rfl)
      simp only [List.setIfInBounds_toArray, List.set_cons_zero, List.set_cons_succ]
      refine takeH (i := 7) (d := 53) (v := ?vho7) rfl (by kernel_rfl) (by kernel_rfl) (by kernel_rfl) (fun _ _ _ h => h) rfl (by rfl) ?yho7 hS ?rho7
      case yho7 => (intro wz hz; have p0 : wz.cell? ⟨g, 1, none⟩ = some (.map (some b2)) := hz.1.cell 1; have p1 : wz.cell? ⟨b4 + 1, 0, none⟩ = some (.int .u64 (ct : Int)) := hz.2.2.cell 0; go_simp <;> with_reducible rfl)
      simp only [List.setIfInBounds_toArray, List.set_cons_zero, List.set_cons_succ]
      refine takeH (i := 8) (d := 54) (v := ?vho8) rfl (by kernel_rfl) (by kernel_rfl) (by kernel_rfl) (fun _ _ _ h => h) rfl (by rfl) ?yho8 hS ?rho8
      case yho8 => (intro wz hz; have p0 : wz.cell? ⟨g, 1, none⟩ = some (.map (some b2)) := hz.1.cell 1; have p1 : wz.cell? ⟨b4 + 1, 0, none⟩ = some (.int .u64 (ct : Int)) := hz.2.2.cell 0; go_simp <;> with_reducible rfl)
      simp only [List.setIfInBounds_toArray, List.set_cons_zero, List.set_cons_succ]
      refine takeH (i := 9) (d := 55) (v := ?vho9) rfl (by kernel_rfl) (by kernel_rfl) (by kernel_rfl) (fun _ _ _ h => h) rfl (by rfl) ?yho9 hS ?rho9
      case yho9 => (intro wz hz; have p0 : wz.cell? ⟨g, 1, none⟩ = some (.map (some b2)) := hz.1.cell 1; have p1 : wz.cell? ⟨b4 + 1, 0, none⟩ = some (.int .u64 (ct : Int)) := hz.2.2.cell 0; go_simp <;> with_reducible rfl)
      simp only [List.setIfInBounds_toArray, List.set_cons_zero, List.set_cons_succ]
      refine takeH (i := 10) (d := 56) (v := ?vho10) rfl (by kernel_rfl) (by kernel_rfl) (by kernel_rfl) (fun _ _ _ h => h) rfl (by rfl) ?yho10 hS ?rho10
      case yho10 => (intro wz hz; have p0 : wz.cell? ⟨g, 1, none⟩ = some (.map (some b2)) := hz.1.cell 1; have p1 : wz.cell? ⟨b4 + 1, 0, none⟩ = some (.int .u64 (ct : Int)) := hz.2.2.cell 0; go_simp <;> with_reducible rfl)
      simp only [List.setIfInBounds_toArray, List.set_cons_zero, List.set_cons_succ]
      refine takeH (i := 11) (d := 57) (v := ?vho11) rfl (by kernel_rfl) (by kernel_rfl) (by kernel_rfl) (fun _ _ _ h => h) rfl (by rfl) ?yho11 hS ?rho11
      case yho11 => (intro wz hz; have p0 : wz.cell? ⟨g, 1, none⟩ = some (.map (some b2)) := hz.1.cell 1; have p1 : wz.cell? ⟨b4 + 1, 0, none⟩ = some (.int .u64 (ct : Int)) := hz.2.2.cell 0; go_simp <;> with_reducible rfl)
      simp only [List.setIfInBounds_toArray, List.set_cons_zero, List.set_cons_succ]
      refine takeH (i := 13) (d := 59) (v := .agg (rsA r)) rfl (by kernel_rfl) (by kernel_rfl) (by kernel_rfl) (fun _ _ _ h => h) rfl (by rfl) ?yho13 hS ?rho13
      case yho13 => (intro wz hz; have p0 : wz.cell? ⟨g, 1, none⟩ = some (.map (some b2)) := hz.1.cell 1; have p1 : wz.cell? ⟨b4 + 1, 0, none⟩ = some (.int .u64 (ct : Int)) := hz.2.2.cell 0; exact exec_load_at 33 (.tmp 4) rfl b4 rfl _ 2 strR rfl hz.2.1)
      simp only [List.setIfInBounds_toArray, List.set_cons_zero, List.set_cons_succ]
      refine wpAnyH_ready (rs := [12, 14]) (by kernel_rfl) (by simp) ?_
      refine AllReadyH.cons rfl (fun K hK => ?_) (AllReadyH.cons rfl (fun K hK => ?_) AllReadyH.nil)
      · rw [if_pos (by rfl)]
        refine wp_look 58 rfl (.tmp 55) (.tmp 57) false rfl keyT_u64 Tryz.underlying58 nilS (zero_rr _) rfl TR3d.out.ms.m2 ct rfl HOT.out (.slice AO nO cO) HLK.out ?_
        refine hK.out _ _ (hS) (fun hT => ?_)
        clear hK hS
        have hS := hT
        clear hT
        refine wpAnyH_ready (rs := [14]) (by kernel_rfl) (by simp) ?_
        refine AllReadyH.cons rfl (fun K hK => ?_) AllReadyH.nil
        rw [if_pos (by rfl)]
        refine wp_lit1r 60 (.tmp 59) 40 33 2 (rsV (0, 0)) (rsA r) rfl rfl rfl Tryz.underlying40 (by kernel_rfl) (by omega) (by omega) rfl ?_
        refine hK.out _ _ (⟨hS.1.alloc _, hS.2.1.alloc _, hS.2.2.alloc _⟩) (fun hT => ?_)
        clear hK hS
        have hS := hT
        clear hT
        refine wpAnyH_ready (rs := [15]) (by kernel_rfl) (by simp) ?_
        refine AllReadyH.cons rfl (fun K hK => ?_) AllReadyH.nil
        rw [if_pos (by rfl)]
        refine wp_app2 61 rfl (.tmp 58) (.tmp 60) 40 rfl B 33 i0 _ 2 16 Tryz.underlying40 hi0 hz0 hz1 hz2 rfl (by omega) (.slice AO nO cO) nO (rsL lo) rfl HO4.out _ (some ⟨w9.heap.size, 0, none⟩) 1 1 (rsL [r]) rfl (lies_rs HA6.out) (rs_one1 r) (by omega) (by simp only [maxLen]; omega) (by omega) TR4.out.hB ?_
        intro v5 w5 ho5 hg5 hb5
        have TR5 := Lib.hid (HS5.out v5 w5 ho5 hg5 hb5)
        have KG := Lib.hid (show At w5 g 61 (tabA b1 b2 b3) ∧ At w5 b4 33 (rsA r) ∧ At w5 (b4 + 1) 54 (cmA (ct, cm)) from ⟨TR5.out.gt, hS.2.1.grown hg5 (HNO.out b4 (Nat.le_refl _)), hS.2.2.grown hg5 (HNO.out (b4 + 1) (Nat.le_succ _))⟩)
        clear ho5 hg5 hb5
        refine hK.out _ _ (KG.out) (fun hT => ?_)
        clear hK hS
        have hS := hT
        clear hT
        refine wpAnyH_ready (rs := [16]) (by kernel_rfl) (by simp) ?_
        refine AllReadyH.cons rfl (fun K hK => ?_) AllReadyH.nil
        rw [if_pos (by rfl)]
        refine wp_mapStore (.tmp 49) (.tmp 51) (.tmp 61) rfl rfl keyT_u64 Tryz.underlying58 rfl TR5.out.ms.m2 ct rfl HOT.out v5 rfl ?_
        intro w6 hm6 hg6
        have TR6 := Lib.hid (TR5.out.put2 ct (lo ++ [r]) v5 hm6 hg6)
        obtain ⟨es8, cl8, hes8, _⟩ := TR5.out.ms.m2
        have K9 := Lib.hid (show At w6 g 61 (tabA b1 b2 b3) ∧ At w6 b4 33 (rsA r) ∧ At w6 (b4 + 1) 54 (cmA (ct, cm)) from ⟨hS.1.grown hg6 (fun e => at_map hS.1 hes8 (Option.some.inj e)), hS.2.1.grown hg6 (fun e => at_map hS.2.1 hes8 (Option.some.inj e)), hS.2.2.grown hg6 (fun e => at_map hS.2.2 hes8 (Option.some.inj e))⟩)
        clear hm6 hg6 hes8
        refine hK.out _ _ (K9.out) (fun hT => ?_)
        clear hK hS
        have hS := hT
        clear hT
        refine wpAnyH_done (by kernel_rfl) ?_ _
        go_wp2_with fail
        go_end0
        exact ⟨rfl, HFIN.out w6 v5 TR6.out⟩
      · rw [if_pos (by rfl)]
        refine wp_lit1r 60 (.tmp 59) 40 33 2 (rsV (0, 0)) (rsA r) rfl rfl rfl Tryz.underlying40 (by kernel_rfl) (by omega) (by omega) rfl ?_
        refine hK.out _ _ (⟨hS.1.alloc _, hS.2.1.alloc _, hS.2.2.alloc _⟩) (fun hT => ?_)
        clear hK hS
        have hS := hT
        clear hT
        refine wpAnyH_ready (rs := [12]) (by kernel_rfl) (by simp) ?_
        refine AllReadyH.cons rfl (fun K hK => ?_) AllReadyH.nil
        rw [if_pos (by rfl)]
        refine wp_look 58 rfl (.tmp 55) (.tmp 57) false rfl keyT_u64 Tryz.underlying58 nilS (zero_rr _) rfl TR4.out.ms.m2 ct rfl HOT.out (.slice AO nO cO) HLK.out ?_
        refine hK.out _ _ (hS) (fun hT => ?_)
        clear hK hS
        have hS := hT
        clear hT
        refine wpAnyH_ready (rs := [15]) (by kernel_rfl) (by simp) ?_
        refine AllReadyH.cons rfl (fun K hK => ?_) AllReadyH.nil
        rw [if_pos (by rfl)]
        refine wp_app2 61 rfl (.tmp 58) (.tmp 60) 40 rfl B 33 i0 _ 2 16 Tryz.underlying40 hi0 hz0 hz1 hz2 rfl (by omega) (.slice AO nO cO) nO (rsL lo) rfl HO4.out _ (some ⟨w9.heap.size, 0, none⟩) 1 1 (rsL [r]) rfl (lies_rs HA6.out) (rs_one1 r) (by omega) (by simp only [maxLen]; omega) (by omega) TR4.out.hB ?_
        intro v5 w5 ho5 hg5 hb5
        have TR5 := Lib.hid (HS5.out v5 w5 ho5 hg5 hb5)
        have KG := Lib.hid (show At w5 g 61 (tabA b1 b2 b3) ∧ At w5 b4 33 (rsA r) ∧ At w5 (b4 + 1) 54 (cmA (ct, cm)) from ⟨TR5.out.gt, hS.2.1.grown hg5 (HNO.out b4 (Nat.le_refl _)), hS.2.2.grown hg5 (HNO.out (b4 + 1) (Nat.le_succ _))⟩)
        clear ho5 hg5 hb5
        refine hK.out _ _ (KG.out) (fun hT => ?_)
        clear hK hS
        have hS := hT
        clear hT
        refine wpAnyH_ready (rs := [16]) (by kernel_rfl) (by simp) ?_
        refine AllReadyH.cons rfl (fun K hK => ?_) AllReadyH.nil
        rw [if_pos (by rfl)]
        refine wp_mapStore (.tmp 49) (.tmp 51) (.tmp 61) rfl rfl keyT_u64 Tryz.underlying58 rfl TR5.out.ms.m2 ct rfl HOT.out v5 rfl ?_
        intro w6 hm6 hg6
        have TR6 := Lib.hid (TR5.out.put2 ct (lo ++ [r]) v5 hm6 hg6)
        obtain ⟨es8, cl8, hes8, _⟩ := TR5.out.ms.m2
        have K9 := Lib.hid (show At w6 g 61 (tabA b1 b2 b3) ∧ At w6 b4 33 (rsA r) ∧ At w6 (b4 + 1) 54 (cmA (ct, cm)) from ⟨hS.1.grown hg6 (fun e => at_map hS.1 hes8 (Option.some.inj e)), hS.2.1.grown hg6 (fun e => at_map hS.2.1 hes8 (Option.some.inj e)), hS.2.2.grown hg6 (fun e => at_map hS.2.2 hes8 (Option.some.inj e))⟩)
        clear hm6 hg6 hes8
        refine hK.out _ _ (K9.out) (fun hT => ?_)
        clear hK hS
        have hS := hT
        clear hT
        refine wpAnyH_done (by kernel_rfl) ?_ _
        go_wp2_with fail
        go_end0
        exact ⟨rfl, HFIN.out w6 v5 TR6.out⟩
theorem hold_any (X : Nat → Prop) (g : Nat) (s : TS) (r : Rs) (c : Cm) (w : World) (h : Tt w g s X) (hr : RsOk r) (ht : U64 c.1) (hs : SmS s 99999) :
    Calls Tryz.prog 44 #[.pointer (some ⟨g, 0, none⟩), .agg (rsA r), .agg (cmA c)] w fun e w' => e = .returned (.tuple #[]) ∧ Tw w X g (holdI s r c) w' := by
  cases hT : hasT (s.at r).1 c.1
  · exact hold_new X g s r c w h hr ht hs hT
  · exact hold_has X g s r c w h hr hs hT
end Go.Proofs.YthbifccankfngaaGreatDoor
