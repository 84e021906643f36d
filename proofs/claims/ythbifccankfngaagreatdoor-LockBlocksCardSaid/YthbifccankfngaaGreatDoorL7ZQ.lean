/-
  The walk of Blocks for one who waits, up to the sort of what it lists; the sort's and the compaction's contracts are premises.
  Conditions: at most 1000 claims a row; the one who waits stands in the queue.
-/
import Derived.Test.YthbifccankfngaaGreatDoorL6ZQ
namespace Go.Proofs.YthbifccankfngaaGreatDoor
open Go.RowKit Go.Shelf
attribute [local go_sem] Oper.semAt_some
set_option maxRecDepth 20000

theorem cmA_one' (c : Cm) : (cmA c).all (·.oneCell') = true := by simp [cmA, Value.oneCell']
def filR (h : List Cm) (c : Cm) (k : Nat) : List Nat := ((h.take k).filter fun x => hind x c).map (·.1)
theorem filR_next {h : List Cm} {c : Cm} {k : Nat} (hk : k < h.length) : filR h c (k + 1) = if hind h[k] c then filR h c k ++ [h[k].1] else filR h c k := by
  unfold filR
  rw [List.take_add_one, List.getElem?_eq_getElem hk, List.filter_append]
  by_cases e : hind h[k] c = true <;> simp [e]
structure BlS (zb : World) (F : List Nat) (v : Value) (z : World) : Prop where
  below : Below zb.heap.size zb z
  own : z.ownsRow zb.heap.size 31 1 v F.length (UC F)
theorem BlS.app {zb z w5 : World} {F : List Nat} {v v5 : Value} {x N : Nat} (h : BlS zb F v z) (hN : N = F.length + 1) (ho : w5.ownsRow zb.heap.size 31 1 v5 N (UC F ++ [.int .u64 (x : Int)])) (hg : (z.alloc (.cells #[.int .u64 (x : Int)] 31)).grownBy w5 v.ownBlock) : BlS zb (F ++ [x]) v5 w5 := by
  subst hN
  have hg2 : z.grownBy w5 v.ownBlock := (World.grownBy_alloc z _ _).andThen hg (fun j hj => .inr hj)
  refine ⟨below_own h.below h.own hg2 (Nat.le_refl _) h.below.size, ?_⟩
  rw [UC_append, List.length_append]
  exact ho
theorem BlS.under {zb z z' : World} {F : List Nat} {v : Value} (h : BlS zb F v z) (hb : Below z.heap.size z z') : BlS zb F v z' := ⟨h.below.trans (hb.mono h.below.size), own_under h.own hb (Nat.le_refl _)⟩
def BlL (zb : World) (f : Nat → List Nat) (n : Nat) (v i : Value) (z : World) : Prop :=
  ∃ (k : Nat) (F : List Nat) (nF : Nat) (A : Option Addr) (c : Nat), k ≤ n ∧ nF ≤ 2000 + k ∧ v = .slice A nF c ∧ i = .int .i64 (k : Int) ∧ Hid (F.length = nF) ∧ Hid (F = f k) ∧ Hid (BlS zb F (.slice A nF c) z)
set_option maxHeartbeats 12800000 in
theorem blocks_some (X : Nat → Prop) (g : Nat) (s : TS) (t : Nat) (r : Rs) (w : World) (h : Tt w g s X) (hT : Tab w) (hX : ∀ k, X k → 2 ≤ k) (hr : RsOk r) (ht : U64 t) (hs : SmS s 1000) (hw : s.wt t = some r) (ax : Nat) (hax : ax < (s.at r).2.length) (hat : (s.at r).2.findIdx? (fun c => c.1 == t) = some ax)
    (P1 P2 : List Nat → Prop) (L : List Nat) (hL : L = ((s.at r).1.filter fun x => hind x (s.at r).2[ax]).map (·.1) ++ ((s.at r).2.take ax).map (·.1))
    (hS : ∀ (W : World) (A : Option Addr) (c B : Nat), W.ownsRow B 31 1 (.slice A L.length c) L.length (UC L) → Calls Tryz.prog 39 #[.slice A L.length c] W (fun e w' => e = .returned (.tuple #[]) ∧ ∃ l, P1 l ∧ l.length = L.length ∧ w'.ownsRow B 31 1 (.slice A L.length c) L.length (UC l) ∧ W.grownBy w' (Value.slice A L.length c).ownBlock))
    (hC : ∀ (W : World) (A : Option Addr) (c B : Nat) (l : List Nat), P1 l → l.length = L.length → W.ownsRow B 31 1 (.slice A L.length c) L.length (UC l) → Calls Tryz.prog 40 #[.slice A L.length c] W (fun e w' => ∃ v l2, e = .returned v ∧ P2 l2 ∧ w'.ownsRow B 31 1 v l2.length (UC l2) ∧ W.grownBy w' (Value.slice A L.length c).ownBlock)) :
    Calls Tryz.prog 15 #[.pointer (some ⟨g, 0, none⟩), .int .u64 (t : Int)] w (fun e w' => ∃ v l2, e = .returned v ∧ P2 l2 ∧ w'.ownsRow w.heap.size 31 1 v l2.length (UC l2) ∧ Below w.heap.size w w') := by
  obtain ⟨B, b1, b2, b3, V, hv, hB, hx⟩ := h.ex
  obtain ⟨A1, c1, hv1, ho1⟩ := hv.holdR r
  obtain ⟨A2, c2, hv2, ho2⟩ := hv.queueR r
  have hn1 := (hs.1 r).1
  have hn2 := (hs.1 r).2
  have hlh := own_lz ho1
  have hlq := own_lz ho2
  obtain ⟨hh, hhe⟩ : ∃ hh, (s.at r).1 = hh := ⟨_, rfl⟩
  obtain ⟨qq, hqe⟩ : ∃ qq, (s.at r).2 = qq := ⟨_, rfl⟩
  obtain ⟨n1, hn1e⟩ : ∃ n1, hh.length = n1 := ⟨_, rfl⟩
  obtain ⟨n2, hn2e⟩ : ∃ n2, qq.length = n2 := ⟨_, rfl⟩
  have hcp : (s.at r).2.length ≤ c2 := by
    obtain ⟨Aq, cq, hvq, hcq, _⟩ := pl_own_slice ho2
    injection hvq with _ _ hvq
    rw [hvq]
    exact hcq
  rw [hhe] at ho1 hv1 hn1 hlh hL
  simp only [hqe] at hv2 ho2 hn2 hlq hat hL hax hcp
  rw [hn1e] at hv1 hn1 hlh
  rw [hn2e] at hv2 hn2 hlq hax hcp
  obtain ⟨b5, hb5⟩ : ∃ b5, w.heap.size = b5 := ⟨_, rfl⟩
  obtain ⟨z2, hz2⟩ : ∃ z2, w.alloc (.cells (wtV (some r)) 33) = z2 := ⟨_, rfl⟩
  have hbel : Below w.heap.size w z2 := hz2 ▸ (Below.refl _ w).alloc (Nat.le_refl _) _
  have p0 : w.cell? ⟨g, 2, none⟩ = some (.map (some b3)) := hv.cell3
  have HBW := Lib.hid hbel
  have A5 : Hid (At z2 b5 33 (rsA r)) := by
    have := At.new w 33 (rsA r)
    rw [← hz2, ← hb5]
    exact this
  have TB := Lib.hid hv
  have TB2 := Lib.hid (hv.below hbel)
  have HLH := Lib.hid (hlh.below hbel)
  have HLQ0 := Lib.hid (hlq.below hbel)
  have HV1 := Lib.hid hv1
  have HV2 := Lib.hid hv2
  have HB5 := Lib.hid hb5
  have HW := Lib.hid hw
  have HOT := Lib.hid ht
  have HOK := Lib.hid hr
  have HTB : Hid (Tab z2) := tab_mod hT (Mod.of_below hbel X) hX
  have HAT : Hid (idxI (fun c => c.1 == t) qq = (ax : Int)) := by show idxI _ _ = _; unfold idxI; rw [hat]
  obtain ⟨cx, hcx⟩ : ∃ cx, qq[ax]'(by omega) = cx := ⟨_, rfl⟩
  have HCX : Hid (∀ hx : ax < qq.length, qq[ax] = cx) := fun _ => hcx
  have HLL : Hid (L = filR hh cx n1 ++ (qq.take ax).map (·.1)) := by
    show L = _
    rw [hL, ← hcx, ← hn1e]
    unfold filR
    rw [List.take_length]
  have HSO := Lib.hid hS
  have HCO := Lib.hid hC
  have HN1E := Lib.hid hn1e
  have HN2E := Lib.hid hn2e
  clear h hT hX hr ht hs hw hat hL hS hC hv hB hx ho1 ho2 hv1 hv2 hhe hqe hn1e hn2e hbel hb5 hlh hlq hcx
  go_enter Tryz.func15, Tryz.ntmps15
  go_upto_region 4 with (first
    | refine wpList_look rfl 20 rfl (.tmp 18) (.tmp 19) true rfl keyT_u64 Tryz.underlying59 (rsV (0, 0)) (zero_res _) rfl TB.out.ms.m3 t rfl HOT.out (.tuple #[.agg (wtV (some r)), .bool true]) (by show lookV _ ((s.wt t).map rsV) true = _; rw [HW.out, wtV_look]; rfl) ?_
    | refine wpList_store_new 33 (.tmp 5) (.tmp 21) rfl rfl rfl _ w rfl rfl (wtV (some r)) (rsA (0, 0)) 2 rfl strR rfl rfl (wtV_one _) rfl ?_)
  rw [HB5.out]
  try rw [hz2]
  clear hz2 p0
  refine wp_region_held_drew (S := Below z2.heap.size z2) (by kernel_rfl) ((Below.refl _ z2).drew) (fun hS => ?_)
  refine tk 0 hS ?_
  refine tk 1 hS ?_
  refine tk 2 hS ?_
  refine tk 3 hS ?_ (hy := by intro wz hz; have p0 : wz.cell? ⟨g, 0, none⟩ = some (.map (some b1)) := (TB2.out.below hz).cell1; go_simp <;> with_reducible rfl)
  refine tk (v := rsV r) 4 hS ?_ (hy := by intro wz hz; have p0 : wz.cell? ⟨g, 0, none⟩ = some (.map (some b1)) := (TB2.out.below hz).cell1; exact exec_load_at 33 (.tmp 5) rfl b5 rfl _ 2 strR rfl (A5.out.under hz A5.out.lt))
  refine tk (v := thV (.slice A1 n1 c1) (.slice A2 n2 c2)) 5 hS ?_ (hy := by intro wz hz; have p0 : wz.cell? ⟨g, 0, none⟩ = some (.map (some b1)) := (TB2.out.below hz).cell1; exact exec_look (.tmp 28) (.tmp 29) false rfl keyT_res Tryz.underlying57 (thV nilS nilS) zero_th rfl (TB2.out.below hz).ms.m1 r rfl HOK.out _ (by rw [(TB2.out.below hz).look1, HV1.out, HV2.out]))
  refine wpAnyH_ready (rs := [6]) (by kernel_rfl) (by simp) ?_
  refine AllReadyH.cons rfl (fun K hK => ?_) AllReadyH.nil
  go_simp
  refine hK.out _ _ (((Below.refl _ z2).drew).alloc (Nat.le_refl _) _) (fun hT => ?_)
  clear hK hS
  have hS := hT
  clear hT
  refine wpAnyH_ready (rs := [7]) (by kernel_rfl) (by simp) ?_
  refine AllReadyH.cons rfl (fun K hK => ?_) AllReadyH.nil
  rw [if_pos (by rfl)]
  refine wp_store_at 79 (.tmp 7) (.tmp 30) rfl rfl z2.heap.size rfl (thA (.slice A1 n1 c1) (.slice A2 n2 c2)) (thA nilS nilS) 2 rfl strTh rfl rfl (thA_one _ _ _ _ _ _) (At.new z2.drew 79 (thA nilS nilS)) ?_
  intro w9 ha9 hg9
  have AX := Lib.hid ha9
  have HB9 := Lib.hid (show Below z2.heap.size z2 w9 from (((Below.refl _ z2).drew).alloc (Nat.le_refl _) (.cells (thA nilS nilS) 79)).grown hg9 (by simp [World.alloc]) (fun k hk => by injection hk with hk; subst hk; exact Nat.le_refl _))
  clear ha9 hg9
  refine hK.out _ _ (HB9.out) (fun hT => ?_)
  clear hK hS
  have hS := hT
  clear hT
  refine wpAnyH_done (by kernel_rfl) ?_ _
  clear hS
  obtain ⟨b7, hb7⟩ : ∃ b7, z2.heap.size = b7 := ⟨_, rfl⟩
  rw [hb7] at AX ⊢
  have HLQ := Lib.hid (HLQ0.out.below HB9.out)
  have HLH9 := Lib.hid (HLH.out.below HB9.out)
  have HTB9 : Hid (Tab w9) := tab_mod HTB.out (Mod.of_below HB9.out (fun _ => False)) (fun _ h => h.elim)
  have HBW9 := Lib.hid (HBW.out.trans (HB9.out.mono HBW.out.size))
  clear hb7 HLQ0 HLH HTB HB9
  go_upto_region 5 with fail
  refine wp_region_held_drew (S := Below w9.heap.size w9) (by kernel_rfl) ((Below.refl _ w9).drew) (fun hS => ?_)
  have C0 := Lib.hid hS
  refine tk 0 hS ?_
  refine tk 1 hS ?_ (hy := by intro wz hz; have p1 : wz.cell? ⟨b7, 1, none⟩ = some (.slice A2 n2 c2) := (AX.out.under hz AX.out.lt).cell 1; go_simp <;> with_reducible rfl)
  refine tk 2 hS ?_
  refine wpAnyH_ready (rs := [3]) (by kernel_rfl) (by simp) ?_
  refine AllReadyH.cons rfl (fun K hK => ?_) AllReadyH.nil
  go_simp
  refine (of_any t _).mono ?_
  rintro e zb ⟨rfl, hzb⟩
  have HZB := Lib.hid (show Below w9.heap.size w9 zb from hzb ▸ C0.out.alloc C0.out.size _)
  have hcf : zb.cell? ⟨w9.drew.heap.size, 0, none⟩ = some (.int .u64 (t : Int)) := by rw [hzb]; exact (At.new w9.drew 31 #[.int .u64 (t : Int)]).cell 0
  have HIX := Lib.hid (index_any 64 #[.pointer (some ⟨w9.drew.heap.size, 0, none⟩)] (fun c => c.1 == t) ent_of _ A2 n2 c2 qq zb (pred_of t _ zb hcf) (HLQ.out.below HZB.out) (by omega))
  rw [HAT.out] at HIX
  clear hcf hzb
  refine hK.out _ _ (HZB.out) (fun hT => ?_)
  clear hK hS
  have hS := hT
  clear hT
  refine wpAnyH_ready (rs := [4]) (by kernel_rfl) (by simp) ?_
  refine AllReadyH.cons rfl (fun K hK => ?_) AllReadyH.nil
  go_simp
  refine HIX.out.mono ?_
  rintro e y5 ⟨rfl, hy5⟩
  have BY5 := Lib.hid (HZB.out.trans (hy5.mono HZB.out.size))
  clear hy5
  refine hK.out _ _ (BY5.out) (fun hT => ?_)
  clear hK hS
  have hS := hT
  clear hT
  refine tk 5 hS ?_
  refine wpAnyH_done (by kernel_rfl) ?_ _
  clear hS
  have HLQ5 := Lib.hid (HLQ.out.below BY5.out)
  have HLH5 := Lib.hid (HLH9.out.below BY5.out)
  have HT5 : Hid (Tab y5) := tab_mod HTB9.out (Mod.of_below BY5.out (fun _ => False)) (fun _ h => h.elim)
  have AX5 := Lib.hid (AX.out.under BY5.out AX.out.lt)
  have HBW5 := Lib.hid (HBW9.out.trans (BY5.out.mono HBW9.out.size))
  clear HLQ HLH9 HTB9 AX HBW9 BY5 HIX HZB C0 TB TB2 A5 HV1 HV2 HW HOK HAT
  rename_i zbx
  clear zbx
  obtain ⟨zb, hzb⟩ : ∃ zb, y5 = zb := ⟨_, rfl⟩
  subst hzb
  have p0 : y5.cell? ⟨b7, 0, none⟩ = some (.slice A1 n1 c1) := AX5.out.cell 0
  go_wp2_with fail
  go_loopw [9, 39] (fun v i wr => BlL y5 (filR hh cx) n1 v i wr) (fun _ i _ => n1 - (intOf i).toNat)
  case atStart => exact ⟨0, [], 0, none, 0, Nat.zero_le _, by omega, rfl, rfl, rfl, rfl, ⟨Below.refl _ _, World.ownsRow_nil _ _ _ _⟩⟩
  case round =>
    obtain ⟨k, F, nF, AF, cF, hk, hnF, rfl, rfl, HNF, HF, HS⟩ := hrel
    by_cases hlt : k < n1
    · obtain ⟨b, o, hl, hAe, _, hbz, hr⟩ := HLH5.out.cm hlt
      obtain ⟨bq, oq, hlq, hAq, _, hbqz, hrq⟩ := HLQ5.out.cm hax
      subst hAe hAq
      obtain ⟨x, hx⟩ : ∃ x, hh[k] = x := ⟨_, rfl⟩
      rw [hx] at hr
      rw [HCX.out hlq] at hrq
      have R1 : Hid (wr.rangeAt b (o + k * 2) (cmV x)) := pl_rangeAt_block hr (HS.out.below.block b hbz)
      have HX := Lib.hid hx
      obtain ⟨hd, hhd⟩ : ∃ hd, hind x cx = hd := ⟨_, rfl⟩
      have HHD := Lib.hid hhd
      have A11 : Hid (At (wr.alloc (.cells (cmA x) 54)) wr.heap.size 54 (cmA x)) := At.new wr _ _
      have BQ : Hid (Below y5.heap.size y5 (wr.alloc (.cells (cmA x) 54))) := HS.out.below.alloc HS.out.below.size _
      have HSQ : Hid (BlS y5 F (.slice AF nF cF) (wr.alloc (.cells (cmA x) 54))) := HS.out.under ((Below.refl _ wr).alloc (Nat.le_refl _) _)
      clear hr hx hhd p0
      go_upto_region 10 with (first
        | ((with_reducible show wpList _ _ _ (⟨some 42, _, _, _, _, _⟩ :: _) _ _); refine wpList_load_in 54 42 (.tmp 41) rfl rfl rfl b (o + k * 2) rfl (cmV x) 2 strC rfl R1.out ?_)
        | ((with_reducible show wpList _ _ _ (⟨none, _, _, _, _, _⟩ :: _) _ _); refine wpList_store_new 54 (.tmp 11) (.tmp 42) rfl rfl rfl wr.heap.size wr rfl rfl (cmA x) zC 2 rfl strC rfl rfl (cmA_one' x) rfl ?_))
      obtain ⟨b11, hb11⟩ : ∃ b11, wr.heap.size = b11 := ⟨_, rfl⟩
      rw [hb11] at A11 ⊢
      generalize wr.alloc (.cells (cmA x) 54) = wq at A11 BQ HSQ ⊢
      have AXQ := Lib.hid (AX5.out.under BQ.out AX5.out.lt)
      have HTQ : Hid (Tab wq) := tab_mod HT5.out (Mod.of_below BQ.out (fun _ => False)) (fun _ h => h.elim)
      have RQ : Hid (wq.rangeAt bq (oq + ax * 2) (cmV cx)) := pl_rangeAt_block hrq (BQ.out.block bq hbqz)
      have hbqw : bq < wq.heap.size := Nat.lt_of_lt_of_le hbqz BQ.out.size
      clear hrq HS R1 hb11
      refine wp_region_held_drew (S := Below wq.heap.size wq) (by kernel_rfl) ((Below.refl _ wq).drew) (fun hS => ?_)
      refine tk (v := .agg (cmA x)) 0 hS ?_ (hy := by intro wz hz; have p1 : wz.cell? ⟨b7, 1, none⟩ = some (.slice (some ⟨bq, oq, none⟩) n2 c2) := (AXQ.out.under hz AXQ.out.lt).cell 1; exact exec_load_at 54 (.tmp 11) rfl b11 rfl (cmA x) 2 strC rfl (A11.out.under hz A11.out.lt))
      refine tk 1 hS ?_
      refine tk 2 hS ?_ (hy := by intro wz hz; have p1 : wz.cell? ⟨b7, 1, none⟩ = some (.slice (some ⟨bq, oq, none⟩) n2 c2) := (AXQ.out.under hz AXQ.out.lt).cell 1; go_simp <;> with_reducible rfl)
      refine tk 3 hS ?_
      refine tk 4 hS ?_
      refine tk (v := .agg (cmA cx)) 5 hS ?_ (hy := by intro wz hz; have p1 : wz.cell? ⟨b7, 1, none⟩ = some (.slice (some ⟨bq, oq, none⟩) n2 c2) := (AXQ.out.under hz AXQ.out.lt).cell 1; exact exec_load_in 54 (.tmp 47) rfl bq (oq + ax * 2) rfl (cmV cx) 2 strC rfl (pl_rangeAt_block RQ.out (hz.block bq hbqw)))
      refine wpAnyH_ready (rs := [6]) (by kernel_rfl) (by simp) ?_
      refine AllReadyH.cons rfl (fun K hK => ?_) AllReadyH.nil
      go_simp
      refine (hinders_any x cx _ (tab_mod HTQ.out (Mod.of_below hS (fun _ => False)) (fun _ h => h.elim))).mono ?_
      rintro e y9 ⟨rfl, hb9⟩
      have hb : True := trivial
      rw [HHD.out]
      have B9 := Lib.hid (hS.trans (hb9.mono hS.size))
      clear hb9
      refine hK.out _ _ (B9.out) (fun hT => ?_)
      clear hK hb hS
      have hS := hT
      clear hT
      refine wpAnyH_done (by kernel_rfl) ?_ _
      have HD := Lib.hid (HSQ.out.under hS)
      have pb : y9.cell? ⟨b11, 0, none⟩ = some (.int .u64 (x.1 : Int)) := (A11.out.under hS A11.out.lt).cell 0
      clear hS HSQ AXQ HTQ RQ A11 BQ
      cases hd
      · go_wp2_with fail
        exact ⟨⟨k + 1, F, nF, AF, cF, by omega, by omega, rfl, by go_num, HNF, Lib.hid (by show F = _; rw [filR_next hl, HX.out, HHD.out]; exact HF.out), HD⟩, by simp [intOf]; omega⟩
      · skip
        have OWN : Hid ((y9.alloc (.cells #[.int .u64 (x.1 : Int)] 31)).ownsRow y5.heap.size 31 1 (.slice AF nF cF) nF (UC F)) := by
          have := own_under HD.out.own ((Below.refl _ y9).alloc (Nat.le_refl _) (.cells #[.int .u64 (x.1 : Int)] 31)) (Nat.le_refl _)
          rw [HNF.out] at this
          exact this
        have LN := Lib.hid (lies_new y9 (.int .u64 (x.1 : Int)) 31)
        have HSZ : Hid (y5.heap.size ≤ (y9.alloc (.cells #[.int .u64 (x.1 : Int)] 31)).heap.size) := by have := HD.out.below.size; show _ ≤ _; simp; omega
        obtain ⟨i0, hi0, hz0, hz1, hz2⟩ := u_info
        go_wp2_with (at_builtin; refine wpList_app2 _ rfl (.tmp 50) (.tmp 53) 37 rfl y5.heap.size 31 i0 (.int .u64 0) 1 8 Tryz.underlying37 hi0 hz0 hz1 hz2 rfl (by omega) (.slice AF nF cF) nF (UC F) rfl OWN.out (y9.heap.size + 1) (some ⟨y9.heap.size, 0, none⟩) 1 1 [.int .u64 (x.1 : Int)] rfl LN.out (fun u hu => by simp at hu; rw [hu]; rfl) (by omega) (by simp only [maxLen]; omega) (by omega) HSZ.out ?_; intro v5 w5 ho5 hg5 hb5)
        obtain ⟨A5, c5, rfl, _⟩ := own_slice ho5
        have hn := HD.out.app (x := x.1) (by rw [HNF.out]) ho5 hg5
        exact ⟨⟨k + 1, F ++ [x.1], nF + 1, A5, c5, by omega, by omega, rfl, by go_num, Lib.hid (by rw [List.length_append, HNF.out]; rfl), Lib.hid (by show F ++ [x.1] = _; rw [filR_next hl, HX.out, HHD.out, HF.out]; rfl), Lib.hid hn⟩, by simp [intOf]; omega⟩
    · obtain rfl : n1 = k := by omega
      obtain ⟨bq, oq, hlq, hAq, _, hbqz, _⟩ := HLQ5.out.cm hax
      subst hAq
      have hF1 : nF ≤ 1000 := by
        rw [← HNF.out, HF.out]
        unfold filR
        rw [List.length_map]
        exact Nat.le_trans (List.length_filter_le _ _) (by rw [List.length_take]; omega)
      have p1 : wr.cell? ⟨b7, 1, none⟩ = some (.slice (some ⟨bq, oq, none⟩) n2 c2) := (AX5.out.under HS.out.below AX5.out.lt).cell 1
      have hax2 : ax ≤ c2 := by omega
      have ST2 : Hid (BlS y5 F (.slice AF nF cF) wr) := HS
      have HF1 := HF
      have HNF1 := HNF
      clear p0 HS HF HNF hlt hk hnF
      go_wp2_with fail
      go_loopw [9, 61] (fun v i wz => BlL y5 (fun k => filR hh cx n1 ++ (qq.take k).map (·.1)) ax v i wz) (fun _ i _ => ax - (intOf i).toNat)
      case atStart => exact ⟨0, F, nF, AF, cF, Nat.zero_le _, by omega, rfl, rfl, HNF1, Lib.hid (by show F = _ ++ List.map _ (List.take 0 qq); rw [HF1.out]; simp), ST2⟩
      case round =>
        clear p1 ST2 HF1 HNF1 hF1
        rename World => wr2
        obtain ⟨k, F, nF, AF, cF, hk, hnF, rfl, rfl, HNF, HF, HS⟩ := hrel
        by_cases hlt : k < ax
        · obtain ⟨b, o, hl, hAe, _, hbz, hr⟩ := HLQ5.out.cm (show k < n2 by omega)
          injection hAe with hAe
          injection hAe with hAe1 hAe2
          subst hAe1 hAe2
          obtain ⟨x, hx⟩ : ∃ x, qq[k] = x := ⟨_, rfl⟩
          rw [hx] at hr
          have R1 : Hid (wr2.rangeAt bq (oq + k * 2) (cmV x)) := pl_rangeAt_block hr (HS.out.below.block bq hbz)
          have HX := Lib.hid hx
          have A13 : Hid (At (wr2.alloc (.cells (cmA x) 54)) wr2.heap.size 54 (cmA x)) := At.new wr2 _ _
          have HD : Hid (BlS y5 F (.slice AF nF cF) (wr2.alloc (.cells (cmA x) 54))) := HS.out.under ((Below.refl _ wr2).alloc (Nat.le_refl _) _)
          clear hr hx
          go_upto_region 16 with (first
            | ((with_reducible show wpList _ _ _ (⟨some 64, _, _, _, _, _⟩ :: _) _ _); refine wpList_load_in 54 64 (.tmp 63) rfl rfl rfl bq (oq + k * 2) rfl (cmV x) 2 strC rfl R1.out ?_)
            | ((with_reducible show wpList _ _ _ (⟨none, _, _, _, _, _⟩ :: _) _ _); refine wpList_store_new 54 (.tmp 13) (.tmp 64) rfl rfl rfl wr2.heap.size wr2 rfl rfl (cmA x) zC 2 rfl strC rfl rfl (cmA_one' x) rfl ?_))
          obtain ⟨b13, hb13⟩ : ∃ b13, wr2.heap.size = b13 := ⟨_, rfl⟩
          rw [hb13] at A13 ⊢
          generalize wr2.alloc (.cells (cmA x) 54) = wq at A13 HD ⊢
          have pb : wq.cell? ⟨b13, 0, none⟩ = some (.int .u64 (x.1 : Int)) := A13.out.cell 0
          clear HS R1 hb13 A13
          have OWN : Hid ((wq.alloc (.cells #[.int .u64 (x.1 : Int)] 31)).ownsRow y5.heap.size 31 1 (.slice AF nF cF) nF (UC F)) := by
            have := own_under HD.out.own ((Below.refl _ wq).alloc (Nat.le_refl _) (.cells #[.int .u64 (x.1 : Int)] 31)) (Nat.le_refl _)
            rw [HNF.out] at this
            exact this
          have LN := Lib.hid (lies_new wq (.int .u64 (x.1 : Int)) 31)
          have HSZ : Hid (y5.heap.size ≤ (wq.alloc (.cells #[.int .u64 (x.1 : Int)] 31)).heap.size) := by have := HD.out.below.size; show _ ≤ _; simp; omega
          obtain ⟨i0, hi0, hz0, hz1, hz2⟩ := u_info
          go_wp2_with (at_builtin; refine wpList_app2 _ rfl (.tmp 65) (.tmp 68) 37 rfl y5.heap.size 31 i0 (.int .u64 0) 1 8 Tryz.underlying37 hi0 hz0 hz1 hz2 rfl (by omega) (.slice AF nF cF) nF (UC F) rfl OWN.out (wq.heap.size + 1) (some ⟨wq.heap.size, 0, none⟩) 1 1 [.int .u64 (x.1 : Int)] rfl LN.out (fun u hu => by simp at hu; rw [hu]; rfl) (by omega) (by simp only [maxLen]; omega) (by omega) HSZ.out ?_; intro v5 w5 ho5 hg5 hb5)
          obtain ⟨A5, c5, rfl, _⟩ := own_slice ho5
          have hn := HD.out.app (x := x.1) (by rw [HNF.out]) ho5 hg5
          exact ⟨⟨k + 1, F ++ [x.1], nF + 1, A5, c5, by omega, by omega, rfl, by go_num, Lib.hid (by rw [List.length_append, HNF.out]; rfl), Lib.hid (by show F ++ [x.1] = _ ++ List.map _ (List.take (k + 1) qq); rw [HF.out, List.take_add_one, List.getElem?_eq_getElem hl, HX.out]; simp), Lib.hid hn⟩, by simp [intOf]; omega⟩
        · obtain rfl : ax = k := by omega
          obtain rfl : F = L := by rw [HF.out, HLL.out]
          have how := HS.out.own
          have hso := HSO.out wr2 AF cF y5.heap.size
          have hco := HCO.out
          rw [HNF.out] at how
          rw [HNF.out] at hso
          have HSX := Lib.hid (hso how)
          have HOW := Lib.hid how
          clear hso how hco HSO
          go_upto_region 18 with fail
          go_wp2_with fail
          refine HSX.out.mono ?_
          rintro e w2 ⟨rfl, l, hp1, hll, ho2, hg2⟩
          have hc2 := HCO.out w2 AF cF y5.heap.size l hp1 (by rw [hll, HNF.out])
          rw [HNF.out] at hc2
          have HCX2 := Lib.hid (hc2 ho2)
          have HB2 := Lib.hid (below_own HS.out.below HOW.out hg2 (Nat.le_refl _) HS.out.below.size)
          have HO2 := Lib.hid ho2
          clear hc2 ho2 hg2 hp1 hll HSX
          go_wp2_with fail
          refine HCX2.out.mono ?_
          rintro e w3 ⟨v, l2, rfl, hp2, ho3, hg3⟩
          have HB3 := Lib.hid (below_own HB2.out HO2.out hg3 (Nat.le_refl _) HB2.out.size)
          have HP2 := Lib.hid hp2
          have HO3 := Lib.hid ho3
          clear hp2 ho3 hg3 HCX2
          go_wp2_with fail
          go_ret
          exact ⟨v, l2, rfl, HP2.out, own_base HO3.out HBW5.out.size, HBW5.out.trans (HB3.out.mono HBW5.out.size)⟩
end Go.Proofs.YthbifccankfngaaGreatDoor
