/-
  The walk of Release.
  Conditions: at most 300 claims a row, with those that wait.
-/
import Derived.Test.YthbifccankfngaaGreatDoorK23ZQ
namespace Go.Proofs.YthbifccankfngaaGreatDoor
open Go.RowKit Go.Shelf
attribute [local go_sem] Oper.semAt_some
set_option maxRecDepth 20000

set_option maxHeartbeats 12800000 in
theorem Release_any (X : Nat → Prop) (g : Nat) (s : TS) (t : Nat) (w : World) (h : Tt w g s X) (hX : ∀ k, X k → 2 ≤ k) (hT : Tab w) (hr : ∀ r ∈ mineI s t, RsOk r) (hwr : ∀ r, s.wt t = some r → RsOk r) (ht : U64 t) (hok : ∀ r, OkQ s r) (N : Nat) (hs : SmS s N) (hN : N ≤ 300) :
    Calls Tryz.prog 19 #[.pointer (some ⟨g, 0, none⟩), .int .u64 (t : Int)] w (fun e w' => ∃ l, l.Perm (mineI s t) ∧ (l.Pairwise fun a b => ltR b a = false) ∧ GrantR w X g (releaseI s t l) e w') := by
  obtain ⟨B, b1, b2, b3, V, hv, hB, hx⟩ := h.ex
  obtain ⟨AO, cO, hvO, hoO⟩ := hv.ownR t
  have hnO := hs.2 t
  obtain ⟨lo, hlo⟩ : ∃ lo, (s.ow t).getD [] = lo := ⟨_, rfl⟩
  rw [hlo] at hvO hoO hnO
  obtain ⟨nO, hnOe⟩ : ∃ nO, lo.length = nO := ⟨_, rfl⟩
  rw [hnOe] at hvO hoO hnO
  obtain ⟨o, ho⟩ : ∃ o, s.wt t = o := ⟨_, rfl⟩
  obtain ⟨mi, hmi⟩ : ∃ mi, mineI s t = mi := ⟨_, rfl⟩
  rw [hmi] at hr ⊢
  have hmi2 : mi = lo ++ waitsI s t o := by rw [← hmi, mine_eq, ho, hlo]
  obtain ⟨b6, hb6⟩ : ∃ b6, w.heap.size = b6 := ⟨_, rfl⟩
  obtain ⟨z, hz⟩ : ∃ z, w.alloc (.cells (wtV o) 33) = z := ⟨_, rfl⟩
  have hbel : Below w.heap.size w z := hz ▸ (Below.refl _ w).alloc (Nat.le_refl _) _
  have p0 : w.cell? ⟨g, 1, none⟩ = some (.map (some b2)) := hv.cell2
  have p1 : w.cell? ⟨g, 2, none⟩ = some (.map (some b3)) := hv.cell3
  have TR := Lib.hid ((TbR.start hv hB hx).below hbel)
  have A6 : Hid (At z b6 33 (wtV o)) := by
    have := At.new w 33 (wtV o)
    rw [← hz, ← hb6]
    exact this
  have TTZ := Lib.hid (h.below hbel)
  have TB := Lib.hid hv
  have HLK : Hid (lookV nilS ((s.ow t).map fun _ => V (.own t)) false = .slice AO nO cO) := by
    show _ = _
    rw [hv.look2, hvO]
  have HVO := Lib.hid hvO
  have HLO := Lib.hid hlo
  have HNOE := Lib.hid hnOe
  have HMI := Lib.hid hmi2
  have HOT := Lib.hid ht
  have HW := Lib.hid ho
  have HWR := Lib.hid hwr
  have HR := Lib.hid hr
  have HOKQ := Lib.hid hok
  have HTB := Lib.hid hT
  have HX2 := Lib.hid hX
  have HSM := Lib.hid hs
  have HB6 := Lib.hid hb6
  have HML : Hid (mi.length ≤ N + 1) := by
    show _ ≤ _
    rw [hmi2, List.length_append, hnOe]
    cases o with
    | none => simp [waitsI]; omega
    | some r => by_cases h0 : heldI (s.at r).1 t = 0 <;> simp [waitsI, h0] <;> omega
  clear h hX hT hr hwr ht hok hs hv hB hx hvO hoO hlo hnOe ho hmi hmi2 hbel hb6
  go_enter Tryz.func19, Tryz.ntmps19
  go_upto_region 3 with (first
    | refine wpList_look rfl 17 rfl (.tmp 15) (.tmp 16) false rfl keyT_u64 Tryz.underlying58 nilS (zero_rr _) rfl TB.out.ms.m2 t rfl HOT.out (.slice AO nO cO) HLK.out ?_
    | refine wpList_look rfl 24 rfl (.tmp 22) (.tmp 23) true rfl keyT_u64 Tryz.underlying59 (rsV (0, 0)) (zero_res _) rfl TB.out.ms.m3 t rfl HOT.out (.tuple #[.agg (wtV o), .bool o.isSome]) (by show lookV _ ((s.wt t).map rsV) true = _; rw [HW.out, wtV_look]) ?_
    | refine wpList_store_new 33 (.tmp 6) (.tmp 25) rfl rfl rfl _ w rfl rfl (wtV o) (rsA (0, 0)) 2 rfl strR rfl rfl (wtV_one _) rfl ?_)
  rw [HB6.out]
  clear hz p0 p1
  have hnn : ∃ nm, mi.length = nm := ⟨_, rfl⟩
  obtain ⟨nm, hnm⟩ := hnn
  have HNM := Lib.hid hnm
  clear hnm
  have HC0 : Hid (∀ z', Below z.heap.size z z' → RlC w X B g b1 b2 b3 s V t lo (.slice AO nO cO) z') := fun z' hz' => by
    refine ⟨AO, cO, by rw [HNOE.out], ?_⟩
    have e1 : setF V (.own t) (.slice AO lo.length cO) = V := setF_id _ _ _ (by rw [HVO.out, HNOE.out])
    have e2 : setF (rowI s) (.own t) (lo.map rsP) = rowI s := setF_id _ _ _ (by show ((s.ow t).getD []).map rsP = _; rw [HLO.out])
    rw [e1, e2]
    exact TR.out.below hz'
  obtain ⟨bb, hbb⟩ : ∃ bb, bb = (match o with | none => false | some r => heldI (s.at r).1 t == 0) := ⟨_, rfl⟩
  have HBB := Lib.hid hbb
  clear hbb
  go_cut [34] from 27 to 35 (fun s34 wx => s34 = .bool bb ∧ Hid (Below z.heap.size z wx))
  case first =>
    cases o with
    | none =>
      have hb : bb = false := HBB.out
      subst hb
      go_wp2_with fail
      go_meet
      exact ⟨rfl, Lib.hid (Below.refl _ z)⟩
    | some r =>
      have hb : bb = (heldI (s.at r).1 t == 0) := HBB.out
      obtain ⟨h0, hh0⟩ : ∃ h0, heldI (s.at r).1 t = h0 := ⟨_, rfl⟩
      have HH := Lib.hid (Held_any X g s t r z TTZ.out (HWR.out r HW.out) (HSM.out.mono (by omega)))
      rw [hh0] at HH hb
      have HBQ := Lib.hid hb
      clear hb
      have q0 : z.cell? ⟨b6, 0, none⟩ = some (.int .i64 r.1) := A6.out.cell 0
      have q1 : z.cell? ⟨b6, 1, none⟩ = some (.int .u64 (r.2 : Int)) := A6.out.cell 1
      clear hh0
      go_wp2_with (first
        | (refine HH.out.mono ?_; rintro e y ⟨rfl, hb⟩; have HB := Lib.hid hb; clear hb)
        | fail)
      go_meet
      exact ⟨by rw [HBQ.out], HB⟩
  obtain ⟨rfl, HY⟩ := hcut
  rename World => y
  go_upto_if 34 with fail
  go_cut [5] from 35 to 39 (fun s5 wx => RlC w X B g b1 b2 b3 s V t mi s5 wx)
  case first =>
    cases bb
    · go_wp2_with fail
      go_meet
      have := HC0.out y HY.out
      have e : lo = mi := by
        rw [HMI.out]
        cases o with
        | none => simp [waitsI]
        | some r =>
          have hb : false = (heldI (s.at r).1 t == 0) := HBB.out
          have : ¬ heldI (s.at r).1 t = 0 := fun h => by rw [h] at hb; cases hb
          simp [waitsI, this]
      rw [e] at this
      exact this
    · obtain ⟨r, hor, hmi3⟩ : ∃ r, o = some r ∧ mi = lo ++ [r] := by
        cases o with
        | none => cases HBB.out
        | some r =>
          have hb : true = (heldI (s.at r).1 t == 0) := HBB.out
          have : heldI (s.at r).1 t = 0 := by simpa using hb.symm
          exact ⟨r, rfl, by rw [HMI.out]; simp [waitsI, this]⟩
      subst hor
      have HMI3 := Lib.hid hmi3
      clear hmi3
      have HBA := Lib.hid (HY.out.alloc HY.out.size (.cells (rsA r) 33))
      have A6y : Hid (At y b6 33 (rsA r)) := A6.out.under HY.out A6.out.lt
      have HAy := Lib.hid (At.new y 33 (rsA r))
      have TRy := Lib.hid (TR.out.below HBA.out)
      have HOy : Hid ((y.alloc (.cells (rsA r) 33)).ownsRow B 33 2 (.slice AO nO cO) nO (rsL lo)) := by
        have := TRy.out.rows.own (.own t)
        have e : rowI s (.own t) = lo.map rsP := by show ((s.ow t).getD []).map rsP = _; rw [HLO.out]
        rw [HVO.out, e, List.length_map, HNOE.out] at this
        exact this
      have HBB := Lib.hid TRy.out.hB
      obtain ⟨i0, hi0, hz0, hz1, hz2⟩ := r_info
      go_wp2_with (first
        | refine wpList_load_at 33 36 (.tmp 6) rfl rfl rfl b6 rfl (rsA r) 2 strR rfl A6y.out ?_
        | refine wpList_lit1r rfl 37 (.tmp 36) 40 33 2 (rsV (0, 0)) (rsA r) rfl rfl rfl Tryz.underlying40 (by kernel_rfl) (by omega) (by omega) rfl ?_
        | (at_builtin; refine wpList_app2 _ rfl (.tmp 35) (.tmp 37) 40 rfl B 33 i0 (rsV (0, 0)) 2 16 Tryz.underlying40 hi0 hz0 hz1 hz2 rfl (by omega) (.slice AO nO cO) nO (rsL lo) rfl HOy.out _ (some ⟨y.heap.size, 0, none⟩) 1 1 (rsL [r]) rfl (lies_rs HAy.out) (rs_one1 r) (by omega) (by simp only [maxLen]; omega) (by omega) HBB.out ?_; intro v5 w5 ho5 hg5 hb5))
      go_meet
      obtain ⟨A5, c5, rfl, _⟩ := pl_own_slice ho5
      have e : lo ++ [r] = mi := by exact HMI3.out.symm
      have en : nO + 1 = mi.length := by rw [← e, List.length_append, HNOE.out]; rfl
      have ho6 : w5.ownsRow B 33 2 (.slice A5 (nO + 1) c5) (mi.map rsP).length (flat2 (mi.map rsP)) := by
        rw [List.length_map, ← en, ← e]
        have := ho5
        rw [← rsL_append] at this
        exact this
      have T5 := TRy.out.row (.own t) (by rw [HVO.out]; exact hg5) (v := .slice A5 (nO + 1) c5) (l := mi.map rsP) ho6 (fun k hk => by
        rcases hb5 with h | h
        · exact .inl (by rw [HVO.out, ← h]; exact hk)
        · rw [h] at hk; injection hk with hk; exact .inr (by omega))
      rw [en] at T5 ⊢
      exact ⟨A5, c5, rfl, T5⟩
  obtain ⟨A, c, rfl, HC⟩ := hcut
  obtain ⟨w2, hdel2, hm2, hg2⟩ := HC.out.ms.m2.drop keyT_u64 Tryz.underlying58 (a := t) HOT.out 0
  have TRD := Lib.hid (HC.out.del2 t hm2 hg2)
  obtain ⟨w3, hdel3, hm3, hg3⟩ := TRD.out.ms.m3.drop keyT_u64 Tryz.underlying59 (a := t) HOT.out 0
  have TRE : Hid (TbR w X w3 B g b1 b2 b3 (noI s t) (setF V (.own t) nilS) (setF V (.own t) (.slice A mi.length c)) (setF (rowI s) (.own t) (mi.map rsP))) := TRD.out.put3 t none hm3 hg3
  unfold u64V at hdel2 hdel3
  have p0 : wc.cell? ⟨g, 1, none⟩ = some (.map (some b2)) := HC.out.gt.cell 1
  have p1 : w2.cell? ⟨g, 2, none⟩ = some (.map (some b3)) := TRD.out.gt.cell 2
  have OW : Hid (w3.ownsRow B 33 2 (.slice A mi.length c) mi.length (rsL mi)) := by
    have := TRE.out.rows.own (.own t)
    rw [setF_same, setF_same, List.length_map] at this
    exact this
  have hlm := HML.out
  have HSORT := Lib.hid (sort_any B (.slice A mi.length c) mi w3 OW.out (by omega))
  rw [HNM.out] at HSORT ⊢
  rw [HNM.out] at TRE OW
  clear hm2 hg2 hm3 hg3 hlm
  go_wp2_with fail
  refine HSORT.out.mono ?_
  rintro e w4 ⟨rfl, l, hp, hpw, ho4, hg4⟩
  rw [HNM.out] at ho4
  have hlm : l.length = nm := by rw [hp.length_eq, HNM.out]
  have T4 := TRE.out.row (.own t) (w' := w4) (by rw [setF_same]; exact hg4) (v := .slice A nm c) (l := l.map rsP) (by rw [List.length_map, hlm]; exact ho4) (fun k hk => .inl (by rw [setF_same]; exact hk))
  rw [setF_twice, setF_twice] at T4
  obtain ⟨TB4, HF4, HX4, HM4⟩ := rl_table T4 rfl rfl TB.out.n1 TB.out.n2
  have hlt4 := TB4.lt
  have ST0 : Tw w4 (TbX g b1 b2 b3 (setF V (.own t) nilS)) g (noI s t) w4 := Tw.refl ⟨⟨B, b1, b2, b3, _, TB4, T4.hB, fun _ hk => hk⟩, hlt4⟩
  generalize TbX g b1 b2 b3 (setF V (.own t) nilS) = X1 at HF4 HX4 hlt4 ST0
  have HT4 := Lib.hid (tab_mod HTB.out HM4 HX2.out)
  have HX42 : Hid (∀ k, X1 k → 2 ≤ k) := fun k hk => by
    rcases HX4 k hk with h | h
    · exact HX2.out k h
    · have := HTB.out.size; omega
  have ST : Hid (RlS w4 X1 g t N l (noI s t) 0 (noI s t) [] (.slice none 0 0) w4) := ⟨ST0, by rw [List.drop_zero, List.nil_append], by rw [Nat.zero_mul]; exact sm_no HSM.out t, fun r => List.Sublist.refl _, by simp, World.ownsRow_nil w4 w4.heap.size 31 1⟩
  have HFX := Lib.hid HF4
  have HXX := Lib.hid HX4
  have HMX := Lib.hid HM4
  have HLX : Hid (∀ k, (Value.slice A nm c).ownBlock = some k → k < w4.heap.size) := fun k hk => (ho4.lt k hk).2
  have HOL := Lib.hid ho4
  have HS2 := Lib.hid (sm_no HSM.out t)
  have HOK2 : Hid (∀ r, OkQ (noI s t) r) := HOKQ.out
  have HRL : Hid (∀ r ∈ l, RsOk r) := fun r hr => HR.out r (hp.mem_iff.1 hr)
  have HP := Lib.hid hp
  have HPW := Lib.hid hpw
  have HLM := Lib.hid hlm
  have hnm : nm ≤ N + 1 := by rw [← HNM.out]; exact HML.out
  clear hp hpw ho4 hg4 hlm T4 TB4 HF4 HX4 HM4 hlt4 ST0 HSORT TRE TRD OW HC p0 p1 hdel2 hdel3 TR TTZ TB HLK HVO HLO HNOE HMI HW HWR HR HOKQ HTB HX2 HSM HML HNM HC0 HBB HY A6
  go_wp2_with fail
  go_loopw [8, 53] (fun v i z => RlL w4 X1 g t N l (noI s t) v i z) (fun _ i _ => nm - (intOf i).toNat)
  case atStart => exact ⟨0, noI s t, [], none, 0, Nat.zero_le _, rfl, by go_num, ST⟩
  case round =>
    obtain ⟨k, s', F, AF, cF, hk, rfl, rfl, HG⟩ := hrel
    by_cases hlt : k < nm
    · obtain ⟨X0, hX0, hXs, hmod⟩ := HG.out.tw
      obtain ⟨B, b1, b2, b3, V, hv, hB, hx⟩ := hX0.ex
      have hXE : ∀ k, TbX g b1 b2 b3 V k → X1 k ∨ w4.heap.size ≤ k := fun k hk => hXs k (hx k hk)
      have HFR : Hid (∀ k, (Value.slice AF F.length cF).ownBlock = some k → ¬ TbX g b1 b2 b3 V k) := fun k hk => by
        obtain ⟨cs, ha⟩ := own_at HG.out.own hk
        exact hv.box_ne ha tU_ne
      have OWL := own_mod HOL.out hmod HFX.out
      obtain ⟨bl, ol, hkl, hAe, hbl, hrl⟩ := (Lz.of_own OWL (fun _ h => h.elim) : Lz (fun _ => False) wr 2 A nm (rsL l)).rs hlt
      subst hAe
      obtain ⟨r, hre⟩ : ∃ r, l[k] = r := ⟨_, rfl⟩
      rw [hre] at hrl
      have R1 := Lib.hid hrl
      have HOK := Lib.hid (HRL.out r (by rw [← hre]; exact List.getElem_mem hkl))
      have HRE := Lib.hid hre
      obtain ⟨A1, c1, hv1, ho1⟩ := hv.holdR r
      obtain ⟨A2, c2, hv2, ho2⟩ := hv.queueR r
      have hsm := HG.out.sm
      have hkN := small_k hlt hnm hN
      have hn1 : (s'.at r).1.length ≤ 99999 := by have := (hsm.1 r).1; omega
      have hn2 : (s'.at r).2.length ≤ 99999 := by have := (hsm.1 r).2; omega
      obtain ⟨hh, hhe⟩ : ∃ hh, (s'.at r).1 = hh := ⟨_, rfl⟩
      obtain ⟨qq, hqe⟩ : ∃ qq, (s'.at r).2 = qq := ⟨_, rfl⟩
      obtain ⟨n1, hn1e⟩ : ∃ n1, hh.length = n1 := ⟨_, rfl⟩
      obtain ⟨n2, hn2e⟩ : ∃ n2, qq.length = n2 := ⟨_, rfl⟩
      rw [hhe] at ho1 hv1 hn1
      rw [hqe] at hv2 ho2 hn2
      rw [hn1e] at ho1 hv1 hn1
      rw [hn2e] at ho2 hv2 hn2
      have HO1 := Lib.hid ho1
      have HO2 := Lib.hid ho2
      have HV1 := Lib.hid hv1
      have HV2 := Lib.hid hv2
      have HHE := Lib.hid hhe
      have HQE := Lib.hid hqe
      have HN1E := Lib.hid hn1e
      have HN2E := Lib.hid hn2e
      have HXE := Lib.hid hXE
      have HMOD := Lib.hid hmod
      have HSMK := Lib.hid hsm
      have HV := Lib.hid hv
      have HB0 := Lib.hid hB
      obtain ⟨nF, hnF⟩ : ∃ nF, F.length = nF := ⟨_, rfl⟩
      have HNF := Lib.hid hnF
      have hlenF : nF ≤ k * N := by rw [← hnF]; exact HG.out.len
      have HLT := Lib.hid hlt
      rw [hnF] at HFR ⊢
      clear hX0 hXs hx hv hB ho1 ho2 hv1 hv2 hhe hqe hn1e hn2e hXE hmod hnF hrl hre OWL hsm
      go_upto_region 12 with (first
        | refine wpList_load_in 33 56 (.tmp 55) rfl rfl rfl bl (ol + k * 2) rfl (encR r) 2 strR rfl R1.out ?_
        | refine wpList_store_new 33 (.tmp 10) (.tmp 56) rfl rfl rfl _ wr rfl rfl (rsA r) (rsA (0, 0)) 2 rfl strR rfl rfl (rsA_one _) rfl ?_)
      obtain ⟨z, hz⟩ : ∃ z, wr.alloc (.cells (rsA r) 33) = z := ⟨_, rfl⟩
      obtain ⟨b10, hb10⟩ : ∃ b10, wr.heap.size = b10 := ⟨_, rfl⟩
      rw [hz, hb10]
      have A10 : Hid (At z b10 33 (rsA r)) := by
        have := At.new wr 33 (rsA r)
        rw [hz, hb10] at this
        exact this
      have HBz : Hid (Below wr.heap.size wr z) := hz ▸ (Below.refl _ wr).alloc (Nat.le_refl _) _
      have hzs : z.heap.size = b10 + 1 := by rw [← hz, ← hb10]; simp
      have HZS := Lib.hid hzs
      have TBz := Lib.hid (HV.out.below HBz.out)
      have TR3 := Lib.hid ((TbR.start (X := TbX g b1 b2 b3 V) HV.out HB0.out (fun _ hk => hk)).below HBz.out)
      have HB10 := Lib.hid hb10
      clear hz hzs hb10
      refine wp_region_held_drew (S := Below z.heap.size z) (by kernel_rfl) ((Below.refl _ z).drew) (fun hS => ?_)
      refine tk 0 hS ?_
      refine tk 1 hS ?_
      refine tk 2 hS ?_
      refine tk 3 hS ?_ (hy := by intro wz hz; have p0 : wz.cell? ⟨g, 0, none⟩ = some (.map (some b1)) := (TBz.out.below hz).cell1; go_simp <;> with_reducible rfl)
      refine tk (v := rsV r) 4 hS ?_ (hy := by intro wz hz; have p0 : wz.cell? ⟨g, 0, none⟩ = some (.map (some b1)) := (TBz.out.below hz).cell1; exact exec_load_at 33 (.tmp 10) rfl b10 rfl _ 2 strR rfl (A10.out.under hz A10.out.lt))
      refine tk (v := thV (.slice A1 n1 c1) (.slice A2 n2 c2)) 5 hS ?_ (hy := by intro wz hz; have p0 : wz.cell? ⟨g, 0, none⟩ = some (.map (some b1)) := (TBz.out.below hz).cell1; exact exec_look (.tmp 60) (.tmp 61) false rfl keyT_res Tryz.underlying57 (thV nilS nilS) zero_th rfl (TBz.out.below hz).ms.m1 r rfl HOK.out _ (by rw [(TBz.out.below hz).look1, HV1.out, HV2.out]))
      refine wpAnyH_ready (rs := [6]) (by kernel_rfl) (by simp) ?_
      refine AllReadyH.cons rfl (fun K hK => ?_) AllReadyH.nil
      go_simp
      refine hK.out _ _ (((Below.refl _ z).drew).alloc (Nat.le_refl _) _) (fun hT => ?_)
      clear hK hS
      have hS := hT
      clear hT
      refine wpAnyH_ready (rs := [7]) (by kernel_rfl) (by simp) ?_
      refine AllReadyH.cons rfl (fun K hK => ?_) AllReadyH.nil
      rw [if_pos (by rfl)]
      refine wp_store_at 79 (.tmp 11) (.tmp 62) rfl rfl z.heap.size rfl (thA (.slice A1 n1 c1) (.slice A2 n2 c2)) (thA nilS nilS) 2 rfl strTh rfl rfl (thA_one _ _ _ _ _ _) (At.new z.drew 79 (thA nilS nilS)) ?_
      intro w9 ha9 hg9
      have AX := Lib.hid ha9
      have HB9 := Lib.hid (show Below z.heap.size z w9 from (((Below.refl _ z).drew).alloc (Nat.le_refl _) (.cells (thA nilS nilS) 79)).grown hg9 (by simp [World.alloc]) (fun k hk => by injection hk with hk; subst hk; exact Nat.le_refl _))
      clear ha9 hg9
      refine hK.out _ _ (HB9.out) (fun hT => ?_)
      clear hK hS
      have hS := hT
      clear hT
      refine wpAnyH_done (by kernel_rfl) ?_ _
      clear hS
      obtain ⟨b11, hb11⟩ : ∃ b11, z.heap.size = b11 := ⟨_, rfl⟩
      rw [hb11] at AX ⊢
      have HB11 := Lib.hid hb11
      have A109 := Lib.hid (A10.out.under HB9.out A10.out.lt)
      have TR9 := Lib.hid (TR3.out.below HB9.out)
      have HROW1 : Hid (rowI s' (.hold r) = hh.map cmP) := by show (s'.at r).1.map cmP = _; rw [HHE.out]
      have HSZ1 : Hid (wr.heap.size < w9.heap.size) := by
        have h1 := HB9.out.size; have h2 := HZS.out; have h3 := HB10.out
        show _ < _
        omega
      clear hb11
      go_wp2_with fail
      refine (of_any t w9).mono ?_
      rintro e zb1 ⟨rfl, hzb⟩
      obtain ⟨bf, hbf⟩ : ∃ bf, w9.heap.size = bf := ⟨_, rfl⟩
      rw [hbf]
      have hBz1 : Below w9.heap.size w9 zb1 := hzb ▸ (Below.refl _ w9).alloc (Nat.le_refl _) _
      have TRZ1 := Lib.hid (TR9.out.below hBz1)
      have AXZ1 := Lib.hid (show At zb1 b11 79 (thA (.slice A1 n1 c1) (.slice A2 n2 c2)) from AX.out.under hBz1 AX.out.lt)
      have A1Z1 := Lib.hid (A109.out.under hBz1 A109.out.lt)
      have hcf : zb1.cell? ⟨bf, 0, none⟩ = some (.int .u64 (t : Int)) := by
        have := (At.new w9 31 #[.int .u64 (t : Int)]).cell 0
        rw [hbf] at this
        rw [hzb]
        exact this
      have hoz : zb1.ownsRow B 54 2 (.slice A1 n1 c1) n1 (cmL hh) := by
        have := TRZ1.out.rows.own (.hold r)
        have e : V (.hold r) = .slice A1 n1 c1 := HV1.out
        have e2 : rowI s' (.hold r) = hh.map cmP := by rw [HROW1.out]
        rw [e, e2, List.length_map, HN1E.out] at this
        exact this
      have howq : ∀ k, (Value.slice A1 n1 c1).ownBlock = some k → k < wr.heap.size := fun k hk => (HO1.out.lt k hk).2
      have HOW1 := Lib.hid howq
      have hbfz : wr.heap.size < bf := by
        have h4 := HSZ1.out
        omega
      have HREM1 := Lib.hid (remove_any 64 #[.pointer (some ⟨bf, 0, none⟩)] (fun c => c.1 == t) ent_of B (.slice A1 n1 c1) hh zb1 (by rw [HN1E.out]; exact hoz)
        (pred_ofX t bf _ zb1 (fun hk => by have := howq _ hk; omega) hcf) (by rw [HN1E.out]; omega) b11 0 _ AXZ1.out rfl)
      have HBF1 := Lib.hid hBz1.size
      clear hzb hbf hcf howq hoz hbfz hBz1
      go_wp2_with fail
      refine HREM1.out.mono ?_
      rintro e y5 ⟨rfl, v8, ho8, hv8, ha8, hm8⟩
      obtain ⟨h8, hq8⟩ : ∃ h8, hh.filter (fun c => !(c.1 == t)) = h8 := ⟨_, rfl⟩
      rw [hq8] at ho8
      obtain ⟨m8, hm8l⟩ : ∃ m8, h8.length = m8 := ⟨_, rfl⟩
      rw [hm8l] at ho8
      obtain ⟨A8, c8, hv8e, _⟩ := pl_own_slice ho8
      subst hv8e
      have hY : ∀ k, (k = b11 ∨ (Value.slice A1 n1 c1).ownBlock = some k) → (V (.hold r)).ownBlock = some k ∨ (¬ TbX g b1 b2 b3 (V) k ∧ wr.heap.size ≤ k) := by
        rintro k (rfl | hk)
        · exact .inr ⟨TRZ1.out.box_ne AXZ1.out ⟨by decide, by decide, by decide⟩, by have h1 := HZS.out; have h2 := HB10.out; have h3 := HB11.out; omega⟩
        · exact .inl (by rw [show V (.hold r) = .slice A1 n1 c1 from HV1.out]; exact hk)
      have TR5 := Lib.hid (TRZ1.out.rowM (.hold r) hm8 hY (v := .slice A8 m8 c8) (l := h8.map cmP) (by rw [List.length_map, hm8l]; exact ho8) (fun k hk => .inl (by rw [show V (.hold r) = .slice A1 n1 c1 from HV1.out, ← hv8]; exact hk)))
      have A105 := Lib.hid (A1Z1.out.mod hm8 (by
        rintro (h | h)
        · have h1 := HZS.out; have h2 := HB11.out; omega
        · have := HOW1.out b10 h; have h2 := HB10.out; omega))
      have AX5 : Hid (At y5 b11 79 (thA (.slice A8 m8 c8) (.slice A2 n2 c2))) := ha8
      have HVB1 := Lib.hid hv8
      have HQ1 := Lib.hid hq8
      have HSZO1 : Hid (wr.heap.size < y5.heap.size) := by
        have h1 := HBF1.out
        have h2 := hm8.size
        have h4 : wr.heap.size < w9.heap.size := HSZ1.out
        show _ < _
        omega
      clear ho8 hv8 ha8 hm8 hY hq8 hm8l HREM1
      have HROW2 : Hid (setF (rowI s') (.hold r) (h8.map cmP) (.queue r) = qq.map cmP) := by
        show _ = _
        rw [setF_ne _ _ (by intro e; cases e)]
        show (s'.at r).2.map cmP = _
        rw [HQE.out]
      have HSZ2 : Hid (wr.heap.size < y5.heap.size) := HSZO1
      have HV2' : Hid (setF V (.hold r) (.slice A8 m8 c8) (.queue r) = .slice A2 n2 c2) := by
        show _ = _
        rw [setF_ne _ _ (by intro e; cases e)]
        exact HV2.out
      go_wp2_with fail
      refine (of_any t y5).mono ?_
      rintro e zb2 ⟨rfl, hzb⟩
      obtain ⟨bf, hbf⟩ : ∃ bf, y5.heap.size = bf := ⟨_, rfl⟩
      rw [hbf]
      have hBz2 : Below y5.heap.size y5 zb2 := hzb ▸ (Below.refl _ y5).alloc (Nat.le_refl _) _
      have TRZ2 := Lib.hid (TR5.out.below hBz2)
      have AXZ2 := Lib.hid (show At zb2 b11 79 (thA (.slice A8 m8 c8) (.slice A2 n2 c2)) from AX5.out.under hBz2 AX5.out.lt)
      have A1Z2 := Lib.hid (A105.out.under hBz2 A105.out.lt)
      have hcf : zb2.cell? ⟨bf, 0, none⟩ = some (.int .u64 (t : Int)) := by
        have := (At.new y5 31 #[.int .u64 (t : Int)]).cell 0
        rw [hbf] at this
        rw [hzb]
        exact this
      have hoz : zb2.ownsRow B 54 2 (.slice A2 n2 c2) n2 (cmL qq) := by
        have := TRZ2.out.rows.own (.queue r)
        have e : setF V (.hold r) (.slice A8 m8 c8) (.queue r) = .slice A2 n2 c2 := HV2'.out
        have e2 : setF (rowI s') (.hold r) (h8.map cmP) (.queue r) = qq.map cmP := by rw [HROW2.out]
        rw [e, e2, List.length_map, HN2E.out] at this
        exact this
      have howq : ∀ k, (Value.slice A2 n2 c2).ownBlock = some k → k < wr.heap.size := fun k hk => (HO2.out.lt k hk).2
      have HOW2 := Lib.hid howq
      have hbfz : wr.heap.size < bf := by
        have h4 := HSZ2.out
        omega
      have HREM2 := Lib.hid (remove_any 64 #[.pointer (some ⟨bf, 0, none⟩)] (fun c => c.1 == t) ent_of B (.slice A2 n2 c2) qq zb2 (by rw [HN2E.out]; exact hoz)
        (pred_ofX t bf _ zb2 (fun hk => by have := howq _ hk; omega) hcf) (by rw [HN2E.out]; omega) b11 1 _ AXZ2.out rfl)
      have HBF2 := Lib.hid hBz2.size
      clear hzb hbf hcf howq hoz hbfz hBz2
      go_wp2_with fail
      refine HREM2.out.mono ?_
      rintro e y6 ⟨rfl, v8, ho8, hv8, ha8, hm8⟩
      obtain ⟨q8, hq8⟩ : ∃ q8, qq.filter (fun c => !(c.1 == t)) = q8 := ⟨_, rfl⟩
      rw [hq8] at ho8
      obtain ⟨m9, hm8l⟩ : ∃ m9, q8.length = m9 := ⟨_, rfl⟩
      rw [hm8l] at ho8
      obtain ⟨A9, c9, hv8e, _⟩ := pl_own_slice ho8
      subst hv8e
      have hY : ∀ k, (k = b11 ∨ (Value.slice A2 n2 c2).ownBlock = some k) → (setF V (.hold r) (.slice A8 m8 c8) (.queue r)).ownBlock = some k ∨ (¬ TbX g b1 b2 b3 (setF V (.hold r) (.slice A8 m8 c8)) k ∧ wr.heap.size ≤ k) := by
        rintro k (rfl | hk)
        · exact .inr ⟨TRZ2.out.box_ne AXZ2.out ⟨by decide, by decide, by decide⟩, by have h1 := HZS.out; have h2 := HB10.out; have h3 := HB11.out; omega⟩
        · exact .inl (by rw [show setF V (.hold r) (.slice A8 m8 c8) (.queue r) = .slice A2 n2 c2 from HV2'.out]; exact hk)
      have TRq := Lib.hid (TRZ2.out.rowM (.queue r) hm8 hY (v := .slice A9 m9 c9) (l := q8.map cmP) (by rw [List.length_map, hm8l]; exact ho8) (fun k hk => .inl (by rw [show setF V (.hold r) (.slice A8 m8 c8) (.queue r) = .slice A2 n2 c2 from HV2'.out, ← hv8]; exact hk)))
      have A106 := Lib.hid (A1Z2.out.mod hm8 (by
        rintro (h | h)
        · have h1 := HZS.out; have h2 := HB11.out; omega
        · have := HOW2.out b10 h; have h2 := HB10.out; omega))
      have AX6 : Hid (At y6 b11 79 (thA (.slice A8 m8 c8) (.slice A9 m9 c9))) := ha8
      have HVB2 := Lib.hid hv8
      have HQ2 := Lib.hid hq8
      have HSZO2 : Hid (wr.heap.size < y6.heap.size) := by
        have h1 := HBF2.out
        have h2 := hm8.size
        have h4 : wr.heap.size < y5.heap.size := HSZ2.out
        show _ < _
        omega
      clear ho8 hv8 ha8 hm8 hY hq8 hm8l HREM2
      go_upto_region 15 with fail
      have hS0 : At y6.drew g 61 (tabA b1 b2 b3) ∧ At y6.drew b10 33 (rsA r) ∧ At y6.drew b11 79 (thA (.slice A8 m8 c8) (.slice A9 m9 c9)) := ⟨TRq.out.gt, A106.out, AX6.out⟩
      refine wp_region_held_drew (S := fun wz => At wz g 61 (tabA b1 b2 b3) ∧ At wz b10 33 (rsA r) ∧ At wz b11 79 (thA (.slice A8 m8 c8) (.slice A9 m9 c9))) (by kernel_rfl) hS0 (fun hS => ?_)
      refine tk 0 hS ?_
      refine tk 1 hS ?_
      refine tk 2 hS ?_
      refine tk 3 hS ?_ (hy := by intro wz hz; have p0 : wz.cell? ⟨g, 0, none⟩ = some (.map (some b1)) := hz.1.cell 0; go_simp <;> with_reducible rfl)
      refine tk (v := rsV r) 4 hS ?_ (hy := by intro wz hz; have p0 : wz.cell? ⟨g, 0, none⟩ = some (.map (some b1)) := hz.1.cell 0; exact exec_load_at 33 (.tmp 10) rfl b10 rfl _ 2 strR rfl hz.2.1)
      refine tk (v := .agg (thA (.slice A8 m8 c8) (.slice A9 m9 c9))) 5 hS ?_ (hy := by intro wz hz; have p0 : wz.cell? ⟨g, 0, none⟩ = some (.map (some b1)) := hz.1.cell 0; exact exec_load_at 79 (.tmp 11) rfl b11 rfl (thA (.slice A8 m8 c8) (.slice A9 m9 c9)) 2 strTh rfl hz.2.2)
      refine wpAnyH_ready (rs := [6]) (by kernel_rfl) (by simp) ?_
      refine AllReadyH.cons rfl (fun K hK => ?_) AllReadyH.nil
      rw [if_pos (by rfl)]
      refine wp_mapStore (.tmp 74) (.tmp 75) (.tmp 76) rfl rfl keyT_res Tryz.underlying57 rfl (TRq.out.below ((Below.refl _ y6).drew)).ms.m1 r rfl HOK.out (thV (.slice A8 m8 c8) (.slice A9 m9 c9)) rfl ?_
      intro w9 hm9 hg9
      have TRp := Lib.hid ((TRq.out.below ((Below.refl _ y6).drew)).put1 r ((h8, q8)) (.slice A8 m8 c8) (.slice A9 m9 c9) hm9 hg9)
      have ngm := TRq.out.ms.m1
      obtain ⟨es9, cl9, hes9, _⟩ := ngm
      have hS9 : At w9 g 61 (tabA b1 b2 b3) ∧ At w9 b10 33 (rsA r) ∧ At w9 b11 79 (thA (.slice A8 m8 c8) (.slice A9 m9 c9)) := ⟨hS0.1.grown hg9 (fun e => at_map TRq.out.gt hes9 (Option.some.inj e)), hS0.2.1.grown hg9 (fun e => at_map A106.out hes9 (Option.some.inj e)), hS0.2.2.grown hg9 (fun e => at_map AX6.out hes9 (Option.some.inj e))⟩
      clear hm9 hes9
      refine hK.out _ _ (hS9) (fun hT => ?_)
      clear hK hS
      have hS := hT
      clear hT
      refine wpAnyH_done (by kernel_rfl) ?_ _
      obtain ⟨wp, hwp⟩ : ∃ wp, wp = w9 := ⟨_, rfl⟩
      subst hwp
      have A107 := Lib.hid hS9.2.1
      have hdr : dropI s' r t = { s' with th := upd s'.th r (some (h8, q8)) } := by
        unfold dropI
        rw [HHE.out, HQE.out, ← HQ1.out, ← HQ2.out]
        rfl
      have TT1 : Hid (Tt wp g (dropI s' r t) (TbX g b1 b2 b3 V)) := by
        show Tt _ _ _ _
        rw [hdr]
        refine th_tt (s := s') (x := (h8, q8)) TRp.out rfl rfl (fun i => rfl) (fun i => rfl) HV.out.n1 HV.out.n2 (fun k hk => ?_) (fun k hk => ?_)
        · rcases hk with h | h | h | h | ⟨i, hi⟩
          · exact .inl h
          · exact .inr (.inl h)
          · exact .inr (.inr (.inl h))
          · exact .inr (.inr (.inr (.inl h)))
          · refine .inr (.inr (.inr (.inr ?_)))
            by_cases e : i = .queue r
            · subst e
              rw [setF_same, HVB2.out] at hi
              exact ⟨.queue r, by rw [HV2.out]; exact hi⟩
            · rw [setF_ne _ _ e] at hi
              by_cases e2 : i = .hold r
              · subst e2
                rw [setF_same, HVB1.out] at hi
                exact ⟨.hold r, by rw [HV1.out]; exact hi⟩
              · rw [setF_ne _ _ e2] at hi
                exact ⟨i, hi⟩
        · exact Nat.lt_of_lt_of_le (HV.out.lt k hk) TRp.out.mod.size
      have hmod4 : Mod X1 w4 wp := HMOD.out.sub TRp.out.mod HXE.out
      have HM4p := Lib.hid hmod4
      have hql := HG.out.qlen HS2.out r
      have HQL := Lib.hid hql
      obtain ⟨PP, hPP⟩ : ∃ PP, grantA (dropI s' r t) r = PP := ⟨_, rfl⟩
      have HGR := Lib.hid (grant_any (TbX g b1 b2 b3 V) g (dropI s' r t) r wp TT1.out (fun k hk => by
          rcases HXE.out k hk with h | h
          · exact HX42.out k h
          · have := HT4.out.size; omega) (tab_mod HT4.out hmod4 HX42.out) HOK.out (fun d hd => HOK2.out r d (by
          rw [drop_at] at hd
          have hd2 : d ∈ notT t (s'.at r).2 := hd
          have h1 : d ∈ (s'.at r).2 := (List.mem_filter.1 hd2).1
          exact (HG.out.q r).subset h1)) (N + k * N) (sm_drop HSMK.out r t) (by omega))
      rw [hPP] at HGR
      have HPP := Lib.hid hPP
      have hpn : PP.2.length ≤ N := by
        rw [← hPP]
        exact Nat.le_trans (grant_len2 r _ _) hql
      have hof := own_mod HG.out.own TRp.out.mod (fun k hk => HFR.out k (by rw [HNF.out] at hk; exact hk))
      rw [HNF.out] at hof
      have OWF := Lib.hid hof
      clear hS hS9 hg9 hS0 hmod4 hql hPP hdr hof TBz TR3 TR9 TR5 TRq TRZ1 TRZ2 AXZ1 AXZ2 A1Z1 A1Z2 A105 A106 A109 AX AX5 AX6 A10 HBz
      go_wp2_with (first | refine wpList_load_at 33 79 (.tmp 10) rfl rfl rfl b10 rfl _ 2 strR rfl A107.out ?_)
      refine HGR.out.mono ?_
      rintro e y9 ⟨v, rfl, hov, htv⟩
      obtain ⟨Av, cv, rfl, _⟩ := own_slice hov
      have LV := Lib.hid (Lies.of_own hov)
      have hof9 := own_mod OWF.out htv.choose_spec.2.2 HFR.out
      have OWF9 := Lib.hid hof9
      have HTW := Lib.hid (htv.step HXE.out HM4p.out)
      have hsz9 : w4.heap.size ≤ y9.heap.size := Nat.le_trans HM4p.out.size htv.choose_spec.2.2.size
      have HSZ9 := Lib.hid hsz9
      obtain ⟨pn, hpne⟩ : ∃ pn, PP.2.length = pn := ⟨_, rfl⟩
      rw [hpne] at hpn LV ⊢
      have HPN := Lib.hid hpne
      clear hov htv hof9 hsz9 hpne HGR
      obtain ⟨i0, hi0, hz0, hz1, hz2⟩ := u_info
      go_wp2_with (at_builtin; refine wpList_app _ rfl (.tmp 77) (.tmp 80) 37 rfl w4.heap.size 31 i0 (.int .u64 0) 1 8 Tryz.underlying37 hi0 hz0 hz1 hz2 rfl (by omega) (.slice AF nF cF) nF (UC F) rfl OWF9.out y9.heap.size Av pn cv (UC PP.2) rfl LV.out (UC_one _) (by simp only [maxLen]; omega) (by omega) HSZ9.out ?_; intro v5 w5 ho5 hg5)
      obtain ⟨A5, c5, rfl, _⟩ := own_slice ho5
      have hl5 : (F ++ PP.2).length = nF + pn := by rw [List.length_append, HNF.out, HPN.out]
      refine ⟨⟨k + 1, PP.1, F ++ PP.2, A5, c5, hkl, by rw [hl5], by go_num, ?_⟩, ?_⟩
      · have hn := HG.out.next HS2.out hkl (p := PP) (by rw [HRE.out]; exact HPP.out) (HTW.out.row OWF9.out (Nat.le_refl _) hg5) (v' := .slice A5 (nF + pn) c5) (by rw [HNF.out, HPN.out]; exact ho5)
        rw [hl5]
        exact hn
      · simp [intOf]
        omega
    · have hkn : k = l.length := by have := HLM.out; omega
      have HD := Lib.hid (HG.out.done hkn)
      obtain rfl : k = nm := by have := HLM.out; omega
      clear hkn
      go_wp2_with fail
      go_ret
      have e : releaseI s t l = (s', F) := HD.out
      refine ⟨l, HP.out, HPW.out, _, rfl, ?_, ?_⟩
      · rw [e]
        exact own_base HG.out.own HMX.out.size
      · rw [e]
        exact HG.out.tw.step HXX.out HMX.out
end Go.Proofs.YthbifccankfngaaGreatDoor
