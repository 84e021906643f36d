/-
  The law LockBlocks whatever came in.
  Conditions: none beyond those that each theorem names.
-/
import Derived.Test.YthbifccankfngaaGreatDoorOC0ZQ
namespace Go.Proofs.YthbifccankfngaaGreatDoor
open Go.RowKit Go.Shelf
attribute [local go_sem] Oper.semAt_some
set_option maxRecDepth 20000

set_option maxHeartbeats 25600000 in
theorem blocks_small (AO : Option Addr) (N cO : Nat) (os : List Opx) (tx : Nat) (htx : U64 tx) (w : World) (hO : OZ w AO N os) (hi : ∀ o ∈ os, OpOk o) (hT : Tab w) (hN60 : N ≤ 60) :
    Calls Tryz.prog 5 #[.slice AO N cO, .int .u64 (tx : Int)] w (RetB w (.bool true)) := by
  have d1 : decide ((60 : Int) < (N : Int)) = false := by simp; omega
  have HO := Lib.hid hO
  have HI := Lib.hid hi
  have HTB := Lib.hid hT
  have HTX := Lib.hid htx
  clear hO hi hT htx
  go_enter Tryz.func5, Tryz.ntmps5
  go_wp2_with fail
  refine (new_any w).mono ?_
  rintro e z1 ⟨g, X0, rfl, hg, hx, hb⟩
  have HG := Lib.hid hg
  have HX := Lib.hid hx
  have HB := Lib.hid hb
  clear hg hx hb
  go_upto_region 7 with ((with_reducible show wpList _ _ _ (⟨none, _, _, _, _, _⟩ :: _) _ _); refine wpList_store_new 28 (.tmp 6) (.tmp 22) rfl rfl rfl z1.heap.size z1 rfl rfl (rtA none none 0 0 0 0) (rtA none none 0 0 0 0) 2 rfl strT rfl rfl (rtA_one _ _ _ _ _ _) rfl ?_)
  have hal : Below z1.heap.size z1 (z1.alloc (.cells (rtA none none 0 0 0 0) 28)) := (Below.refl _ z1).alloc (Nat.le_refl _) _
  have L0 := Lib.hid (lds_start HTB.out HG.out HX.out HB.out hal (At.new z1 _ _))
  have hwb := HB.out.size
  generalize z1.alloc (.cells (rtA none none 0 0 0 0) 28) = z2 at L0 ⊢
  generalize z1.heap.size = b6 at L0 hwb ⊢
  clear hal HG HX HB
  go_wp2_with fail
  go_loopw [7] (fun i z => LsL w g b6 N i z) (fun i _ => N - (intOf i).toNat)
  case atStart => exact ⟨0, X0, emptyS, none, 0, 0, none, 0, 0, ⟨[], []⟩, Nat.zero_le _, rfl, rfl, L0⟩
  case round =>
    clear L0
    obtain ⟨k, X, s, A1, n1, c1, A2, n2, c2, u, hk, _, rfl, HL⟩ := hrel
    by_cases hlt : k < N
    · obtain ⟨bO, oO, hl, rfl, hbO, hr⟩ := HO.out.at hlt
      obtain ⟨o, ho⟩ : ∃ o, os[k] = o := ⟨_, rfl⟩
      have HOK : Hid (OpOk o) := ho ▸ HI.out _ (List.getElem_mem hl)
      rw [ho] at hr
      have R0 := Lib.hid hr
      have hbr : bO < wr.heap.size := Nat.lt_of_lt_of_le hbO HL.out.low.size
      have RD : Hid (wr.drew.rangeAt bO (oO + k * 5) (opV o)) := pl_rangeAt_block R0.out (HL.out.low.drew.block bO hbO)
      have C0 := Lib.hid ((Below.refl wr.heap.size wr).drew)
      have A4D := Lib.hid (HL.out.below C0.out).box
      have HDO := Lib.hid (do_ready HL.out (by omega) o HOK.out)
      clear hr ho
      go_upto_region 10 with fail
      refine wp_region_held_drew (S := fun wz => wz.rangeAt bO (oO + k * 5) (opV o)) (by kernel_rfl) RD.out (fun hS => ?_)
      refine tk 0 hS ?_
      refine tk 2 hS ?_
      refine tk 3 hS ?_
      refine tk 4 hS ?_
      refine tk (v := .agg (opA o)) 5 hS ?_ (hy := by intro wz hz; exact exec_load_in 35 (.tmp 34) rfl bO (oO + k * 5) rfl (opV o) 5 strOp rfl hz)
      refine wpAnyH_ready (rs := [1]) (by kernel_rfl) (by simp) ?_
      refine AllReadyH.cons rfl (fun K hK => ?_) AllReadyH.nil
      rw [if_pos (by rfl)]
      refine wp_exec 31 rfl (exec_load_at 28 (.tmp 6) rfl b6 rfl (rtA A1 A2 n1 c1 n2 c2) 2 strT rfl A4D.out) ?_
      refine hK.out _ _ (hS) (fun hT => ?_)
      clear hK hS
      have hS := hT
      clear hT
      refine wpAnyH_ready (rs := [6]) (by kernel_rfl) (by simp) ?_
      refine AllReadyH.cons rfl (fun K hK => ?_) AllReadyH.nil
      go_simp
      refine (HDO.out _ C0.out).mono ?_
      rintro e y ⟨X', s', B1, m1, d1, B2, m2, d2, u', rfl, h2, q1, q2, q3, q4⟩
      have H2 := Lib.hid h2
      have Q1 := Lib.hid q1
      have Q2 := Lib.hid q2
      have Q3 := Lib.hid q3
      have Q4 := Lib.hid q4
      have RY : Hid (y.rangeAt bO (oO + k * 5) (opV o)) := pl_rangeAt_block R0.out (q1.block bO hbO)
      clear h2 q1 q2 q3 q4
      refine hK.out _ _ (RY.out) (fun hT => ?_)
      clear hK hS
      have hS := hT
      clear hT
      refine tk 7 hS ?_
      refine tk 8 hS ?_
      refine tk 9 hS ?_
      refine wpAnyH_ready (rs := [10]) (by kernel_rfl) (by simp) ?_
      refine AllReadyH.cons rfl (fun K hK => ?_) AllReadyH.nil
      rw [if_pos (by rfl)]
      refine wp_store_at 28 (.tmp 6) (.tmp 37) rfl rfl b6 rfl (rtA B1 B2 m1 d1 m2 d2) (rtA A1 A2 n1 c1 n2 c2) 2 rfl strT rfl rfl (rtA_one _ _ _ _ _ _) Q2.out ?_
      intro w9 ha9 hg9
      have HL9 := Lib.hid (LdS.put HTB.out hwb H2.out Q1.out Q2.out Q3.out Q4.out ha9 hg9)
      have R9 : Hid (w9.rangeAt bO (oO + k * 5) (opV o)) := pl_rangeAt_block R0.out (HL9.out.low.block bO hbO)
      clear ha9 hg9
      refine hK.out _ _ (R9.out) (fun hT => ?_)
      clear hK hS
      have hS := hT
      clear hT
      refine wpAnyH_done (by kernel_rfl) ?_ _
      clear hS R9 RY H2 Q1 Q2 Q3 Q4
      go_wp2_with fail
      exact ⟨⟨k + 1, X', s', B1, m1, d1, B2, m2, d2, u', by omega, rfl, by go_num, HL9⟩, by simp [intOf]; omega⟩
    · obtain rfl : k = N := by omega
      have hk200 : k ≤ 200 := by omega
      go_wp2_with fail
      refine (txns_any AO k cO os wr (HO.out.below HL.out.low) hN60).mono ?_
      rintro e y0 ⟨AX, cX, rfl, hlx, hb0⟩
      have HLX := Lib.hid hlx
      have HL0 := Lib.hid (HL.out.below hb0)
      have HU := Lib.hid (txL_ok HI.out)
      generalize txL os = al at HLX HU
      obtain ⟨nX, hnX⟩ : ∃ nX, k + 1 = nX := ⟨_, rfl⟩
      have enX : (k : Int) + 1 = (nX : Int) := by omega
      rw [hnX] at HLX
      try rw [hnX]
      have hnX2 : nX ≤ 61 := by omega
      clear hlx hb0 HL hnX
      have hla := HLX.out.len
      rw [UC_length, Nat.mul_one] at hla
      obtain ⟨bt, ot, _, hAX, hbt0, _⟩ := HLX.out.uc (k := 0) (by omega)
      have HCX : Hid (∀ (j : Nat) (hj : j < al.length), y0.cell? ⟨bt, ot + j, none⟩ = some (.int .u64 (al[j] : Int))) := fun j hj => by
        obtain ⟨b', o', _, h1, _, h2⟩ := HLX.out.uc (k := j) (by omega)
        rw [hAX] at h1
        injection h1 with h1
        injection h1 with h1 h3
        rw [h1, h3]
        exact h2
      subst hAX
      clear HLX
      go_wp2_with fail
      go_loopw [9] (fun i wr => ∃ j : Nat, j ≤ nX ∧ i = .int .i64 (j : Int) ∧ Hid (Below y0.heap.size y0 wr)) (fun i _ => nX - (intOf i).toNat)
      case atStart => exact ⟨0, Nat.zero_le _, by go_num, Lib.hid (Below.refl _ _)⟩
      case round =>
        obtain ⟨j, hj, rfl, HR⟩ := hrel
        have HLR := Lib.hid (HL0.out.below HR.out)
        by_cases hlj : j < nX
        · obtain ⟨t, hte⟩ : ∃ t, al[j]'(by omega) = t := ⟨_, rfl⟩
          have hct := HCX.out j (by omega)
          rw [hte] at hct
          have CT := Lib.hid hct
          have HTU : Hid (U64 t) := hte ▸ HU.out _ (List.getElem_mem (show j < al.length by omega))
          have p1 : wr.cell? ⟨bt, ot + j, none⟩ = some (.int .u64 (t : Int)) := (HR.out.cell (p := ⟨bt, ot + j, none⟩) hbt0).trans CT.out
          clear hct hte
          go_upto_region 16 with fail
          refine (blocks_l HLR.out hk200 t HTU.out).mono ?_
          rintro e y1 ⟨AL, nl, cl, l, rfl, hll, hnl, hbk, hlz, hb⟩
          have HR1 := Lib.hid (HR.out.trans (hb.mono HR.out.size))
          have HL1 := Lib.hid (HL0.out.below HR1.out)
          have hpos := blk_pos hbk hll
          have HLL := Lib.hid hll
          have HBK := Lib.hid hbk
          have HLZ := Lib.hid hlz
          have CT1 : Hid (y1.cell? ⟨bt, ot + j, none⟩ = some (.int .u64 (t : Int))) := (HR1.out.cell (p := ⟨bt, ot + j, none⟩) hbt0).trans CT.out
          have HCY : Hid (∀ (j : Nat) (hj : j < al.length), y1.cell? ⟨bt, ot + j, none⟩ = some (.int .u64 (al[j] : Int))) := fun j hj => (HR1.out.cell (p := ⟨bt, ot + j, none⟩) hbt0).trans (HCX.out j hj)
          have hbt1 : bt < y1.heap.size := Nat.lt_of_lt_of_le hbt0 HR1.out.size
          clear hll hbk hlz hb HLR HR CT p1
          obtain ⟨ix, hix⟩ : ∃ ix, wIdx u.queue t = ix := ⟨_, rfl⟩
          rw [hix] at hpos
          obtain ⟨cg, hcg⟩ : ∃ cg, decide (0 ≤ ix) = cg := ⟨_, rfl⟩
          rw [hcg] at hpos
          have hposn : decide (0 < nl) = cg := by rw [← hpos]; exact decide_eq_decide.2 (by omega)
          have HIX := Lib.hid hix
          clear hix
          go_upto_region 16 with fail
          go_cut [63] from 53 to 63 (fun s63 wx => s63 = .bool false ∧ Hid (Below y1.heap.size y1 wx))
          case first =>
            have HLR := HL1
            have hbtr := hbt1
            cases cg
            · skip
              refine wp_region_held_drew (S := Below y1.heap.size y1) (by kernel_rfl) ((Below.refl _ y1).drew) (fun hS => ?_)
              refine tk 0 hS ?_
              refine tk 1 hS ?_
              refine tk 2 hS ?_
              refine tk (v := .agg (rtA A1 A2 n1 c1 n2 c2)) 3 hS ?_ (hy := by intro wz hz; have q1 : wz.cell? ⟨bt, ot + j, none⟩ = some (.int .u64 (t : Int)) := (hz.cell (p := ⟨bt, ot + j, none⟩) hbtr).trans CT1.out; exact exec_load_at 28 (.tmp 6) rfl b6 rfl (rtA A1 A2 n1 c1 n2 c2) 2 strT rfl (HLR.out.below hz).box)
              refine tk 4 hS ?_
              refine tk 5 hS ?_
              refine tk 6 hS ?_
              refine tk 7 hS ?_ (hy := by intro wz hz; have q1 : wz.cell? ⟨bt, ot + j, none⟩ = some (.int .u64 (t : Int)) := (hz.cell (p := ⟨bt, ot + j, none⟩) hbtr).trans CT1.out; go_simp <;> with_reducible rfl)
              refine wpAnyH_ready (rs := [8]) (by kernel_rfl) (by simp) ?_
              refine AllReadyH.cons rfl (fun K hK => ?_) AllReadyH.nil
              go_simp
              refine (rwaits_l (HLR.out.below hS) hk200 t ix HIX.out).mono ?_
              rintro e yw ⟨rfl, hb⟩
              have YW := Lib.hid (hS.trans (hb.mono hS.size))
              refine hK.out _ _ (YW.out) (fun hT => ?_)
              clear hK hb hS
              have hS := hT
              clear hT
              refine tk 9 hS ?_
              refine tk 10 hS ?_
              refine wpAnyH_done (by kernel_rfl) ?_ _
              have HSS := Lib.hid hS
              clear hS
              go_wp2_with fail
              go_meet
              exact ⟨rfl, HSS⟩
            · skip
              refine wp_region_held_drew (S := Below y1.heap.size y1) (by kernel_rfl) ((Below.refl _ y1).drew) (fun hS => ?_)
              refine tk 0 hS ?_
              refine tk 1 hS ?_
              refine tk 2 hS ?_
              refine tk (v := .agg (rtA A1 A2 n1 c1 n2 c2)) 3 hS ?_ (hy := by intro wz hz; have q1 : wz.cell? ⟨bt, ot + j, none⟩ = some (.int .u64 (t : Int)) := (hz.cell (p := ⟨bt, ot + j, none⟩) hbtr).trans CT1.out; exact exec_load_at 28 (.tmp 6) rfl b6 rfl (rtA A1 A2 n1 c1 n2 c2) 2 strT rfl (HLR.out.below hz).box)
              refine tk 4 hS ?_
              refine tk 5 hS ?_
              refine tk 6 hS ?_
              refine tk 7 hS ?_ (hy := by intro wz hz; have q1 : wz.cell? ⟨bt, ot + j, none⟩ = some (.int .u64 (t : Int)) := (hz.cell (p := ⟨bt, ot + j, none⟩) hbtr).trans CT1.out; go_simp <;> with_reducible rfl)
              refine wpAnyH_ready (rs := [8]) (by kernel_rfl) (by simp) ?_
              refine AllReadyH.cons rfl (fun K hK => ?_) AllReadyH.nil
              go_simp
              refine (rwaits_l (HLR.out.below hS) hk200 t ix HIX.out).mono ?_
              rintro e yw ⟨rfl, hb⟩
              have YW := Lib.hid (hS.trans (hb.mono hS.size))
              refine hK.out _ _ (YW.out) (fun hT => ?_)
              clear hK hb hS
              have hS := hT
              clear hT
              refine tk 9 hS ?_
              refine tk 10 hS ?_
              refine wpAnyH_done (by kernel_rfl) ?_ _
              have HSS := Lib.hid hS
              clear hS
              go_wp2_with fail
              go_meet
              exact ⟨rfl, HSS⟩
          case rest =>
          obtain ⟨rfl, HS1⟩ := hcut
          clear hpos hposn hcg HIX
          go_wp2_with fail
          go_loopw [11] (fun i wr => ∃ i' : Nat, i' ≤ nl ∧ i = .int .i64 (i' : Int) ∧ Hid (Below y1.heap.size y1 wr)) (fun i _ => nl - (intOf i).toNat)
          case atStart => exact ⟨0, Nat.zero_le _, by go_num, HS1⟩
          case round =>
            clear HS1
            obtain ⟨i, hi, rfl, HR3⟩ := hrel
            have HLR := Lib.hid (HL1.out.below HR3.out)
            have hbtr : bt < wr.heap.size := Nat.lt_of_lt_of_le hbt1 HR3.out.size
            by_cases hil : i < nl
            · obtain ⟨bl, ol, hl, hAL, hbl0, hcl⟩ := HLZ.out.uc hil
              have hblr : bl < wr.heap.size := Nat.lt_of_lt_of_le hbl0 HR3.out.size
              obtain ⟨y, hy⟩ : ∃ y, l[i] = y := ⟨_, rfl⟩
              rw [hy] at hcl
              have HBT : Hid (blocksR u t y = true) := (HBK.out.mem y).1 (hy ▸ List.getElem_mem hl)
              have hyt : y ≠ t := fun e => by
                have h1 := HBT.out
                rw [e] at h1
                unfold blocksR at h1
                revert h1
                cases waitR u.queue t <;> simp
              have e1 : ((y : Int) == (t : Int)) = false := by rw [nat_beq]; simpa using hyt
              have CLR : Hid (wr.cell? ⟨bl, ol + i, none⟩ = some (.int .u64 (y : Int))) := (HR3.out.cell (p := ⟨bl, ol + i, none⟩) hbl0).trans hcl
              have CTR : Hid (wr.cell? ⟨bt, ot + j, none⟩ = some (.int .u64 (t : Int))) := (HR3.out.cell (p := ⟨bt, ot + j, none⟩) hbt1).trans CT1.out
              have HY := Lib.hid hy
              clear hcl hyt hy
              by_cases h0 : i = 0
              · have d0 : decide ((0 : Int) < (i : Int)) = false := by simp; omega
                have d0n : decide (0 < i) = false := by simp; omega
                subst hAL
                clear h0
                go_upto_region 21 with fail
                refine wp_region_held_drew (S := Below wr.heap.size wr) (by kernel_rfl) ((Below.refl _ wr).drew) (fun hS => ?_)
                refine tk 0 hS ?_
                refine tk 1 hS ?_
                refine tk 2 hS ?_
                refine sk 3 hS ?_
                refine sk 4 hS ?_
                refine sk 5 hS ?_
                refine sk 6 hS ?_
                refine sk 7 hS ?_
                refine sk 8 hS ?_
                refine sk 9 hS ?_
                refine sk 10 hS ?_
                refine sk 11 hS ?_
                refine sk 12 hS ?_
                refine tk 13 hS ?_
                refine tk 14 hS ?_
                refine tk 15 hS ?_
                refine tk 16 hS ?_
                refine tk 17 hS ?_
                refine tk 18 hS ?_ (hy := by intro wz hz; have q1 : wz.cell? ⟨bt, ot + j, none⟩ = some (.int .u64 (t : Int)) := (hz.cell (p := ⟨bt, ot + j, none⟩) hbtr).trans CTR.out; have q2 : wz.cell? ⟨bl, ol + i, none⟩ = some (.int .u64 (y : Int)) := (hz.cell (p := ⟨bl, ol + i, none⟩) hblr).trans CLR.out; go_simp <;> with_reducible rfl)
                refine tk 19 hS ?_
                refine tk 20 hS ?_
                refine tk 21 hS ?_
                refine tk 22 hS ?_ (hy := by intro wz hz; have q1 : wz.cell? ⟨bt, ot + j, none⟩ = some (.int .u64 (t : Int)) := (hz.cell (p := ⟨bt, ot + j, none⟩) hbtr).trans CTR.out; have q2 : wz.cell? ⟨bl, ol + i, none⟩ = some (.int .u64 (y : Int)) := (hz.cell (p := ⟨bl, ol + i, none⟩) hblr).trans CLR.out; go_simp <;> with_reducible rfl)
                refine tk 23 hS ?_
                refine tk 24 hS ?_
                refine tk 25 hS ?_
                refine tk (v := .agg (rtA A1 A2 n1 c1 n2 c2)) 26 hS ?_ (hy := by intro wz hz; have q1 : wz.cell? ⟨bt, ot + j, none⟩ = some (.int .u64 (t : Int)) := (hz.cell (p := ⟨bt, ot + j, none⟩) hbtr).trans CTR.out; have q2 : wz.cell? ⟨bl, ol + i, none⟩ = some (.int .u64 (y : Int)) := (hz.cell (p := ⟨bl, ol + i, none⟩) hblr).trans CLR.out; exact exec_load_at 28 (.tmp 6) rfl b6 rfl (rtA A1 A2 n1 c1 n2 c2) 2 strT rfl (HLR.out.below hz).box)
                refine tk 27 hS ?_
                refine tk 28 hS ?_
                refine tk 29 hS ?_
                refine tk 30 hS ?_ (hy := by intro wz hz; have q1 : wz.cell? ⟨bt, ot + j, none⟩ = some (.int .u64 (t : Int)) := (hz.cell (p := ⟨bt, ot + j, none⟩) hbtr).trans CTR.out; have q2 : wz.cell? ⟨bl, ol + i, none⟩ = some (.int .u64 (y : Int)) := (hz.cell (p := ⟨bl, ol + i, none⟩) hblr).trans CLR.out; go_simp <;> with_reducible rfl)
                refine tk 31 hS ?_
                refine tk 32 hS ?_
                refine tk 33 hS ?_
                refine tk 34 hS ?_ (hy := by intro wz hz; have q1 : wz.cell? ⟨bt, ot + j, none⟩ = some (.int .u64 (t : Int)) := (hz.cell (p := ⟨bt, ot + j, none⟩) hbtr).trans CTR.out; have q2 : wz.cell? ⟨bl, ol + i, none⟩ = some (.int .u64 (y : Int)) := (hz.cell (p := ⟨bl, ol + i, none⟩) hblr).trans CLR.out; go_simp <;> with_reducible rfl)
                refine wpAnyH_ready (rs := [35]) (by kernel_rfl) (by simp) ?_
                refine AllReadyH.cons rfl (fun K hK => ?_) AllReadyH.nil
                go_simp
                refine (rblocks_l (HLR.out.below hS) hk200 t y true HBT.out).mono ?_
                rintro e yw ⟨rfl, hb⟩
                have YW := Lib.hid (hS.trans (hb.mono hS.size))
                refine hK.out _ _ (YW.out) (fun hT => ?_)
                clear hK hb hS
                have hS := hT
                clear hT
                refine tk 36 hS ?_
                refine tk 37 hS ?_
                refine wpAnyH_done (by kernel_rfl) ?_ _
                have HSS := Lib.hid (HR3.out.trans (hS.mono HR3.out.size))
                clear hS
                go_wp2_with fail
                exact ⟨⟨i + 1, by omega, by go_num, HSS⟩, by simp [intOf]; omega⟩
              · have d0 : decide ((0 : Int) < (i : Int)) = true := by simp; omega
                have d0n : decide (0 < i) = true := by simp; omega
                obtain ⟨i1, hi1⟩ : ∃ i1, i - 1 = i1 := ⟨_, rfl⟩
                have ei1 : (i : Int) - 1 = (i1 : Int) := by omega
                have wi1 := wrapN (k := i1) (by omega)
                have xi1 : i1 < i ∧ i ≤ i1 + 1 := by omega
                have HEi1 := Lib.hid hi1
                clear hi1
                obtain ⟨_, _, hl1, hAL1, _, hcp⟩ := HLZ.out.uc (k := i1) (by omega)
                rw [hAL] at hAL1
                injection hAL1 with hAL1
                injection hAL1 with hb1 ho1
                rw [← hb1, ← ho1] at hcp
                obtain ⟨x, hx⟩ : ∃ x, l[i1] = x := ⟨_, rfl⟩
                rw [hx] at hcp
                have CPR : Hid (wr.cell? ⟨bl, ol + i1, none⟩ = some (.int .u64 (x : Int))) := (HR3.out.cell (p := ⟨bl, ol + i1, none⟩) hbl0).trans hcp
                have hxy : x < y := by
                  have := List.pairwise_iff_getElem.1 HBK.out.up i1 i hl1 hl (by omega)
                  rw [hx, HY.out] at this
                  exact this
                have d5 : decide ((y : Int) ≤ (x : Int)) = false := by simp; omega
                have d5n : decide (y ≤ x) = false := by simp; omega
                have hbn : i1 < nl := by omega
                subst hAL
                clear hcp hb1 ho1 hx h0
                go_upto_region 21 with fail
                refine wp_region_held_drew (S := Below wr.heap.size wr) (by kernel_rfl) ((Below.refl _ wr).drew) (fun hS => ?_)
                refine tk 0 hS ?_
                refine tk 1 hS ?_
                refine tk 2 hS ?_
                refine tk 3 hS ?_
                refine tk 4 hS ?_
                refine tk 5 hS ?_
                refine tk 6 hS ?_
                refine tk 7 hS ?_ (hy := by intro wz hz; have q1 : wz.cell? ⟨bt, ot + j, none⟩ = some (.int .u64 (t : Int)) := (hz.cell (p := ⟨bt, ot + j, none⟩) hbtr).trans CTR.out; have q2 : wz.cell? ⟨bl, ol + i, none⟩ = some (.int .u64 (y : Int)) := (hz.cell (p := ⟨bl, ol + i, none⟩) hblr).trans CLR.out; have q3 : wz.cell? ⟨bl, ol + i1, none⟩ = some (.int .u64 (x : Int)) := (hz.cell (p := ⟨bl, ol + i1, none⟩) hblr).trans CPR.out; go_simp <;> with_reducible rfl)
                refine tk 8 hS ?_
                refine tk 9 hS ?_
                refine tk 10 hS ?_
                refine tk 11 hS ?_ (hy := by intro wz hz; have q1 : wz.cell? ⟨bt, ot + j, none⟩ = some (.int .u64 (t : Int)) := (hz.cell (p := ⟨bt, ot + j, none⟩) hbtr).trans CTR.out; have q2 : wz.cell? ⟨bl, ol + i, none⟩ = some (.int .u64 (y : Int)) := (hz.cell (p := ⟨bl, ol + i, none⟩) hblr).trans CLR.out; have q3 : wz.cell? ⟨bl, ol + i1, none⟩ = some (.int .u64 (x : Int)) := (hz.cell (p := ⟨bl, ol + i1, none⟩) hblr).trans CPR.out; go_simp <;> with_reducible rfl)
                refine tk 12 hS ?_
                refine tk 13 hS ?_
                refine tk 14 hS ?_
                refine tk 15 hS ?_
                refine tk 16 hS ?_
                refine tk 17 hS ?_
                refine tk 18 hS ?_ (hy := by intro wz hz; have q1 : wz.cell? ⟨bt, ot + j, none⟩ = some (.int .u64 (t : Int)) := (hz.cell (p := ⟨bt, ot + j, none⟩) hbtr).trans CTR.out; have q2 : wz.cell? ⟨bl, ol + i, none⟩ = some (.int .u64 (y : Int)) := (hz.cell (p := ⟨bl, ol + i, none⟩) hblr).trans CLR.out; have q3 : wz.cell? ⟨bl, ol + i1, none⟩ = some (.int .u64 (x : Int)) := (hz.cell (p := ⟨bl, ol + i1, none⟩) hblr).trans CPR.out; go_simp <;> with_reducible rfl)
                refine tk 19 hS ?_
                refine tk 20 hS ?_
                refine tk 21 hS ?_
                refine tk 22 hS ?_ (hy := by intro wz hz; have q1 : wz.cell? ⟨bt, ot + j, none⟩ = some (.int .u64 (t : Int)) := (hz.cell (p := ⟨bt, ot + j, none⟩) hbtr).trans CTR.out; have q2 : wz.cell? ⟨bl, ol + i, none⟩ = some (.int .u64 (y : Int)) := (hz.cell (p := ⟨bl, ol + i, none⟩) hblr).trans CLR.out; have q3 : wz.cell? ⟨bl, ol + i1, none⟩ = some (.int .u64 (x : Int)) := (hz.cell (p := ⟨bl, ol + i1, none⟩) hblr).trans CPR.out; go_simp <;> with_reducible rfl)
                refine tk 23 hS ?_
                refine tk 24 hS ?_
                refine tk 25 hS ?_
                refine tk (v := .agg (rtA A1 A2 n1 c1 n2 c2)) 26 hS ?_ (hy := by intro wz hz; have q1 : wz.cell? ⟨bt, ot + j, none⟩ = some (.int .u64 (t : Int)) := (hz.cell (p := ⟨bt, ot + j, none⟩) hbtr).trans CTR.out; have q2 : wz.cell? ⟨bl, ol + i, none⟩ = some (.int .u64 (y : Int)) := (hz.cell (p := ⟨bl, ol + i, none⟩) hblr).trans CLR.out; have q3 : wz.cell? ⟨bl, ol + i1, none⟩ = some (.int .u64 (x : Int)) := (hz.cell (p := ⟨bl, ol + i1, none⟩) hblr).trans CPR.out; exact exec_load_at 28 (.tmp 6) rfl b6 rfl (rtA A1 A2 n1 c1 n2 c2) 2 strT rfl (HLR.out.below hz).box)
                refine tk 27 hS ?_
                refine tk 28 hS ?_
                refine tk 29 hS ?_
                refine tk 30 hS ?_ (hy := by intro wz hz; have q1 : wz.cell? ⟨bt, ot + j, none⟩ = some (.int .u64 (t : Int)) := (hz.cell (p := ⟨bt, ot + j, none⟩) hbtr).trans CTR.out; have q2 : wz.cell? ⟨bl, ol + i, none⟩ = some (.int .u64 (y : Int)) := (hz.cell (p := ⟨bl, ol + i, none⟩) hblr).trans CLR.out; have q3 : wz.cell? ⟨bl, ol + i1, none⟩ = some (.int .u64 (x : Int)) := (hz.cell (p := ⟨bl, ol + i1, none⟩) hblr).trans CPR.out; go_simp <;> with_reducible rfl)
                refine tk 31 hS ?_
                refine tk 32 hS ?_
                refine tk 33 hS ?_
                refine tk 34 hS ?_ (hy := by intro wz hz; have q1 : wz.cell? ⟨bt, ot + j, none⟩ = some (.int .u64 (t : Int)) := (hz.cell (p := ⟨bt, ot + j, none⟩) hbtr).trans CTR.out; have q2 : wz.cell? ⟨bl, ol + i, none⟩ = some (.int .u64 (y : Int)) := (hz.cell (p := ⟨bl, ol + i, none⟩) hblr).trans CLR.out; have q3 : wz.cell? ⟨bl, ol + i1, none⟩ = some (.int .u64 (x : Int)) := (hz.cell (p := ⟨bl, ol + i1, none⟩) hblr).trans CPR.out; go_simp <;> with_reducible rfl)
                refine wpAnyH_ready (rs := [35]) (by kernel_rfl) (by simp) ?_
                refine AllReadyH.cons rfl (fun K hK => ?_) AllReadyH.nil
                go_simp
                refine (rblocks_l (HLR.out.below hS) hk200 t y true HBT.out).mono ?_
                rintro e yw ⟨rfl, hb⟩
                have YW := Lib.hid (hS.trans (hb.mono hS.size))
                refine hK.out _ _ (YW.out) (fun hT => ?_)
                clear hK hb hS
                have hS := hT
                clear hT
                refine tk 36 hS ?_
                refine tk 37 hS ?_
                refine wpAnyH_done (by kernel_rfl) ?_ _
                have HSS := Lib.hid (HR3.out.trans (hS.mono HR3.out.size))
                clear hS
                go_wp2_with fail
                exact ⟨⟨i + 1, by omega, by go_num, HSS⟩, by simp [intOf]; omega⟩
            · obtain rfl : i = nl := by omega
              go_wp2_with fail
              go_loopw [12] (fun q wr => ∃ i' : Nat, i' ≤ nX ∧ q = .int .i64 (i' : Int) ∧ Hid (Below y1.heap.size y1 wr)) (fun q _ => nX - (intOf q).toNat)
              case atStart => exact ⟨0, Nat.zero_le _, by go_num, HR3⟩
              case round =>
                clear HR3 HLR
                obtain ⟨p, hp, rfl, HR4⟩ := hrel
                by_cases hpl : p < nX
                · obtain ⟨o, hoe⟩ : ∃ o, al[p]'(by omega) = o := ⟨_, rfl⟩
                  have hco := HCY.out p (by omega)
                  rw [hoe] at hco
                  have COY := Lib.hid hco
                  clear hco hoe
                  go_wp2_with fail
                  go_loopw [13, 14] (fun sb sm wr => ∃ (m : Nat) (bf : Bool), m ≤ i ∧ sb = .bool bf ∧ sm = .int .i64 (m : Int) ∧ Hid ((l.take m).any (· == o) = bf) ∧ Hid (Below y1.heap.size y1 wr)) (fun _ q _ => i - (intOf q).toNat)
                  case atStart => exact ⟨0, false, Nat.zero_le _, rfl, by go_num, Lib.hid rfl, HR4⟩
                  case round =>
                    clear HR4
                    obtain ⟨m, bf, hm, rfl, rfl, HAN, HR5⟩ := hrel
                    have HLR := Lib.hid (HL1.out.below HR5.out)
                    have hbtr : bt < wr.heap.size := Nat.lt_of_lt_of_le hbt1 HR5.out.size
                    have COR : Hid (wr.cell? ⟨bt, ot + p, none⟩ = some (.int .u64 (o : Int))) := (HR5.out.cell (p := ⟨bt, ot + p, none⟩) hbt1).trans COY.out
                    by_cases hml : m < i
                    · obtain ⟨bl, ol, hl, hAL, hbl0, hcl⟩ := HLZ.out.uc hml
                      have hblr : bl < wr.heap.size := Nat.lt_of_lt_of_le hbl0 HR5.out.size
                      obtain ⟨y, hy⟩ : ∃ y, l[m] = y := ⟨_, rfl⟩
                      rw [hy] at hcl
                      have CLR : Hid (wr.cell? ⟨bl, ol + m, none⟩ = some (.int .u64 (y : Int))) := (HR5.out.cell (p := ⟨bl, ol + m, none⟩) hbl0).trans hcl
                      obtain ⟨be, hbe⟩ : ∃ be, (y == o) = be := ⟨_, rfl⟩
                      have e1 : ((y : Int) == (o : Int)) = be := by rw [nat_beq, hbe]
                      have HNX : Hid ((l.take (m + 1)).any (· == o) = (bf || be)) := by
                        show _ = _
                        rw [List.take_add_one, List.getElem?_eq_getElem hl, List.any_append, HAN.out, hy]
                        simp [hbe]
                      subst hAL
                      clear hcl hy hbe HAN
                      go_upto_region 30 with fail
                      cases bf
                      · have HNY : Hid ((l.take (m + 1)).any (· == o) = be) := HNX.out
                        refine wp_region_held_drew (S := Below wr.heap.size wr) (by kernel_rfl) ((Below.refl _ wr).drew) (fun hS => ?_)
                        refine tk 0 hS ?_
                        refine tk 1 hS ?_
                        refine tk 2 hS ?_
                        refine tk 3 hS ?_
                        refine tk 4 hS ?_
                        refine tk 5 hS ?_ (hy := by intro wz hz; have q1 : wz.cell? ⟨bt, ot + p, none⟩ = some (.int .u64 (o : Int)) := (hz.cell (p := ⟨bt, ot + p, none⟩) hbtr).trans COR.out; have q2 : wz.cell? ⟨bl, ol + m, none⟩ = some (.int .u64 (y : Int)) := (hz.cell (p := ⟨bl, ol + m, none⟩) hblr).trans CLR.out; go_simp <;> with_reducible rfl)
                        refine tk 6 hS ?_
                        refine tk 7 hS ?_
                        refine tk 8 hS ?_
                        refine tk 9 hS ?_ (hy := by intro wz hz; have q1 : wz.cell? ⟨bt, ot + p, none⟩ = some (.int .u64 (o : Int)) := (hz.cell (p := ⟨bt, ot + p, none⟩) hbtr).trans COR.out; have q2 : wz.cell? ⟨bl, ol + m, none⟩ = some (.int .u64 (y : Int)) := (hz.cell (p := ⟨bl, ol + m, none⟩) hblr).trans CLR.out; go_simp <;> with_reducible rfl)
                        refine tk 10 hS ?_
                        refine tk 11 hS ?_
                        refine tk 12 hS ?_
                        refine wpAnyH_done (by kernel_rfl) ?_ _
                        have HSS := Lib.hid (HR5.out.trans (hS.mono HR5.out.size))
                        clear hS
                        go_wp2_with fail
                        exact ⟨⟨m + 1, be, by omega, rfl, by go_num, HNY, HSS⟩, by simp [intOf]; omega⟩
                      · have HNY : Hid ((l.take (m + 1)).any (· == o) = true) := HNX.out
                        refine wp_region_held_drew (S := Below wr.heap.size wr) (by kernel_rfl) ((Below.refl _ wr).drew) (fun hS => ?_)
                        refine tk 0 hS ?_
                        refine tk 1 hS ?_
                        refine sk 2 hS ?_
                        refine sk 3 hS ?_
                        refine sk 4 hS ?_
                        refine sk 5 hS ?_
                        refine sk 6 hS ?_
                        refine sk 7 hS ?_
                        refine sk 8 hS ?_
                        refine sk 9 hS ?_
                        refine sk 10 hS ?_
                        refine tk 11 hS ?_
                        refine tk 12 hS ?_
                        refine wpAnyH_done (by kernel_rfl) ?_ _
                        have HSS := Lib.hid (HR5.out.trans (hS.mono HR5.out.size))
                        clear hS
                        go_wp2_with fail
                        exact ⟨⟨m + 1, true, by omega, rfl, by go_num, HNY, HSS⟩, by simp [intOf]; omega⟩
                    · obtain rfl : m = i := by omega
                      have CTR : Hid (wr.cell? ⟨bt, ot + j, none⟩ = some (.int .u64 (t : Int))) := (HR5.out.cell (p := ⟨bt, ot + j, none⟩) hbt1).trans CT1.out
                      have HBF : Hid (blocksR u t o = bf) := by
                        have h1 := HAN.out
                        rw [List.take_of_length_le (by have := HLL.out; omega)] at h1
                        have h2 := HBK.out.mem o
                        show _ = _
                        rw [← h1]
                        cases hb : blocksR u t o with
                        | true => exact (List.any_eq_true.2 ⟨o, h2.2 hb, by simp⟩).symm
                        | false =>
                          refine (List.any_eq_false.2 fun x hx hxo => ?_).symm
                          obtain rfl : x = o := by simpa using hxo
                          rw [h2.1 hx] at hb
                          cases hb
                      clear HAN
                      go_upto_region 31 with fail
                      cases bf
                      · skip
                        refine wp_region_held_drew (S := Below wr.heap.size wr) (by kernel_rfl) ((Below.refl _ wr).drew) (fun hS => ?_)
                        refine tk 0 hS ?_
                        refine tk (v := .agg (rtA A1 A2 n1 c1 n2 c2)) 1 hS ?_ (hy := by intro wz hz; have q1 : wz.cell? ⟨bt, ot + j, none⟩ = some (.int .u64 (t : Int)) := (hz.cell (p := ⟨bt, ot + j, none⟩) hbtr).trans CTR.out; have q2 : wz.cell? ⟨bt, ot + p, none⟩ = some (.int .u64 (o : Int)) := (hz.cell (p := ⟨bt, ot + p, none⟩) hbtr).trans COR.out; exact exec_load_at 28 (.tmp 6) rfl b6 rfl (rtA A1 A2 n1 c1 n2 c2) 2 strT rfl (HLR.out.below hz).box)
                        refine tk 2 hS ?_
                        refine tk 3 hS ?_
                        refine tk 4 hS ?_
                        refine tk 5 hS ?_ (hy := by intro wz hz; have q1 : wz.cell? ⟨bt, ot + j, none⟩ = some (.int .u64 (t : Int)) := (hz.cell (p := ⟨bt, ot + j, none⟩) hbtr).trans CTR.out; have q2 : wz.cell? ⟨bt, ot + p, none⟩ = some (.int .u64 (o : Int)) := (hz.cell (p := ⟨bt, ot + p, none⟩) hbtr).trans COR.out; go_simp <;> with_reducible rfl)
                        refine tk 6 hS ?_
                        refine tk 7 hS ?_
                        refine tk 8 hS ?_
                        refine tk 9 hS ?_ (hy := by intro wz hz; have q1 : wz.cell? ⟨bt, ot + j, none⟩ = some (.int .u64 (t : Int)) := (hz.cell (p := ⟨bt, ot + j, none⟩) hbtr).trans CTR.out; have q2 : wz.cell? ⟨bt, ot + p, none⟩ = some (.int .u64 (o : Int)) := (hz.cell (p := ⟨bt, ot + p, none⟩) hbtr).trans COR.out; go_simp <;> with_reducible rfl)
                        refine wpAnyH_ready (rs := [10]) (by kernel_rfl) (by simp) ?_
                        refine AllReadyH.cons rfl (fun K hK => ?_) AllReadyH.nil
                        go_simp
                        refine (rblocks_l (HLR.out.below hS) hk200 t o false HBF.out).mono ?_
                        rintro e yw ⟨rfl, hb⟩
                        have YW := Lib.hid (hS.trans (hb.mono hS.size))
                        refine hK.out _ _ (YW.out) (fun hT => ?_)
                        clear hK hb hS
                        have hS := hT
                        clear hT
                        refine tk 11 hS ?_
                        refine wpAnyH_done (by kernel_rfl) ?_ _
                        have HSS := Lib.hid (HR5.out.trans (hS.mono HR5.out.size))
                        clear hS
                        go_wp2_with fail
                        exact ⟨⟨p + 1, by omega, by go_num, HSS⟩, by simp [intOf]; omega⟩
                      · skip
                        refine wp_region_held_drew (S := Below wr.heap.size wr) (by kernel_rfl) ((Below.refl _ wr).drew) (fun hS => ?_)
                        refine tk 0 hS ?_
                        refine tk (v := .agg (rtA A1 A2 n1 c1 n2 c2)) 1 hS ?_ (hy := by intro wz hz; have q1 : wz.cell? ⟨bt, ot + j, none⟩ = some (.int .u64 (t : Int)) := (hz.cell (p := ⟨bt, ot + j, none⟩) hbtr).trans CTR.out; have q2 : wz.cell? ⟨bt, ot + p, none⟩ = some (.int .u64 (o : Int)) := (hz.cell (p := ⟨bt, ot + p, none⟩) hbtr).trans COR.out; exact exec_load_at 28 (.tmp 6) rfl b6 rfl (rtA A1 A2 n1 c1 n2 c2) 2 strT rfl (HLR.out.below hz).box)
                        refine tk 2 hS ?_
                        refine tk 3 hS ?_
                        refine tk 4 hS ?_
                        refine tk 5 hS ?_ (hy := by intro wz hz; have q1 : wz.cell? ⟨bt, ot + j, none⟩ = some (.int .u64 (t : Int)) := (hz.cell (p := ⟨bt, ot + j, none⟩) hbtr).trans CTR.out; have q2 : wz.cell? ⟨bt, ot + p, none⟩ = some (.int .u64 (o : Int)) := (hz.cell (p := ⟨bt, ot + p, none⟩) hbtr).trans COR.out; go_simp <;> with_reducible rfl)
                        refine tk 6 hS ?_
                        refine tk 7 hS ?_
                        refine tk 8 hS ?_
                        refine tk 9 hS ?_ (hy := by intro wz hz; have q1 : wz.cell? ⟨bt, ot + j, none⟩ = some (.int .u64 (t : Int)) := (hz.cell (p := ⟨bt, ot + j, none⟩) hbtr).trans CTR.out; have q2 : wz.cell? ⟨bt, ot + p, none⟩ = some (.int .u64 (o : Int)) := (hz.cell (p := ⟨bt, ot + p, none⟩) hbtr).trans COR.out; go_simp <;> with_reducible rfl)
                        refine wpAnyH_ready (rs := [10]) (by kernel_rfl) (by simp) ?_
                        refine AllReadyH.cons rfl (fun K hK => ?_) AllReadyH.nil
                        go_simp
                        refine (rblocks_l (HLR.out.below hS) hk200 t o true HBF.out).mono ?_
                        rintro e yw ⟨rfl, hb⟩
                        have YW := Lib.hid (hS.trans (hb.mono hS.size))
                        refine hK.out _ _ (YW.out) (fun hT => ?_)
                        clear hK hb hS
                        have hS := hT
                        clear hT
                        refine tk 11 hS ?_
                        refine wpAnyH_done (by kernel_rfl) ?_ _
                        have HSS := Lib.hid (HR5.out.trans (hS.mono HR5.out.size))
                        clear hS
                        go_wp2_with fail
                        exact ⟨⟨p + 1, by omega, by go_num, HSS⟩, by simp [intOf]; omega⟩
                · obtain rfl : p = nX := by omega
                  have HSS := Lib.hid (HR1.out.trans (HR4.out.mono HR1.out.size))
                  go_wp2_with fail
                  exact ⟨⟨j + 1, by omega, by go_num, HSS⟩, by simp [intOf]; omega⟩
        · obtain rfl : j = nX := by omega
          obtain ⟨ix, hix⟩ : ∃ ix, wIdx u.queue tx = ix := ⟨_, rfl⟩
          obtain ⟨cg, hcg⟩ : ∃ cg, decide (0 ≤ ix) = cg := ⟨_, rfl⟩
          have HIX := Lib.hid hix
          have HCG := Lib.hid hcg
          clear hix
          go_upto_region 33 with fail
          cases cg
          · skip
            refine wp_region_held_drew (S := Below wr.heap.size wr) (by kernel_rfl) ((Below.refl _ wr).drew) (fun hS => ?_)
            refine tk 0 hS ?_
            refine tk 1 hS ?_
            refine tk (v := .agg (rtA A1 A2 n1 c1 n2 c2)) 5 hS ?_ (hy := by intro wz hz; exact exec_load_at 28 (.tmp 6) rfl b6 rfl (rtA A1 A2 n1 c1 n2 c2) 2 strT rfl (HLR.out.below hz).box)
            refine tk 6 hS ?_
            refine wpAnyH_ready (rs := [2]) (by kernel_rfl) (by simp) ?_
            refine AllReadyH.cons rfl (fun K hK => ?_) AllReadyH.nil
            go_simp
            refine (blocks_l (HLR.out.below hS) hk200 tx HTX.out).mono ?_
            rintro e yb ⟨AL, nl, cl, l, rfl, hll, hnl, hbk, hlz, hb⟩
            have hpos := blk_pos hbk hll
            rw [HIX.out, HCG.out] at hpos
            have hposn : decide (0 < nl) = false := by rw [← hpos]; exact decide_eq_decide.2 (by omega)
            have YB := Lib.hid (hS.trans (hb.mono hS.size))
            clear hll hbk hlz
            refine hK.out _ _ (YB.out) (fun hT => ?_)
            clear hK hb hS
            have hS := hT
            clear hT
            refine tk 3 hS ?_
            refine tk 4 hS ?_
            refine wpAnyH_ready (rs := [7]) (by kernel_rfl) (by simp) ?_
            refine AllReadyH.cons rfl (fun K hK => ?_) AllReadyH.nil
            go_simp
            refine (rwaits_l (HLR.out.below hS) hk200 tx ix HIX.out).mono ?_
            rintro e yw ⟨rfl, hb⟩
            have YW := Lib.hid (hS.trans (hb.mono hS.size))
            refine hK.out _ _ (YW.out) (fun hT => ?_)
            clear hK hb hS
            have hS := hT
            clear hT
            refine tk 8 hS ?_
            refine tk 9 hS ?_
            refine tk 10 hS ?_
            refine wpAnyH_ready (rs := [11]) (by kernel_rfl) (by simp) ?_
            refine AllReadyH.cons rfl (fun K hK => ?_) AllReadyH.nil
            go_simp
            refine (works_any _ (HLR.out.below hS).two.tb).mono ?_
            rintro e yv ⟨rfl, hb⟩
            have YV := Lib.hid (hS.trans (hb.mono hS.size))
            refine hK.out _ _ (YV.out) (fun hT => ?_)
            clear hK hb hS
            have hS := hT
            clear hT
            refine tk 12 hS ?_
            refine tk 13 hS ?_
            refine wpAnyH_done (by kernel_rfl) ?_ _
            have HSS := Lib.hid (HLR.out.low.trans (hS.mono HLR.out.low.size))
            clear hS
            go_wp2_with fail
            go_ret
            exact ⟨rfl, HSS.out⟩
          · skip
            refine wp_region_held_drew (S := Below wr.heap.size wr) (by kernel_rfl) ((Below.refl _ wr).drew) (fun hS => ?_)
            refine tk 0 hS ?_
            refine tk 1 hS ?_
            refine tk (v := .agg (rtA A1 A2 n1 c1 n2 c2)) 5 hS ?_ (hy := by intro wz hz; exact exec_load_at 28 (.tmp 6) rfl b6 rfl (rtA A1 A2 n1 c1 n2 c2) 2 strT rfl (HLR.out.below hz).box)
            refine tk 6 hS ?_
            refine wpAnyH_ready (rs := [2]) (by kernel_rfl) (by simp) ?_
            refine AllReadyH.cons rfl (fun K hK => ?_) AllReadyH.nil
            go_simp
            refine (blocks_l (HLR.out.below hS) hk200 tx HTX.out).mono ?_
            rintro e yb ⟨AL, nl, cl, l, rfl, hll, hnl, hbk, hlz, hb⟩
            have hpos := blk_pos hbk hll
            rw [HIX.out, HCG.out] at hpos
            have hposn : decide (0 < nl) = true := by rw [← hpos]; exact decide_eq_decide.2 (by omega)
            have YB := Lib.hid (hS.trans (hb.mono hS.size))
            clear hll hbk hlz
            refine hK.out _ _ (YB.out) (fun hT => ?_)
            clear hK hb hS
            have hS := hT
            clear hT
            refine tk 3 hS ?_
            refine tk 4 hS ?_
            refine wpAnyH_ready (rs := [7]) (by kernel_rfl) (by simp) ?_
            refine AllReadyH.cons rfl (fun K hK => ?_) AllReadyH.nil
            go_simp
            refine (rwaits_l (HLR.out.below hS) hk200 tx ix HIX.out).mono ?_
            rintro e yw ⟨rfl, hb⟩
            have YW := Lib.hid (hS.trans (hb.mono hS.size))
            refine hK.out _ _ (YW.out) (fun hT => ?_)
            clear hK hb hS
            have hS := hT
            clear hT
            refine tk 8 hS ?_
            refine tk 9 hS ?_
            refine tk 10 hS ?_
            refine wpAnyH_ready (rs := [11]) (by kernel_rfl) (by simp) ?_
            refine AllReadyH.cons rfl (fun K hK => ?_) AllReadyH.nil
            go_simp
            refine (works_any _ (HLR.out.below hS).two.tb).mono ?_
            rintro e yv ⟨rfl, hb⟩
            have YV := Lib.hid (hS.trans (hb.mono hS.size))
            refine hK.out _ _ (YV.out) (fun hT => ?_)
            clear hK hb hS
            have hS := hT
            clear hT
            refine tk 12 hS ?_
            refine tk 13 hS ?_
            refine wpAnyH_done (by kernel_rfl) ?_ _
            have HSS := Lib.hid (HLR.out.low.trans (hS.mono HLR.out.low.size))
            clear hS
            go_wp2_with fail
            go_ret
            exact ⟨rfl, HSS.out⟩
set_option maxHeartbeats 1600000 in
theorem blocks_big (AO : Option Addr) (N cO tx : Nat) (w : World) (hT : Tab w) (hN60 : 60 < N) : Calls Tryz.prog 5 #[.slice AO N cO, .int .u64 (tx : Int)] w (RetB w (.bool true)) := by
  have d1 : decide ((60 : Int) < (N : Int)) = true := by simp; omega
  have HW := Lib.hid (works_any w hT)
  go_enter Tryz.func5, Tryz.ntmps5
  go_wp2_with fail
  refine HW.out.mono ?_
  rintro e z9 ⟨rfl, hb9⟩
  have LW := Lib.hid hb9
  clear hb9
  go_wp2_with fail
  go_ret
  exact ⟨rfl, LW.out⟩
theorem blocks_law (AO : Option Addr) (cO : Nat) (os : List Opx) (tx : Nat) (htx : U64 tx) (w : World) (hO : OZ w AO os.length os) (hi : ∀ o ∈ os, OpOk o) (hT : Tab w) : Calls Tryz.prog 5 #[.slice AO os.length cO, .int .u64 (tx : Int)] w (RetB w (.bool true)) := by
  by_cases h : os.length ≤ 60
  · exact blocks_small AO _ cO os tx htx w hO hi hT h
  · exact blocks_big AO _ cO tx w hT (by omega)
end Go.Proofs.YthbifccankfngaaGreatDoor
