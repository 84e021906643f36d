/-
  made.
  Conditions: at most 60 acts, values of at most 100 bytes, at most 100 pages.
-/
import Derived.Test.YtpffnjnncgmgnaaB32
namespace Go.Proofs.Ytpffnjnncgmgnaa
open Go.RowKit
attribute [local go_sem] Oper.semAt_some
set_option maxRecDepth 20000

set_option maxHeartbeats 60000000 in
theorem made_any (d : Int) (PA0 : Option Addr) (pn pc0 : Nat) (ps : List Int) (A : Option Addr) (n c : Nat) (l : List Op13) (w : World) (hP : Lz NoX w 1 PA0 pn (ICs ps)) (hL : Lz NoX w 7 A n (opsL l)) (hok : ∀ o ∈ l, o.r.ok) (hli : ∀ o ∈ l, o.r.val.length ≤ 100) (hpn : pn ≤ 100) (hn : n ≤ 60) (rsE : List Rc) (nE : Nat) (hE : madeR pn l n = rsE) (hEn : rsE.length = nE) :
    Calls Try.prog 9 #[.agg (bkA d (.slice PA0 pn pc0) (.slice none 0 0)), .slice A n c] w (RetMd w d ps pn rsE nE) := by
  have HLN := Lib.hid hL.oplen
  have HL := Lib.hid hL
  have HOK := Lib.hid hok
  have HLI := Lib.hid hli
  have HE := Lib.hid hE
  have HEN := Lib.hid hEn
  have HGM : Hid (∀ k, k ≤ l.length → GoodB pn (madeR pn l k)) := good_made hok
  have zb0 : Hid ((#[Value.int .i64 0, .slice none 0 0, .slice none 0 0] : Array Value) = zbk) := rfl
  have HM0 : Hid (MdS w d ps pn [] 0 PA0 pc0 none 0 none ((w.alloc (.cells (bkA d (.slice PA0 pn pc0) (.slice none 0 0)) 29)).alloc (.cells zbk 29))) := by
    refine ⟨(At.new w 29 _).alloc _, ?_, ((hP.mono fun k hk hx => ?_).alloc _).alloc _, Lz.empty, Lz.empty, Nat.le_refl _, ((Below.refl _ w).alloc (Nat.le_refl _) _).alloc (by simp) _⟩
    · have := At.new (w.alloc (.cells (bkA d (.slice PA0 pn pc0) (.slice none 0 0)) 29)) 29 zbk
      rw [World.size_alloc] at this
      exact this
    · rcases hx with hx | hx <;> omega
  clear hP hL hok hli hE hEn
  go_enter Try.func9, Try.ntmps9
  go_upto_region 1 with fail
  rw [zb0.out]
  generalize ((w.alloc (.cells (bkA d (.slice PA0 pn pc0) (.slice none 0 0)) 29)).alloc (.cells zbk 29)) = w1 at HM0 ⊢
  go_wp2_with fail
  go_loopw [5, 6, 7, 8] (fun v5 v6 v7 vi wr => ∃ (k : Nat) (rs : List Rc) (rn : Nat) (PA : Option Addr) (pc : Nat) (RA : Option Addr) (rc : Nat) (A7 : Option Addr) (c7 : Nat), k ≤ n ∧ v5 = .slice none 0 0 ∧ v6 = .bool false ∧ v7 = .slice A7 rn c7 ∧ vi = .int .i64 (k : Int) ∧ Hid (madeR pn l k = rs) ∧ Hid (rs.length = rn) ∧ Hid (MdS w d ps pn rs rn PA pc RA rc A7 wr) ∧ Hid (rn ≤ c7)) (fun _ _ _ i _ => n - (intOf i).toNat)
  case atStart => exact ⟨0, [], 0, PA0, pc0, none, 0, none, 0, Nat.zero_le _, rfl, rfl, rfl, by go_num, Lib.hid rfl, Lib.hid rfl, HM0, Lib.hid (Nat.le_refl _)⟩
  case round =>
    obtain ⟨k, rs, rn, PA, pc, RA, rc, A7, c7, hk, rfl, rfl, rfl, rfl, HR, HN, HM, HC7⟩ := hrel
    have hgk := HGM.out k (by rw [HLN.out]; exact hk)
    rw [HR.out] at hgk
    have hrn : rn ≤ 500 := by have := hgk.len; rw [HN.out] at this; omega
    have hcap := HM.out.cap
    clear hgk
    by_cases hlt : k < n
    · obtain ⟨g, o, hl, rfl, hb, hc0, hc⟩ := HL.out.op13 hlt
      obtain ⟨r, hr⟩ : ∃ r, l[k].r = r := ⟨_, rfl⟩
      obtain ⟨kd, hkd⟩ : ∃ kd, l[k].kind = kd := ⟨_, rfl⟩
      have HV : Hid (r.val.length ≤ 100) := by have := HLI.out _ (List.getElem_mem hl); rw [hr] at this; exact this
      have HRO : Hid r.ok := by have := HOK.out _ (List.getElem_mem hl); rw [hr] at this; exact this
      have HGB : Hid (GoodB pn (madeR pn l (k + 1))) := HGM.out (k + 1) (by omega)
      rw [hr] at hc
      rw [hkd] at hc0
      rename World => y4
      have R0 : Hid (∀ wz, Below (y4.alloc (.cells (bkA d (.slice PA pn pc) (.slice RA rn rc)) 29)).heap.size (y4.alloc (.cells (bkA d (.slice PA pn pc) (.slice RA rn rc)) 29)) wz → wz.cell? ⟨g, o + k * 7, none⟩ = some (.int .i64 kd)) := fun wz hz => by
        have h1 := (HM.out.bel.alloc HM.out.bel.size (.cells (bkA d (.slice PA pn pc) (.slice RA rn rc)) 29))
        rw [← hc0]
        exact (h1.trans (hz.mono h1.size)).cell (p := ⟨g, o + k * 7, none⟩) hb
      have R1 : Hid (∀ wz, Below (y4.alloc (.cells (bkA d (.slice PA pn pc) (.slice RA rn rc)) 29)).heap.size (y4.alloc (.cells (bkA d (.slice PA pn pc) (.slice RA rn rc)) 29)) wz → wz.rangeAt g (o + k * 7 + 1) (rcL r)) := fun wz hz => by
        have h1 := (HM.out.bel.alloc HM.out.bel.size (.cells (bkA d (.slice PA pn pc) (.slice RA rn rc)) 29))
        exact pl_rangeAt_block hc ((h1.trans (hz.mono h1.size)).block g hb)
      have HST : Hid (madeR pn l (k + 1) = stepR pn rs ⟨kd, r⟩) := by
        show _ = _
        rw [madeR_succ pn l k hl, HR.out, ← hr, ← hkd]
      clear hr hkd hc hc0 hb
      go_upto_region 6 with (first
        | (refine wpList_load_at 29 29 (.tmp 2) rfl rfl rfl w.heap.size rfl (bkA d (.slice PA pn pc) (.slice RA rn rc)) 3 strBk rfl HM.out.box ?_)
        | (refine wpList_store_new 29 (.tmp 9) (.tmp 29) rfl rfl rfl y4.heap.size y4 rfl rfl (bkA d (.slice PA pn pc) (.slice RA rn rc)) _ 3 rfl strBk rfl rfl (bkA_one _ _ _ _ _ _ _) rfl ?_))
      have HWS := Lib.hid HM.out.was
      replace HM := Lib.hid (HM.out.call ((Below.refl _ y4).alloc (Nat.le_refl _) (.cells (bkA d (.slice PA pn pc) (.slice RA rn rc)) 29)))
      generalize (y4.alloc (.cells (bkA d (.slice PA pn pc) (.slice RA rn rc)) 29)) = y5 at HM HWS R0 R1 ⊢
      have HBK : Hid (∀ wz, Below y5.heap.size y5 wz → BkL wz PA pn RA rn ps rs) := fun wz hz => HM.out.bk.below hz
      have HRF : Hid (∀ wz, Below y5.heap.size y5 wz → Lz NoX wz 6 A7 rn (rcsL rs)) := fun wz hz => (HM.out.ref.below hz).any
      have c0 : y5.cell? ⟨g, o + k * 7, none⟩ = some (.int .i64 kd) := R0.out y5 (Below.refl _ _)
      obtain ⟨rs2, hrs2⟩ : ∃ rs2, stepR pn rs ⟨kd, r⟩ = rs2 := ⟨_, rfl⟩
      obtain ⟨n2, hn2⟩ : ∃ n2, rs2.length = n2 := ⟨_, rfl⟩
      have hn2b : n2 ≤ 500 := by have := HGB.out.len; rw [HST.out, hrs2, hn2] at this; omega
      have HR2 : Hid (madeR pn l (k + 1) = rs2) := by show _ = _; rw [HST.out]; exact hrs2
      have HN2 := Lib.hid hn2
      have HRS2 := Lib.hid hrs2
      clear hrs2 hn2 HST HGB
      by_cases k01 : kd = 0 ∨ kd = 1
      · have H1 : Hid ((addR pn rs r).1 = rs2) := by have := HRS2.out; unfold stepR at this; rw [if_pos k01] at this; exact this
        obtain ⟨cd, hcd⟩ : ∃ cd, (addR pn rs r).2 = cd := ⟨_, rfl⟩
        have HACT : Hid (∀ wz, Below y5.heap.size y5 wz → Calls Try.prog 24 #[.agg (bkA d (.slice PA pn pc) (.slice RA rn rc)), .agg (rcA r)] wz (RetBN wz d ps pn rs2 n2 (.int .i64 cd))) := fun wz hz => (Add_any d PA pn pc RA rn rc ps rs r wz (HBK.out wz hz) (by omega) (by omega) hcap (by have := HV.out; omega)).mono fun _ _ h => h.named H1.out HN2.out (by rw [hcd])
        have HREF : Hid (∀ wz, Below y5.heap.size y5 wz → Calls Try.prog 27 #[.slice A7 rn c7, .int .i64 (pn : Int), .agg (rcA r)] wz (RetRN wz rs2 n2 (.int .i64 cd))) := fun wz hz => (rAdd_any A7 rn c7 rs pn r wz (HRF.out wz hz) (by omega) (by omega) (by have := HV.out; omega) HC7.out).mono fun _ _ h => h.named H1.out HN2.out (by rw [hcd])
        clear H1 hcd HRS2
        rcases k01 with rfl | rfl
        · skip
          go_upto_region 14 with fail
          go_cut [11, 12] from 80 to 89 (fun sx sc wx => ∃ (gx : Nat) (A5 : Option Addr) (c5 : Nat) (A6 : Option Addr) (c6 : Nat), sx = .pointer (some ⟨gx, 0, none⟩) ∧ sc = .int .i64 cd ∧ Hid (BkN y5 gx d ps pn rs2 n2 A5 c5 A6 c6 wx))
          case first =>
            refine wp_region_held_drew (S := fun wz => Below y5.heap.size y5 wz) (by kernel_rfl) (Below.refl _ y5).drew (fun hS => ?_)
            refine tkS (v := .agg (bkA d (.slice PA pn pc) (.slice RA rn rc))) 0 hS ?_ (hy := by intro wz hz; have q0 : wz.cell? ⟨g, o + k * 7 + 1, none⟩ = some (.int .u64 (r.id : Int)) := R1.out wz hz 0 _ rfl; exact exec_load_at 29 (.tmp 2) rfl w.heap.size rfl _ 3 strBk rfl (HM.out.box.under hz HM.out.box.lt))
            refine tkS 1 hS ?_
            refine tkS 2 hS ?_
            refine tkS 3 hS ?_
            refine tkS 4 hS ?_
            refine tkS (v := .agg (rcA r)) 5 hS ?_ (hy := by intro wz hz; have q0 : wz.cell? ⟨g, o + k * 7 + 1, none⟩ = some (.int .u64 (r.id : Int)) := R1.out wz hz 0 _ rfl; exact exec_load_rc (.tmp 85) rfl g (o + k * 7 + 1) rfl r (R1.out wz hz))
            refine wpAnyH_ready (rs := [6, 10]) (by kernel_rfl) (by simp) ?_
            refine AllReadyH.cons rfl (fun K hK => ?_) (AllReadyH.cons rfl (fun K hK => ?_) AllReadyH.nil)
            · go_simp
              refine (HACT.out y5.drew hS).mono ?_
              rintro e y6 ⟨A5, c5, A6, c6, rfl, h5, h6, hb6⟩
              have hb : True := trivial
              have O5 := Lib.hid h5
              have O6 := Lib.hid h6
              have B6 := Lib.hid hb6
              have HS1 := Lib.hid hS
              clear h5 h6 hb6
              refine hK.out _ _ (HS1.out.trans (B6.out.mono (Below.size HS1.out))) (fun hT => ?_)
              clear hK hS
              have hS := hT
              clear hT
              refine tkS 7 hS ?_
              refine tkS 8 hS ?_
              refine tkS 9 hS ?_
              refine wpAnyH_ready (rs := [10]) (by kernel_rfl) (by simp) ?_
              refine AllReadyH.cons rfl (fun K hK => ?_) AllReadyH.nil
              go_simp
              rw [zb0.out]
              have AX := Lib.hid (At.new y6 29 zbk)
              have HY := Lib.hid (Below.size HS1.out)
              have HG := Lib.hid (show y5.heap.size ≤ y6.heap.size from Below.size hS)
              have OX5 := Lib.hid (own_under O5.out ((Below.refl y6.heap.size y6).alloc (Nat.le_refl _) (.cells zbk 29)) (Nat.le_refl _))
              have OX6 := Lib.hid (own_under O6.out ((Below.refl y6.heap.size y6).alloc (Nat.le_refl _) (.cells zbk 29)) (Nat.le_refl _))
              have HT0 := Below.alloc hS (Below.size hS) (.cells zbk 29)
              refine hK.out _ _ (HT0) (fun hT => ?_)
              clear hK hS
              have hS := hT
              clear hT
              refine wpAnyH_ready (rs := [11]) (by kernel_rfl) (by simp) ?_
              refine AllReadyH.cons rfl (fun K hK => ?_) AllReadyH.nil
              rw [if_pos (by rfl)]
              refine wp_store_at 29 (.tmp 11) (.tmp 88) rfl rfl y6.heap.size rfl (bkA d (.slice A5 pn c5) (.slice A6 n2 c6)) zbk 3 rfl strBk rfl rfl (bkA_one _ _ _ _ _ _ _) AX.out ?_
              intro w9 ha9 hg9
              have HN := Lib.hid (show BkN y5 y6.heap.size d ps pn rs2 n2 A5 c5 A6 c6 w9 from BkN.put hS HY.out OX5.out OX6.out HG.out AX.out ha9 hg9)
              clear ha9 hg9
              refine hK.out _ _ (HN.out.bel) (fun hT => ?_)
              clear hK hS
              have hS := hT
              clear hT
              dsimp only [Act.put]
              refine tkS 12 hS ?_
              refine wpAnyH_done (by kernel_rfl) ?_ _
              go_wp2_with fail
              go_meet
              exact ⟨_, A5, c5, A6, c6, rfl, rfl, HN⟩
            · go_simp
              rw [zb0.out]
              have AX0 := Lib.hid (At.new y5.drew 29 zbk)
              have HT0 := Below.alloc hS (Below.size hS) (.cells zbk 29)
              have HG := Lib.hid (Below.size hS)
              refine hK.out _ _ (HT0) (fun hT => ?_)
              clear hK hS
              have hS := hT
              clear hT
              refine wpAnyH_ready (rs := [6]) (by kernel_rfl) (by simp) ?_
              refine AllReadyH.cons rfl (fun K hK => ?_) AllReadyH.nil
              go_simp
              refine (HACT.out (y5.drew.alloc (.cells zbk 29)) hS).mono ?_
              rintro e y6 ⟨A5, c5, A6, c6, rfl, h5, h6, hb6⟩
              have hb : True := trivial
              have O5 := Lib.hid h5
              have O6 := Lib.hid h6
              have B6 := Lib.hid hb6
              have HS1 := Lib.hid hS
              clear h5 h6 hb6
              refine hK.out _ _ (HS1.out.trans (B6.out.mono (Below.size HS1.out))) (fun hT => ?_)
              clear hK hS
              have hS := hT
              clear hT
              have AX := Lib.hid (AX0.out.under B6.out AX0.out.lt)
              have OX5 := O5
              have OX6 := O6
              have HY := Lib.hid (Below.size HS1.out)
              refine tkS 7 hS ?_
              refine tkS 8 hS ?_
              refine tkS 9 hS ?_
              refine wpAnyH_ready (rs := [11]) (by kernel_rfl) (by simp) ?_
              refine AllReadyH.cons rfl (fun K hK => ?_) AllReadyH.nil
              rw [if_pos (by rfl)]
              refine wp_store_at 29 (.tmp 11) (.tmp 88) rfl rfl y5.drew.heap.size rfl (bkA d (.slice A5 pn c5) (.slice A6 n2 c6)) zbk 3 rfl strBk rfl rfl (bkA_one _ _ _ _ _ _ _) AX.out ?_
              intro w9 ha9 hg9
              have HN := Lib.hid (show BkN y5 y5.drew.heap.size d ps pn rs2 n2 A5 c5 A6 c6 w9 from BkN.put hS HY.out OX5.out OX6.out HG.out AX.out ha9 hg9)
              clear ha9 hg9
              refine hK.out _ _ (HN.out.bel) (fun hT => ?_)
              clear hK hS
              have hS := hT
              clear hT
              dsimp only [Act.put]
              refine tkS 12 hS ?_
              refine wpAnyH_done (by kernel_rfl) ?_ _
              go_wp2_with fail
              go_meet
              exact ⟨_, A5, c5, A6, c6, rfl, rfl, HN⟩
          obtain ⟨gx, A5, c5, A6, c6, rfl, rfl, HN⟩ := hcut
          rename World => y7
          have HY : Hid (∀ wz, Below y7.heap.size y7 wz → Below y5.heap.size y5 wz) := fun wz hz => HN.out.bel.trans (hz.mono HN.out.bel.size)
          have HMx : Hid (∀ wz, Below y7.heap.size y7 wz → At wz w.heap.size 29 (bkA d (.slice PA pn pc) (.slice RA rn rc))) := fun wz hz => HM.out.box.under (HY.out wz hz) HM.out.box.lt
          go_upto_region 15 with fail
          refine wp_region_held_drew (S := fun wz => Below y7.heap.size y7 wz) (by kernel_rfl) (Below.refl _ y7).drew (fun hS => ?_)
          refine tkS 0 hS ?_
          refine tkS 1 hS ?_
          refine tkS 2 hS ?_ (hy := by intro wz hz; have q0 : wz.cell? ⟨g, o + k * 7 + 1, none⟩ = some (.int .u64 (r.id : Int)) := R1.out wz (HY.out wz hz) 0 _ rfl; have q2 : wz.cell? ⟨w.heap.size, 1, none⟩ = some (.slice PA pn pc) := (HMx.out wz hz).cell 1; go_simp <;> with_reducible rfl)
          refine tkS 3 hS ?_
          refine tkS 4 hS ?_
          refine tkS 5 hS ?_
          refine tkS 6 hS ?_
          refine tkS 7 hS ?_
          refine tkS (v := .agg (rcA r)) 8 hS ?_ (hy := by intro wz hz; have q0 : wz.cell? ⟨g, o + k * 7 + 1, none⟩ = some (.int .u64 (r.id : Int)) := R1.out wz (HY.out wz hz) 0 _ rfl; have q2 : wz.cell? ⟨w.heap.size, 1, none⟩ = some (.slice PA pn pc) := (HMx.out wz hz).cell 1; exact exec_load_rc (.tmp 98) rfl g (o + k * 7 + 1) rfl r (R1.out wz (HY.out wz hz)))
          refine wpAnyH_ready (rs := [9]) (by kernel_rfl) (by simp) ?_
          refine AllReadyH.cons rfl (fun K hK => ?_) AllReadyH.nil
          go_simp
          refine (HREF.out y7.drew (HY.out _ hS)).mono ?_
          rintro e y8 ⟨A9, c9, rfl, h9, hc9, hb8⟩
          have hb : True := trivial
          have O9 := Lib.hid h9
          have B8 := Lib.hid hb8
          have HS1 := Lib.hid hS
          clear h9 hb8
          refine hK.out _ _ (HS1.out.trans (B8.out.mono (Below.size HS1.out))) (fun hT => ?_)
          clear hK hS
          have hS := hT
          clear hT
          refine tkS 10 hS ?_
          refine tkS 11 hS ?_
          refine tkS 12 hS ?_
          refine tkS 13 hS ?_
          refine tkS 14 hS ?_
          refine wpAnyH_done (by kernel_rfl) ?_ _
          have HB8 := Lib.hid (show Below y7.heap.size y7 y8 from hS)
          clear hS
          have HN8 := Lib.hid (HN.out.call HB8.out)
          have HM8 := Lib.hid (HM.out.call HN8.out.bel)
          have HWS8 := Lib.hid (HWS.out.call HN8.out.bel)
          go_upto_region 25 with (first
            | (refine wpList_load_at 29 103 (.tmp 11) rfl rfl rfl gx rfl (bkA d (.slice A5 pn c5) (.slice A6 n2 c6)) 3 strBk rfl HN8.out.box ?_)
            | (refine wpList_store_at 29 (.tmp 2) (.tmp 103) rfl rfl rfl w.heap.size rfl (bkA d (.slice A5 pn c5) (.slice A6 n2 c6)) (bkA d (.slice PA pn pc) (.slice RA rn rc)) 3 rfl strBk rfl rfl (bkA_one _ _ _ _ _ _ _) HM8.out.box ?_; intro y9 ha9 hg9; have HM9 := Lib.hid (HM.out.take (y := y8) HN8.out O9.out ha9 hg9); have HWS9 := Lib.hid (HWS8.out.store hg9); have cb : y9.cell? ⟨w.heap.size, 2, none⟩ = some (.slice A6 n2 c6) := HM9.out.box.cell 2; clear ha9 hg9)
            )
          clear HACT HREF HBK HRF R0 R1 HY HMx HM8 HWS8 HM HWS HN HN8
          go_wp2_with fail
          refine (Same_any A6 A9 n2 c6 c9 rs2 y9 HM9.out.recs.any HM9.out.ref.any (by omega)).mono ?_
          rintro e ya ⟨rfl, hba⟩
          have HMa := Lib.hid (HM9.out.call hba)
          have HWSa := Lib.hid (HWS9.out.call hba)
          have cw : ya.cell? ⟨y4.heap.size, 2, none⟩ = some (.slice RA rn rc) := HWSa.out.box.cell 2
          clear hba cb
          go_wp2_with fail
          refine (Same_any RA A7 rn rc c7 rs ya HWSa.out.recs.any HWSa.out.ref.any (by omega)).mono ?_
          rintro e yb ⟨rfl, hbb⟩
          have HMb := Lib.hid (HMa.out.call hbb)
          clear hbb cw
          go_wp2_with fail
          exact ⟨⟨k + 1, rs2, n2, A5, c5, A6, c6, A9, c9, by omega, rfl, rfl, rfl, by go_num, HR2, HN2, HMb, Lib.hid hc9⟩, by simp [intOf]; omega⟩
        · skip
          go_upto_region 14 with fail
          go_cut [11, 12] from 80 to 89 (fun sx sc wx => ∃ (gx : Nat) (A5 : Option Addr) (c5 : Nat) (A6 : Option Addr) (c6 : Nat), sx = .pointer (some ⟨gx, 0, none⟩) ∧ sc = .int .i64 cd ∧ Hid (BkN y5 gx d ps pn rs2 n2 A5 c5 A6 c6 wx))
          case first =>
            refine wp_region_held_drew (S := fun wz => Below y5.heap.size y5 wz) (by kernel_rfl) (Below.refl _ y5).drew (fun hS => ?_)
            refine tkS (v := .agg (bkA d (.slice PA pn pc) (.slice RA rn rc))) 0 hS ?_ (hy := by intro wz hz; have q0 : wz.cell? ⟨g, o + k * 7 + 1, none⟩ = some (.int .u64 (r.id : Int)) := R1.out wz hz 0 _ rfl; exact exec_load_at 29 (.tmp 2) rfl w.heap.size rfl _ 3 strBk rfl (HM.out.box.under hz HM.out.box.lt))
            refine tkS 1 hS ?_
            refine tkS 2 hS ?_
            refine tkS 3 hS ?_
            refine tkS 4 hS ?_
            refine tkS (v := .agg (rcA r)) 5 hS ?_ (hy := by intro wz hz; have q0 : wz.cell? ⟨g, o + k * 7 + 1, none⟩ = some (.int .u64 (r.id : Int)) := R1.out wz hz 0 _ rfl; exact exec_load_rc (.tmp 85) rfl g (o + k * 7 + 1) rfl r (R1.out wz hz))
            refine wpAnyH_ready (rs := [6, 10]) (by kernel_rfl) (by simp) ?_
            refine AllReadyH.cons rfl (fun K hK => ?_) (AllReadyH.cons rfl (fun K hK => ?_) AllReadyH.nil)
            · go_simp
              refine (HACT.out y5.drew hS).mono ?_
              rintro e y6 ⟨A5, c5, A6, c6, rfl, h5, h6, hb6⟩
              have hb : True := trivial
              have O5 := Lib.hid h5
              have O6 := Lib.hid h6
              have B6 := Lib.hid hb6
              have HS1 := Lib.hid hS
              clear h5 h6 hb6
              refine hK.out _ _ (HS1.out.trans (B6.out.mono (Below.size HS1.out))) (fun hT => ?_)
              clear hK hS
              have hS := hT
              clear hT
              refine tkS 7 hS ?_
              refine tkS 8 hS ?_
              refine tkS 9 hS ?_
              refine wpAnyH_ready (rs := [10]) (by kernel_rfl) (by simp) ?_
              refine AllReadyH.cons rfl (fun K hK => ?_) AllReadyH.nil
              go_simp
              rw [zb0.out]
              have AX := Lib.hid (At.new y6 29 zbk)
              have HY := Lib.hid (Below.size HS1.out)
              have HG := Lib.hid (show y5.heap.size ≤ y6.heap.size from Below.size hS)
              have OX5 := Lib.hid (own_under O5.out ((Below.refl y6.heap.size y6).alloc (Nat.le_refl _) (.cells zbk 29)) (Nat.le_refl _))
              have OX6 := Lib.hid (own_under O6.out ((Below.refl y6.heap.size y6).alloc (Nat.le_refl _) (.cells zbk 29)) (Nat.le_refl _))
              have HT0 := Below.alloc hS (Below.size hS) (.cells zbk 29)
              refine hK.out _ _ (HT0) (fun hT => ?_)
              clear hK hS
              have hS := hT
              clear hT
              refine wpAnyH_ready (rs := [11]) (by kernel_rfl) (by simp) ?_
              refine AllReadyH.cons rfl (fun K hK => ?_) AllReadyH.nil
              rw [if_pos (by rfl)]
              refine wp_store_at 29 (.tmp 11) (.tmp 88) rfl rfl y6.heap.size rfl (bkA d (.slice A5 pn c5) (.slice A6 n2 c6)) zbk 3 rfl strBk rfl rfl (bkA_one _ _ _ _ _ _ _) AX.out ?_
              intro w9 ha9 hg9
              have HN := Lib.hid (show BkN y5 y6.heap.size d ps pn rs2 n2 A5 c5 A6 c6 w9 from BkN.put hS HY.out OX5.out OX6.out HG.out AX.out ha9 hg9)
              clear ha9 hg9
              refine hK.out _ _ (HN.out.bel) (fun hT => ?_)
              clear hK hS
              have hS := hT
              clear hT
              dsimp only [Act.put]
              refine tkS 12 hS ?_
              refine wpAnyH_done (by kernel_rfl) ?_ _
              go_wp2_with fail
              go_meet
              exact ⟨_, A5, c5, A6, c6, rfl, rfl, HN⟩
            · go_simp
              rw [zb0.out]
              have AX0 := Lib.hid (At.new y5.drew 29 zbk)
              have HT0 := Below.alloc hS (Below.size hS) (.cells zbk 29)
              have HG := Lib.hid (Below.size hS)
              refine hK.out _ _ (HT0) (fun hT => ?_)
              clear hK hS
              have hS := hT
              clear hT
              refine wpAnyH_ready (rs := [6]) (by kernel_rfl) (by simp) ?_
              refine AllReadyH.cons rfl (fun K hK => ?_) AllReadyH.nil
              go_simp
              refine (HACT.out (y5.drew.alloc (.cells zbk 29)) hS).mono ?_
              rintro e y6 ⟨A5, c5, A6, c6, rfl, h5, h6, hb6⟩
              have hb : True := trivial
              have O5 := Lib.hid h5
              have O6 := Lib.hid h6
              have B6 := Lib.hid hb6
              have HS1 := Lib.hid hS
              clear h5 h6 hb6
              refine hK.out _ _ (HS1.out.trans (B6.out.mono (Below.size HS1.out))) (fun hT => ?_)
              clear hK hS
              have hS := hT
              clear hT
              have AX := Lib.hid (AX0.out.under B6.out AX0.out.lt)
              have OX5 := O5
              have OX6 := O6
              have HY := Lib.hid (Below.size HS1.out)
              refine tkS 7 hS ?_
              refine tkS 8 hS ?_
              refine tkS 9 hS ?_
              refine wpAnyH_ready (rs := [11]) (by kernel_rfl) (by simp) ?_
              refine AllReadyH.cons rfl (fun K hK => ?_) AllReadyH.nil
              rw [if_pos (by rfl)]
              refine wp_store_at 29 (.tmp 11) (.tmp 88) rfl rfl y5.drew.heap.size rfl (bkA d (.slice A5 pn c5) (.slice A6 n2 c6)) zbk 3 rfl strBk rfl rfl (bkA_one _ _ _ _ _ _ _) AX.out ?_
              intro w9 ha9 hg9
              have HN := Lib.hid (show BkN y5 y5.drew.heap.size d ps pn rs2 n2 A5 c5 A6 c6 w9 from BkN.put hS HY.out OX5.out OX6.out HG.out AX.out ha9 hg9)
              clear ha9 hg9
              refine hK.out _ _ (HN.out.bel) (fun hT => ?_)
              clear hK hS
              have hS := hT
              clear hT
              dsimp only [Act.put]
              refine tkS 12 hS ?_
              refine wpAnyH_done (by kernel_rfl) ?_ _
              go_wp2_with fail
              go_meet
              exact ⟨_, A5, c5, A6, c6, rfl, rfl, HN⟩
          obtain ⟨gx, A5, c5, A6, c6, rfl, rfl, HN⟩ := hcut
          rename World => y7
          have HY : Hid (∀ wz, Below y7.heap.size y7 wz → Below y5.heap.size y5 wz) := fun wz hz => HN.out.bel.trans (hz.mono HN.out.bel.size)
          have HMx : Hid (∀ wz, Below y7.heap.size y7 wz → At wz w.heap.size 29 (bkA d (.slice PA pn pc) (.slice RA rn rc))) := fun wz hz => HM.out.box.under (HY.out wz hz) HM.out.box.lt
          go_upto_region 15 with fail
          refine wp_region_held_drew (S := fun wz => Below y7.heap.size y7 wz) (by kernel_rfl) (Below.refl _ y7).drew (fun hS => ?_)
          refine tkS 0 hS ?_
          refine tkS 1 hS ?_
          refine tkS 2 hS ?_ (hy := by intro wz hz; have q0 : wz.cell? ⟨g, o + k * 7 + 1, none⟩ = some (.int .u64 (r.id : Int)) := R1.out wz (HY.out wz hz) 0 _ rfl; have q2 : wz.cell? ⟨w.heap.size, 1, none⟩ = some (.slice PA pn pc) := (HMx.out wz hz).cell 1; go_simp <;> with_reducible rfl)
          refine tkS 3 hS ?_
          refine tkS 4 hS ?_
          refine tkS 5 hS ?_
          refine tkS 6 hS ?_
          refine tkS 7 hS ?_
          refine tkS (v := .agg (rcA r)) 8 hS ?_ (hy := by intro wz hz; have q0 : wz.cell? ⟨g, o + k * 7 + 1, none⟩ = some (.int .u64 (r.id : Int)) := R1.out wz (HY.out wz hz) 0 _ rfl; have q2 : wz.cell? ⟨w.heap.size, 1, none⟩ = some (.slice PA pn pc) := (HMx.out wz hz).cell 1; exact exec_load_rc (.tmp 98) rfl g (o + k * 7 + 1) rfl r (R1.out wz (HY.out wz hz)))
          refine wpAnyH_ready (rs := [9]) (by kernel_rfl) (by simp) ?_
          refine AllReadyH.cons rfl (fun K hK => ?_) AllReadyH.nil
          go_simp
          refine (HREF.out y7.drew (HY.out _ hS)).mono ?_
          rintro e y8 ⟨A9, c9, rfl, h9, hc9, hb8⟩
          have hb : True := trivial
          have O9 := Lib.hid h9
          have B8 := Lib.hid hb8
          have HS1 := Lib.hid hS
          clear h9 hb8
          refine hK.out _ _ (HS1.out.trans (B8.out.mono (Below.size HS1.out))) (fun hT => ?_)
          clear hK hS
          have hS := hT
          clear hT
          refine tkS 10 hS ?_
          refine tkS 11 hS ?_
          refine tkS 12 hS ?_
          refine tkS 13 hS ?_
          refine tkS 14 hS ?_
          refine wpAnyH_done (by kernel_rfl) ?_ _
          have HB8 := Lib.hid (show Below y7.heap.size y7 y8 from hS)
          clear hS
          have HN8 := Lib.hid (HN.out.call HB8.out)
          have HM8 := Lib.hid (HM.out.call HN8.out.bel)
          have HWS8 := Lib.hid (HWS.out.call HN8.out.bel)
          go_upto_region 25 with (first
            | (refine wpList_load_at 29 103 (.tmp 11) rfl rfl rfl gx rfl (bkA d (.slice A5 pn c5) (.slice A6 n2 c6)) 3 strBk rfl HN8.out.box ?_)
            | (refine wpList_store_at 29 (.tmp 2) (.tmp 103) rfl rfl rfl w.heap.size rfl (bkA d (.slice A5 pn c5) (.slice A6 n2 c6)) (bkA d (.slice PA pn pc) (.slice RA rn rc)) 3 rfl strBk rfl rfl (bkA_one _ _ _ _ _ _ _) HM8.out.box ?_; intro y9 ha9 hg9; have HM9 := Lib.hid (HM.out.take (y := y8) HN8.out O9.out ha9 hg9); have HWS9 := Lib.hid (HWS8.out.store hg9); have cb : y9.cell? ⟨w.heap.size, 2, none⟩ = some (.slice A6 n2 c6) := HM9.out.box.cell 2; clear ha9 hg9)
            )
          clear HACT HREF HBK HRF R0 R1 HY HMx HM8 HWS8 HM HWS HN HN8
          go_wp2_with fail
          refine (Same_any A6 A9 n2 c6 c9 rs2 y9 HM9.out.recs.any HM9.out.ref.any (by omega)).mono ?_
          rintro e ya ⟨rfl, hba⟩
          have HMa := Lib.hid (HM9.out.call hba)
          have HWSa := Lib.hid (HWS9.out.call hba)
          have cw : ya.cell? ⟨y4.heap.size, 2, none⟩ = some (.slice RA rn rc) := HWSa.out.box.cell 2
          clear hba cb
          go_wp2_with fail
          refine (Same_any RA A7 rn rc c7 rs ya HWSa.out.recs.any HWSa.out.ref.any (by omega)).mono ?_
          rintro e yb ⟨rfl, hbb⟩
          have HMb := Lib.hid (HMa.out.call hbb)
          clear hbb cw
          go_wp2_with fail
          exact ⟨⟨k + 1, rs2, n2, A5, c5, A6, c6, A9, c9, by omega, rfl, rfl, rfl, by go_num, HR2, HN2, HMb, Lib.hid hc9⟩, by simp [intOf]; omega⟩
      · by_cases k2 : kd = 2
        · have H1 : Hid ((dropR rs r.id).1 = rs2) := by have := HRS2.out; unfold stepR at this; rw [if_neg k01, if_pos k2] at this; exact this
          obtain ⟨cd, hcd⟩ : ∃ cd, (dropR rs r.id).2 = cd := ⟨_, rfl⟩
          have HACT : Hid (∀ wz, Below y5.heap.size y5 wz → Calls Try.prog 23 #[.agg (bkA d (.slice PA pn pc) (.slice RA rn rc)), .int .u64 (r.id : Int)] wz (RetBN wz d ps pn rs2 n2 (.bool cd))) := fun wz hz => (Drop_any d PA pn pc RA rn rc ps rs r.id wz (HBK.out wz hz) (by omega) (by omega) hcap).mono fun _ _ h => h.named H1.out HN2.out (by rw [hcd])
          have HREF : Hid (∀ wz, Below y5.heap.size y5 wz → Calls Try.prog 28 #[.slice A7 rn c7, .int .u64 (r.id : Int)] wz (RetRN wz rs2 n2 (.bool cd))) := fun wz hz => (rDrop_any A7 rn c7 rs r.id wz (HRF.out wz hz) (by omega) HC7.out).mono fun _ _ h => h.named H1.out HN2.out (by rw [hcd])
          clear H1 hcd HRS2 k01
          subst k2
          go_upto_region 20 with fail
          go_cut [15, 16] from 112 to 122 (fun sx sc wx => ∃ (gx : Nat) (A5 : Option Addr) (c5 : Nat) (A6 : Option Addr) (c6 : Nat), sx = .pointer (some ⟨gx, 0, none⟩) ∧ sc = .bool cd ∧ Hid (BkN y5 gx d ps pn rs2 n2 A5 c5 A6 c6 wx))
          case first =>
            refine wp_region_held_drew (S := fun wz => Below y5.heap.size y5 wz) (by kernel_rfl) (Below.refl _ y5).drew (fun hS => ?_)
            refine tkS (v := .agg (bkA d (.slice PA pn pc) (.slice RA rn rc))) 0 hS ?_ (hy := by intro wz hz; have q0 : wz.cell? ⟨g, o + k * 7 + 1, none⟩ = some (.int .u64 (r.id : Int)) := R1.out wz hz 0 _ rfl; exact exec_load_at 29 (.tmp 2) rfl w.heap.size rfl _ 3 strBk rfl (HM.out.box.under hz HM.out.box.lt))
            refine tkS 1 hS ?_
            refine tkS 2 hS ?_
            refine tkS 3 hS ?_
            refine tkS 4 hS ?_
            refine tkS 5 hS ?_
            refine tkS 6 hS ?_ (hy := by intro wz hz; have q0 : wz.cell? ⟨g, o + k * 7 + 1, none⟩ = some (.int .u64 (r.id : Int)) := R1.out wz hz 0 _ rfl; go_simp <;> with_reducible rfl)
            refine wpAnyH_ready (rs := [7, 11]) (by kernel_rfl) (by simp) ?_
            refine AllReadyH.cons rfl (fun K hK => ?_) (AllReadyH.cons rfl (fun K hK => ?_) AllReadyH.nil)
            · go_simp
              refine (HACT.out y5.drew hS).mono ?_
              rintro e y6 ⟨A5, c5, A6, c6, rfl, h5, h6, hb6⟩
              have hb : True := trivial
              have O5 := Lib.hid h5
              have O6 := Lib.hid h6
              have B6 := Lib.hid hb6
              have HS1 := Lib.hid hS
              clear h5 h6 hb6
              refine hK.out _ _ (HS1.out.trans (B6.out.mono (Below.size HS1.out))) (fun hT => ?_)
              clear hK hS
              have hS := hT
              clear hT
              refine tkS 8 hS ?_
              refine tkS 9 hS ?_
              refine tkS 10 hS ?_
              refine wpAnyH_ready (rs := [11]) (by kernel_rfl) (by simp) ?_
              refine AllReadyH.cons rfl (fun K hK => ?_) AllReadyH.nil
              go_simp
              rw [zb0.out]
              have AX := Lib.hid (At.new y6 29 zbk)
              have HY := Lib.hid (Below.size HS1.out)
              have HG := Lib.hid (show y5.heap.size ≤ y6.heap.size from Below.size hS)
              have OX5 := Lib.hid (own_under O5.out ((Below.refl y6.heap.size y6).alloc (Nat.le_refl _) (.cells zbk 29)) (Nat.le_refl _))
              have OX6 := Lib.hid (own_under O6.out ((Below.refl y6.heap.size y6).alloc (Nat.le_refl _) (.cells zbk 29)) (Nat.le_refl _))
              have HT0 := Below.alloc hS (Below.size hS) (.cells zbk 29)
              refine hK.out _ _ (HT0) (fun hT => ?_)
              clear hK hS
              have hS := hT
              clear hT
              refine wpAnyH_ready (rs := [12]) (by kernel_rfl) (by simp) ?_
              refine AllReadyH.cons rfl (fun K hK => ?_) AllReadyH.nil
              rw [if_pos (by rfl)]
              refine wp_store_at 29 (.tmp 15) (.tmp 121) rfl rfl y6.heap.size rfl (bkA d (.slice A5 pn c5) (.slice A6 n2 c6)) zbk 3 rfl strBk rfl rfl (bkA_one _ _ _ _ _ _ _) AX.out ?_
              intro w9 ha9 hg9
              have HN := Lib.hid (show BkN y5 y6.heap.size d ps pn rs2 n2 A5 c5 A6 c6 w9 from BkN.put hS HY.out OX5.out OX6.out HG.out AX.out ha9 hg9)
              clear ha9 hg9
              refine hK.out _ _ (HN.out.bel) (fun hT => ?_)
              clear hK hS
              have hS := hT
              clear hT
              dsimp only [Act.put]
              refine tkS 13 hS ?_
              refine wpAnyH_done (by kernel_rfl) ?_ _
              go_wp2_with fail
              go_meet
              exact ⟨_, A5, c5, A6, c6, rfl, rfl, HN⟩
            · go_simp
              rw [zb0.out]
              have AX0 := Lib.hid (At.new y5.drew 29 zbk)
              have HT0 := Below.alloc hS (Below.size hS) (.cells zbk 29)
              have HG := Lib.hid (Below.size hS)
              refine hK.out _ _ (HT0) (fun hT => ?_)
              clear hK hS
              have hS := hT
              clear hT
              refine wpAnyH_ready (rs := [7]) (by kernel_rfl) (by simp) ?_
              refine AllReadyH.cons rfl (fun K hK => ?_) AllReadyH.nil
              go_simp
              refine (HACT.out (y5.drew.alloc (.cells zbk 29)) hS).mono ?_
              rintro e y6 ⟨A5, c5, A6, c6, rfl, h5, h6, hb6⟩
              have hb : True := trivial
              have O5 := Lib.hid h5
              have O6 := Lib.hid h6
              have B6 := Lib.hid hb6
              have HS1 := Lib.hid hS
              clear h5 h6 hb6
              refine hK.out _ _ (HS1.out.trans (B6.out.mono (Below.size HS1.out))) (fun hT => ?_)
              clear hK hS
              have hS := hT
              clear hT
              have AX := Lib.hid (AX0.out.under B6.out AX0.out.lt)
              have OX5 := O5
              have OX6 := O6
              have HY := Lib.hid (Below.size HS1.out)
              refine tkS 8 hS ?_
              refine tkS 9 hS ?_
              refine tkS 10 hS ?_
              refine wpAnyH_ready (rs := [12]) (by kernel_rfl) (by simp) ?_
              refine AllReadyH.cons rfl (fun K hK => ?_) AllReadyH.nil
              rw [if_pos (by rfl)]
              refine wp_store_at 29 (.tmp 15) (.tmp 121) rfl rfl y5.drew.heap.size rfl (bkA d (.slice A5 pn c5) (.slice A6 n2 c6)) zbk 3 rfl strBk rfl rfl (bkA_one _ _ _ _ _ _ _) AX.out ?_
              intro w9 ha9 hg9
              have HN := Lib.hid (show BkN y5 y5.drew.heap.size d ps pn rs2 n2 A5 c5 A6 c6 w9 from BkN.put hS HY.out OX5.out OX6.out HG.out AX.out ha9 hg9)
              clear ha9 hg9
              refine hK.out _ _ (HN.out.bel) (fun hT => ?_)
              clear hK hS
              have hS := hT
              clear hT
              dsimp only [Act.put]
              refine tkS 13 hS ?_
              refine wpAnyH_done (by kernel_rfl) ?_ _
              go_wp2_with fail
              go_meet
              exact ⟨_, A5, c5, A6, c6, rfl, rfl, HN⟩
          obtain ⟨gx, A5, c5, A6, c6, rfl, rfl, HN⟩ := hcut
          rename World => y7
          have HY : Hid (∀ wz, Below y7.heap.size y7 wz → Below y5.heap.size y5 wz) := fun wz hz => HN.out.bel.trans (hz.mono HN.out.bel.size)
          have HMx : Hid (∀ wz, Below y7.heap.size y7 wz → At wz w.heap.size 29 (bkA d (.slice PA pn pc) (.slice RA rn rc))) := fun wz hz => HM.out.box.under (HY.out wz hz) HM.out.box.lt
          have q0 : y7.cell? ⟨g, o + k * 7 + 1, none⟩ = some (.int .u64 (r.id : Int)) := R1.out y7 (HY.out _ (Below.refl _ _)) 0 _ rfl
          go_upto_region 22 with (first
            | (go_at_call 28; refine (HREF.out y7 (HY.out _ (Below.refl _ _))).mono ?_; rintro e y8 ⟨A9, c9, rfl, h9, hc9, hb8⟩; have O9 := Lib.hid h9; have HB8 := Lib.hid hb8; clear h9 hb8)
            )
          have HN8 := Lib.hid (HN.out.call HB8.out)
          have HM8 := Lib.hid (HM.out.call HN8.out.bel)
          have HWS8 := Lib.hid (HWS.out.call HN8.out.bel)
          go_upto_region 25 with (first
            | (refine wpList_load_at 29 134 (.tmp 15) rfl rfl rfl gx rfl (bkA d (.slice A5 pn c5) (.slice A6 n2 c6)) 3 strBk rfl HN8.out.box ?_)
            | (refine wpList_store_at 29 (.tmp 2) (.tmp 134) rfl rfl rfl w.heap.size rfl (bkA d (.slice A5 pn c5) (.slice A6 n2 c6)) (bkA d (.slice PA pn pc) (.slice RA rn rc)) 3 rfl strBk rfl rfl (bkA_one _ _ _ _ _ _ _) HM8.out.box ?_; intro y9 ha9 hg9; have HM9 := Lib.hid (HM.out.take (y := y8) HN8.out O9.out ha9 hg9); have HWS9 := Lib.hid (HWS8.out.store hg9); have cb : y9.cell? ⟨w.heap.size, 2, none⟩ = some (.slice A6 n2 c6) := HM9.out.box.cell 2; clear ha9 hg9)
            )
          clear HACT HREF HBK HRF R0 R1 HY HMx HM8 HWS8 HM HWS HN HN8
          go_wp2_with fail
          refine (Same_any A6 A9 n2 c6 c9 rs2 y9 HM9.out.recs.any HM9.out.ref.any (by omega)).mono ?_
          rintro e ya ⟨rfl, hba⟩
          have HMa := Lib.hid (HM9.out.call hba)
          have HWSa := Lib.hid (HWS9.out.call hba)
          have cw : ya.cell? ⟨y4.heap.size, 2, none⟩ = some (.slice RA rn rc) := HWSa.out.box.cell 2
          clear hba cb
          go_wp2_with fail
          refine (Same_any RA A7 rn rc c7 rs ya HWSa.out.recs.any HWSa.out.ref.any (by omega)).mono ?_
          rintro e yb ⟨rfl, hbb⟩
          have HMb := Lib.hid (HMa.out.call hbb)
          clear hbb cw
          go_wp2_with fail
          exact ⟨⟨k + 1, rs2, n2, A5, c5, A6, c6, A9, c9, by omega, rfl, rfl, rfl, by go_num, HR2, HN2, HMb, Lib.hid hc9⟩, by simp [intOf]; omega⟩
        · have n0 : ¬ kd = 0 := fun e => k01 (.inl e)
          have n1 : ¬ kd = 1 := fun e => k01 (.inr e)
          have d0 : decide (kd = 0) = false := decide_eq_false n0
          have d1 : decide (kd = 1) = false := decide_eq_false n1
          have d2 : decide (kd = 2) = false := decide_eq_false k2
          have b0 : (kd == 0) = false := d0
          have b1 : (kd == 1) = false := d1
          have b2 : (kd == 2) = false := d2
          obtain ⟨b3, hb3⟩ : ∃ b3, decide (kd = 3) = b3 := ⟨_, rfl⟩
          have HB3 := Lib.hid hb3
          have H1 : Hid ((markR rs r.id b3).1 = rs2) := by have := HRS2.out; unfold stepR at this; rw [if_neg k01, if_neg k2] at this; rw [← hb3]; exact this
          obtain ⟨cd, hcd⟩ : ∃ cd, (markR rs r.id b3).2 = cd := ⟨_, rfl⟩
          have HACT : Hid (∀ wz, Below y5.heap.size y5 wz → Calls Try.prog 22 #[.agg (bkA d (.slice PA pn pc) (.slice RA rn rc)), .int .u64 (r.id : Int), .bool b3] wz (RetBN wz d ps pn rs2 n2 (.bool cd))) := fun wz hz => (Mark_any d PA pn pc RA rn rc ps rs r.id b3 wz (HBK.out wz hz) (by omega) (by omega)).mono fun _ _ h => h.named H1.out HN2.out (by rw [hcd])
          have HREF : Hid (∀ wz, Below y5.heap.size y5 wz → Calls Try.prog 29 #[.slice A7 rn c7, .int .u64 (r.id : Int), .bool b3] wz (RetRN wz rs2 n2 (.bool cd))) := fun wz hz => (rMark_any A7 rn c7 rs r.id b3 wz (HRF.out wz hz) (by omega) HC7.out).mono fun _ _ h => h.named H1.out HN2.out (by rw [hcd])
          clear H1 hcd HRS2 k01 hb3
          go_upto_region 7 with fail
          go_cut [19, 20] from 36 to 52 (fun sx sc wx => ∃ (gx : Nat) (A5 : Option Addr) (c5 : Nat) (A6 : Option Addr) (c6 : Nat), sx = .pointer (some ⟨gx, 0, none⟩) ∧ sc = .bool cd ∧ Hid (BkN y5 gx d ps pn rs2 n2 A5 c5 A6 c6 wx))
          case first =>
            refine wp_region_held_drew (S := fun wz => Below y5.heap.size y5 wz) (by kernel_rfl) (Below.refl _ y5).drew (fun hS => ?_)
            refine tkS (v := .agg (bkA d (.slice PA pn pc) (.slice RA rn rc))) 0 hS ?_ (hy := by intro wz hz; have q0 : wz.cell? ⟨g, o + k * 7 + 1, none⟩ = some (.int .u64 (r.id : Int)) := R1.out wz hz 0 _ rfl; have q1 : wz.cell? ⟨g, o + k * 7, none⟩ = some (.int .i64 kd) := R0.out wz hz; exact exec_load_at 29 (.tmp 2) rfl w.heap.size rfl _ 3 strBk rfl (HM.out.box.under hz HM.out.box.lt))
            refine tkS 1 hS ?_
            refine tkS 2 hS ?_
            refine tkS 3 hS ?_
            refine tkS 4 hS ?_
            refine tkS 5 hS ?_
            refine tkS 6 hS ?_ (hy := by intro wz hz; have q0 : wz.cell? ⟨g, o + k * 7 + 1, none⟩ = some (.int .u64 (r.id : Int)) := R1.out wz hz 0 _ rfl; have q1 : wz.cell? ⟨g, o + k * 7, none⟩ = some (.int .i64 kd) := R0.out wz hz; go_simp <;> with_reducible rfl)
            refine tkS 7 hS ?_
            refine tkS 8 hS ?_
            refine tkS 9 hS ?_
            refine tkS 10 hS ?_
            refine tkS 11 hS ?_ (hy := by intro wz hz; have q0 : wz.cell? ⟨g, o + k * 7 + 1, none⟩ = some (.int .u64 (r.id : Int)) := R1.out wz hz 0 _ rfl; have q1 : wz.cell? ⟨g, o + k * 7, none⟩ = some (.int .i64 kd) := R0.out wz hz; go_simp <;> with_reducible rfl)
            refine tkS (v := .bool b3) 12 hS ?_ (hy := by intro wz hz; have q0 : wz.cell? ⟨g, o + k * 7 + 1, none⟩ = some (.int .u64 (r.id : Int)) := R1.out wz hz 0 _ rfl; have q1 : wz.cell? ⟨g, o + k * 7, none⟩ = some (.int .i64 kd) := R0.out wz hz; (go_simp <;> rw [show (kd == 3) = b3 from HB3.out]))
            refine wpAnyH_ready (rs := [13, 17]) (by kernel_rfl) (by simp) ?_
            refine AllReadyH.cons rfl (fun K hK => ?_) (AllReadyH.cons rfl (fun K hK => ?_) AllReadyH.nil)
            · go_simp
              refine (HACT.out y5.drew hS).mono ?_
              rintro e y6 ⟨A5, c5, A6, c6, rfl, h5, h6, hb6⟩
              have hb : True := trivial
              have O5 := Lib.hid h5
              have O6 := Lib.hid h6
              have B6 := Lib.hid hb6
              have HS1 := Lib.hid hS
              clear h5 h6 hb6
              refine hK.out _ _ (HS1.out.trans (B6.out.mono (Below.size HS1.out))) (fun hT => ?_)
              clear hK hS
              have hS := hT
              clear hT
              refine tkS 14 hS ?_
              refine tkS 15 hS ?_
              refine tkS 16 hS ?_
              refine wpAnyH_ready (rs := [17]) (by kernel_rfl) (by simp) ?_
              refine AllReadyH.cons rfl (fun K hK => ?_) AllReadyH.nil
              go_simp
              rw [zb0.out]
              have AX := Lib.hid (At.new y6 29 zbk)
              have HY := Lib.hid (Below.size HS1.out)
              have HG := Lib.hid (show y5.heap.size ≤ y6.heap.size from Below.size hS)
              have OX5 := Lib.hid (own_under O5.out ((Below.refl y6.heap.size y6).alloc (Nat.le_refl _) (.cells zbk 29)) (Nat.le_refl _))
              have OX6 := Lib.hid (own_under O6.out ((Below.refl y6.heap.size y6).alloc (Nat.le_refl _) (.cells zbk 29)) (Nat.le_refl _))
              have HT0 := Below.alloc hS (Below.size hS) (.cells zbk 29)
              refine hK.out _ _ (HT0) (fun hT => ?_)
              clear hK hS
              have hS := hT
              clear hT
              refine wpAnyH_ready (rs := [18]) (by kernel_rfl) (by simp) ?_
              refine AllReadyH.cons rfl (fun K hK => ?_) AllReadyH.nil
              rw [if_pos (by rfl)]
              refine wp_store_at 29 (.tmp 19) (.tmp 51) rfl rfl y6.heap.size rfl (bkA d (.slice A5 pn c5) (.slice A6 n2 c6)) zbk 3 rfl strBk rfl rfl (bkA_one _ _ _ _ _ _ _) AX.out ?_
              intro w9 ha9 hg9
              have HN := Lib.hid (show BkN y5 y6.heap.size d ps pn rs2 n2 A5 c5 A6 c6 w9 from BkN.put hS HY.out OX5.out OX6.out HG.out AX.out ha9 hg9)
              clear ha9 hg9
              refine hK.out _ _ (HN.out.bel) (fun hT => ?_)
              clear hK hS
              have hS := hT
              clear hT
              dsimp only [Act.put]
              refine tkS 19 hS ?_
              refine wpAnyH_done (by kernel_rfl) ?_ _
              go_wp2_with fail
              go_meet
              exact ⟨_, A5, c5, A6, c6, rfl, rfl, HN⟩
            · go_simp
              rw [zb0.out]
              have AX0 := Lib.hid (At.new y5.drew 29 zbk)
              have HT0 := Below.alloc hS (Below.size hS) (.cells zbk 29)
              have HG := Lib.hid (Below.size hS)
              refine hK.out _ _ (HT0) (fun hT => ?_)
              clear hK hS
              have hS := hT
              clear hT
              refine wpAnyH_ready (rs := [13]) (by kernel_rfl) (by simp) ?_
              refine AllReadyH.cons rfl (fun K hK => ?_) AllReadyH.nil
              go_simp
              refine (HACT.out (y5.drew.alloc (.cells zbk 29)) hS).mono ?_
              rintro e y6 ⟨A5, c5, A6, c6, rfl, h5, h6, hb6⟩
              have hb : True := trivial
              have O5 := Lib.hid h5
              have O6 := Lib.hid h6
              have B6 := Lib.hid hb6
              have HS1 := Lib.hid hS
              clear h5 h6 hb6
              refine hK.out _ _ (HS1.out.trans (B6.out.mono (Below.size HS1.out))) (fun hT => ?_)
              clear hK hS
              have hS := hT
              clear hT
              have AX := Lib.hid (AX0.out.under B6.out AX0.out.lt)
              have OX5 := O5
              have OX6 := O6
              have HY := Lib.hid (Below.size HS1.out)
              refine tkS 14 hS ?_
              refine tkS 15 hS ?_
              refine tkS 16 hS ?_
              refine wpAnyH_ready (rs := [18]) (by kernel_rfl) (by simp) ?_
              refine AllReadyH.cons rfl (fun K hK => ?_) AllReadyH.nil
              rw [if_pos (by rfl)]
              refine wp_store_at 29 (.tmp 19) (.tmp 51) rfl rfl y5.drew.heap.size rfl (bkA d (.slice A5 pn c5) (.slice A6 n2 c6)) zbk 3 rfl strBk rfl rfl (bkA_one _ _ _ _ _ _ _) AX.out ?_
              intro w9 ha9 hg9
              have HN := Lib.hid (show BkN y5 y5.drew.heap.size d ps pn rs2 n2 A5 c5 A6 c6 w9 from BkN.put hS HY.out OX5.out OX6.out HG.out AX.out ha9 hg9)
              clear ha9 hg9
              refine hK.out _ _ (HN.out.bel) (fun hT => ?_)
              clear hK hS
              have hS := hT
              clear hT
              dsimp only [Act.put]
              refine tkS 19 hS ?_
              refine wpAnyH_done (by kernel_rfl) ?_ _
              go_wp2_with fail
              go_meet
              exact ⟨_, A5, c5, A6, c6, rfl, rfl, HN⟩
          obtain ⟨gx, A5, c5, A6, c6, rfl, rfl, HN⟩ := hcut
          rename World => y7
          have HY : Hid (∀ wz, Below y7.heap.size y7 wz → Below y5.heap.size y5 wz) := fun wz hz => HN.out.bel.trans (hz.mono HN.out.bel.size)
          have HMx : Hid (∀ wz, Below y7.heap.size y7 wz → At wz w.heap.size 29 (bkA d (.slice PA pn pc) (.slice RA rn rc))) := fun wz hz => HM.out.box.under (HY.out wz hz) HM.out.box.lt
          go_upto_region 8 with fail
          refine wp_region_held_drew (S := fun wz => Below y7.heap.size y7 wz) (by kernel_rfl) (Below.refl _ y7).drew (fun hS => ?_)
          refine tkS 0 hS ?_
          refine tkS 1 hS ?_
          refine tkS 2 hS ?_
          refine tkS 3 hS ?_
          refine tkS 4 hS ?_
          refine tkS 5 hS ?_
          refine tkS 6 hS ?_ (hy := by intro wz hz; have q0 : wz.cell? ⟨g, o + k * 7 + 1, none⟩ = some (.int .u64 (r.id : Int)) := R1.out wz (HY.out wz hz) 0 _ rfl; have q1 : wz.cell? ⟨g, o + k * 7, none⟩ = some (.int .i64 kd) := R0.out wz (HY.out wz hz); have q2 : wz.cell? ⟨w.heap.size, 1, none⟩ = some (.slice PA pn pc) := (HMx.out wz hz).cell 1; go_simp <;> with_reducible rfl)
          refine tkS 7 hS ?_
          refine tkS 8 hS ?_
          refine tkS 9 hS ?_
          refine tkS 10 hS ?_
          refine tkS 11 hS ?_ (hy := by intro wz hz; have q0 : wz.cell? ⟨g, o + k * 7 + 1, none⟩ = some (.int .u64 (r.id : Int)) := R1.out wz (HY.out wz hz) 0 _ rfl; have q1 : wz.cell? ⟨g, o + k * 7, none⟩ = some (.int .i64 kd) := R0.out wz (HY.out wz hz); have q2 : wz.cell? ⟨w.heap.size, 1, none⟩ = some (.slice PA pn pc) := (HMx.out wz hz).cell 1; go_simp <;> with_reducible rfl)
          refine tkS (v := .bool b3) 12 hS ?_ (hy := by intro wz hz; have q0 : wz.cell? ⟨g, o + k * 7 + 1, none⟩ = some (.int .u64 (r.id : Int)) := R1.out wz (HY.out wz hz) 0 _ rfl; have q1 : wz.cell? ⟨g, o + k * 7, none⟩ = some (.int .i64 kd) := R0.out wz (HY.out wz hz); have q2 : wz.cell? ⟨w.heap.size, 1, none⟩ = some (.slice PA pn pc) := (HMx.out wz hz).cell 1; (go_simp <;> rw [show (kd == 3) = b3 from HB3.out]))
          refine wpAnyH_ready (rs := [13]) (by kernel_rfl) (by simp) ?_
          refine AllReadyH.cons rfl (fun K hK => ?_) AllReadyH.nil
          go_simp
          refine (HREF.out y7.drew (HY.out _ hS)).mono ?_
          rintro e y8 ⟨A9, c9, rfl, h9, hc9, hb8⟩
          have hb : True := trivial
          have O9 := Lib.hid h9
          have B8 := Lib.hid hb8
          have HS1 := Lib.hid hS
          clear h9 hb8
          refine hK.out _ _ (HS1.out.trans (B8.out.mono (Below.size HS1.out))) (fun hT => ?_)
          clear hK hS
          have hS := hT
          clear hT
          refine tkS 14 hS ?_
          refine tkS 15 hS ?_
          refine tkS 16 hS ?_
          refine tkS 17 hS ?_
          refine tkS 18 hS ?_
          refine wpAnyH_done (by kernel_rfl) ?_ _
          have HB8 := Lib.hid (show Below y7.heap.size y7 y8 from hS)
          clear hS
          have HN8 := Lib.hid (HN.out.call HB8.out)
          have HM8 := Lib.hid (HM.out.call HN8.out.bel)
          have HWS8 := Lib.hid (HWS.out.call HN8.out.bel)
          go_upto_region 25 with (first
            | (refine wpList_load_at 29 70 (.tmp 19) rfl rfl rfl gx rfl (bkA d (.slice A5 pn c5) (.slice A6 n2 c6)) 3 strBk rfl HN8.out.box ?_)
            | (refine wpList_store_at 29 (.tmp 2) (.tmp 70) rfl rfl rfl w.heap.size rfl (bkA d (.slice A5 pn c5) (.slice A6 n2 c6)) (bkA d (.slice PA pn pc) (.slice RA rn rc)) 3 rfl strBk rfl rfl (bkA_one _ _ _ _ _ _ _) HM8.out.box ?_; intro y9 ha9 hg9; have HM9 := Lib.hid (HM.out.take (y := y8) HN8.out O9.out ha9 hg9); have HWS9 := Lib.hid (HWS8.out.store hg9); have cb : y9.cell? ⟨w.heap.size, 2, none⟩ = some (.slice A6 n2 c6) := HM9.out.box.cell 2; clear ha9 hg9)
            )
          clear HACT HREF HBK HRF R0 R1 HY HMx HM8 HWS8 HM HWS HN HN8
          go_wp2_with fail
          refine (Same_any A6 A9 n2 c6 c9 rs2 y9 HM9.out.recs.any HM9.out.ref.any (by omega)).mono ?_
          rintro e ya ⟨rfl, hba⟩
          have HMa := Lib.hid (HM9.out.call hba)
          have HWSa := Lib.hid (HWS9.out.call hba)
          have cw : ya.cell? ⟨y4.heap.size, 2, none⟩ = some (.slice RA rn rc) := HWSa.out.box.cell 2
          clear hba cb
          go_wp2_with fail
          refine (Same_any RA A7 rn rc c7 rs ya HWSa.out.recs.any HWSa.out.ref.any (by omega)).mono ?_
          rintro e yb ⟨rfl, hbb⟩
          have HMb := Lib.hid (HMa.out.call hbb)
          clear hbb cw
          go_wp2_with fail
          exact ⟨⟨k + 1, rs2, n2, A5, c5, A6, c6, A9, c9, by omega, rfl, rfl, rfl, by go_num, HR2, HN2, HMb, Lib.hid hc9⟩, by simp [intOf]; omega⟩
    · obtain rfl : k = n := by omega
      have hE1 : rsE = rs := by rw [← HE.out, HR.out]
      subst hE1
      have hE2 : nE = rn := by rw [← HEN.out, HN.out]
      subst hE2
      go_wp2_with (first
        | (refine wpList_load_at 29 155 (.tmp 2) rfl rfl rfl w.heap.size rfl (bkA d (.slice PA pn pc) (.slice RA nE rc)) 3 strBk rfl HM.out.box ?_)
        | (refine wpList_store_at 29 (.tmp 4) (.tmp 155) rfl rfl rfl (w.heap.size + 1) rfl (bkA d (.slice PA pn pc) (.slice RA nE rc)) zbk 3 rfl strBk rfl rfl (bkA_one _ _ _ _ _ _ _) HM.out.res ?_; intro y9 ha9 hg9; have A9 := Lib.hid ha9; have G9 := Lib.hid hg9; clear ha9 hg9))
      have hm : Mod (MdX w) wr y9 := (Mod.refl _ wr).grown G9.out (fun k e => .inl (.inr (by injection e with e; exact e.symm)))
      have HRES : Hid (RetMd w d ps pn rsE nE (.returned (.tuple #[.agg (bkA d (.slice PA pn pc) (.slice RA nE rc)), .slice A7 nE c7, .bool true])) y9) := ⟨PA, pc, RA, rc, A7, c7, rfl, ⟨(HM.out.nums.kept hm).any, (HM.out.recs.kept hm).any⟩, hcap, (HM.out.ref.kept hm).any, HC7.out, HM.out.bel.grown G9.out HM.out.bel.size (fun j e => by injection e with e; omega)⟩
      try dsimp only [Act.put]
      exact bodyPost_ret (results_at3 (g := w.heap.size + 1) rfl A9.out strBk rfl rfl rfl rfl) rfl HRES.out
end Go.Proofs.Ytpffnjnncgmgnaa
