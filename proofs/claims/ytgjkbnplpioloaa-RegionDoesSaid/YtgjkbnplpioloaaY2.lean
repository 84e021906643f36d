/-
  The law RegionDoes where it runs.
  Conditions: none beyond those that each theorem names.
-/
import Derived.Test.YtgjkbnplpioloaaY1
namespace Go.Proofs.Ytgjkbnplpioloaa
open Go.RowKit
attribute [local go_sem] Oper.semAt_some
set_option maxRecDepth 20000

set_option maxHeartbeats 60000000 in
theorem Does_any (p : Nat) (A : Option Addr) (n c : Nat) (l : List Rc) (DA : Option Addr) (dn dc : Nat) (w : World) (hp : p < 256) (hL : Lz NoX w 4 A n (rcsL l)) (hD : BoL w DA dn) :
    Calls Try.prog 4 #[.int .u8 (p : Int), .slice A n c, .slice DA dn dc] w (RetV w (.bool true)) := by
  have HL := Lib.hid hL
  have HD := Lib.hid hD
  clear hL hD
  by_cases h80 : 80 < n
  · go_enter Try.func4, Try.ntmps4
    go_wp2_with fail
    refine (works_any _).mono ?_
    rintro e z ⟨rfl, hk⟩
    have HK := Lib.hid hk
    clear hk
    go_wp2_with fail
    go_ret
    exact ⟨rfl, HK.out⟩
  · have hn : n ≤ 80 := by omega
    obtain ⟨pn, hpn⟩ : ∃ pn, p % 4 + 1 = pn := ⟨_, rfl⟩
    have hpn4 : pn ≤ 4 := by omega
    have HPN := Lib.hid hpn
    obtain ⟨i0, hi0, hz0, hz1, hz2⟩ := int_info
    have zb0 : Hid ((#[Value.int .i64 0, .int .i64 0, .int .i64 0, .int .i64 0, .slice none 0 0, .slice none 0 0] : Array Value) = zbk) := rfl
    obtain ⟨ps, hps⟩ : ∃ ps, List.replicate pn (0 : Int) = ps := ⟨_, rfl⟩
    have HPS := Lib.hid hps
    clear hpn hps
    go_enter Try.func4, Try.ntmps4
    go_upto_region 6 with (first
      | ((with_reducible show wpList _ _ _ (⟨some 28, _, _, _, _, _⟩ :: _) _ _); refine wpList_make_full w rfl (.tmp 27) (.tmp 27) 42 rfl w.heap.size 3 i0 (.int .i64 0) 1 Try.underlying42 hi0 hz0 hz1 .i64 .i64 _ _ pn rfl rfl (by have := HPN.out; first | omega | skip) (by have := HPN.out; first | omega | skip) (by rw [hz2]; omega) (by simp only [maxLen]; omega) (Nat.le_refl _) ?_; intro w2 ho2 hg2; rw [zerosI, HPS.out] at ho2; have HP2 : Hid (Lz NoX w2 1 (some ⟨w.heap.size, 0, none⟩) pn (ICs ps)) := Lz.of_own ho2 (fun _ h => h.elim); have HB2 : Hid (Below w.heap.size w w2) := (Below.refl _ w).grown hg2 (Nat.le_refl _) (fun j e => by cases e); clear ho2 hg2)
      | ((with_reducible show wpList _ _ _ (⟨some 29, _, _, _, _, _⟩ :: _) _ _); refine wpList_of_exec 29 (.agg (bkA zbx (.slice (some ⟨w.heap.size, 0, none⟩) pn pn) (.slice none 0 0))) rfl rfl (exec_build_b1 (.tmp 28) rfl (some ⟨w.heap.size, 0, none⟩) pn pn rfl) ?_)
      | ((with_reducible show wpList _ _ _ (⟨none, _, _, _, _, _⟩ :: _) _ _); refine wpList_store_new 44 (.tmp 7) (.tmp 29) rfl rfl rfl w2.heap.size w2 rfl rfl (bkA zbx (.slice (some ⟨w.heap.size, 0, none⟩) pn pn) (.slice none 0 0)) _ 6 rfl strBk rfl rfl (bkA_one _ _ _ _ _ _ _) rfl ?_; have HM0 := Lib.hid (MdS.start (d := zbx) (pc := pn) HB2.out HP2.out); generalize w2.alloc (.cells (bkA zbx (.slice (some ⟨w.heap.size, 0, none⟩) pn pn) (.slice none 0 0)) 44) = w3 at HM0 ⊢; generalize w2.heap.size = gB at HM0 ⊢)
      )
    go_wp2_with fail
    go_loopw [8, 9] (fun v8 vi wr => ∃ (k : Nat) (rs : List Rc) (rn : Nat) (PA : Option Addr) (pc : Nat) (RA : Option Addr) (rc : Nat) (A7 : Option Addr) (c7 : Nat), k ≤ n ∧ v8 = .slice A7 rn c7 ∧ vi = .int .i64 (k : Int) ∧ Hid (rs.length = rn) ∧ Hid (rs.length ≤ 8 * pn) ∧ Hid (MdS w gB zbx ps pn rs rn PA pc RA rc A7 wr) ∧ Hid (rn ≤ c7)) (fun _ i _ => n - (intOf i).toNat)
    case atStart => exact ⟨0, [], 0, some ⟨w.heap.size, 0, none⟩, pn, none, 0, none, 0, Nat.zero_le _, rfl, by go_num, Lib.hid rfl, Lib.hid (Nat.zero_le _), HM0, Lib.hid (Nat.le_refl _)⟩
    case round =>
      clear HM0 HP2 HB2
      obtain ⟨k, rs, rn, PA, pc, RA, rc, A7, c7, hk, rfl, rfl, HN, HLE, HM, HC7⟩ := hrel
      have hrn : rn ≤ 32 := by have := HLE.out; rw [HN.out] at this; omega
      have hcap := HM.out.cap
      by_cases hlt : k < n
      · obtain ⟨g, o, hl, rfl, hb, hc⟩ := HL.out.rc hlt
        obtain ⟨r, hr⟩ : ∃ r, l[k] = r := ⟨_, rfl⟩
        rw [hr] at hc
        rename World => y4
        have R1 : Hid (∀ wz, Below (y4.alloc (.cells (bkA zbx (.slice PA pn pc) (.slice RA rn rc)) 44)).heap.size (y4.alloc (.cells (bkA zbx (.slice PA pn pc) (.slice RA rn rc)) 44)) wz → wz.rangeAt g (o + k * 4) (rcL r)) := fun wz hz => by
          have h1 := (HM.out.bel.alloc HM.out.bel.size (.cells (bkA zbx (.slice PA pn pc) (.slice RA rn rc)) 44))
          exact pl_rangeAt_block hc ((h1.trans (hz.mono h1.size)).block g hb)
        clear hr hc hb
        go_upto_region 9 with (first
          | ((with_reducible show wpList _ _ _ (⟨some 36, _, _, _, _, _⟩ :: _) _ _); refine wpList_load_at 44 36 (.tmp 7) rfl rfl rfl gB rfl (bkA zbx (.slice PA pn pc) (.slice RA rn rc)) 6 strBk rfl HM.out.box ?_)
          | ((with_reducible show wpList _ _ _ (⟨none, _, _, _, _, _⟩ :: _) _ _); refine wpList_store_new 44 (.tmp 10) (.tmp 36) rfl rfl rfl y4.heap.size y4 rfl rfl (bkA zbx (.slice PA pn pc) (.slice RA rn rc)) _ 6 rfl strBk rfl rfl (bkA_one _ _ _ _ _ _ _) rfl ?_)
          )
        have HWS := Lib.hid HM.out.was
        replace HM := Lib.hid (HM.out.call ((Below.refl _ y4).alloc (Nat.le_refl _) (.cells (bkA zbx (.slice PA pn pc) (.slice RA rn rc)) 44)))
        generalize (y4.alloc (.cells (bkA zbx (.slice PA pn pc) (.slice RA rn rc)) 44)) = y5 at HM HWS R1 ⊢
        generalize y4.heap.size = gW at HWS ⊢
        have HBK : Hid (∀ wz, Below y5.heap.size y5 wz → BkL wz PA pn RA rn ps rs) := fun wz hz => HM.out.bk.below hz
        have HRF : Hid (∀ wz, Below y5.heap.size y5 wz → Lz NoX wz 4 A7 rn (rcsL rs)) := fun wz hz => (HM.out.ref.below hz).any
        by_cases hd : k < dn
        · obtain ⟨b0, o0, q, rfl, hb0, hc0⟩ := HD.out k hd
          have HC0 : Hid (y5.cell? ⟨b0, o0 + k, none⟩ = some (.bool q)) := (HM.out.bel.cell (p := ⟨b0, o0 + k, none⟩) hb0).trans hc0
          clear hc0
          have q0 := HC0.out
          cases q
          · skip
            obtain ⟨rs2, hrs2⟩ : ∃ rs2, (addR pn rs r).1 = rs2 := ⟨_, rfl⟩
            obtain ⟨n2, hn2⟩ : ∃ n2, rs2.length = n2 := ⟨_, rfl⟩
            obtain ⟨cd, hcd⟩ : ∃ cd, (addR pn rs r).2 = cd := ⟨_, rfl⟩
            have HL2 : Hid (rs2.length ≤ 8 * pn) := by show _ ≤ _; rw [← hrs2]; exact add_len r HLE.out
            have hn2b : n2 ≤ 32 := by have := HL2.out; omega
            have HACT : Hid (∀ wz, Below y5.heap.size y5 wz → Calls Try.prog 21 #[.agg (bkA zbx (.slice PA pn pc) (.slice RA rn rc)), .agg (rcA r)] wz (RetBN wz zbx ps pn rs2 n2 (.int .i64 cd))) := fun wz hz => (Add_any zbx PA pn pc RA rn rc ps rs r wz (HBK.out wz hz) (by omega) (by omega) hcap).mono fun _ _ h => h.named hrs2 hn2 (by rw [hcd])
            have HREF : Hid (∀ wz, Below y5.heap.size y5 wz → Calls Try.prog 22 #[.slice A7 rn c7, .int .i64 (pn : Int), .agg (rcA r)] wz (RetRN wz rs2 n2 (.int .i64 cd))) := fun wz hz => (rAdd_any A7 rn c7 rs pn r wz (HRF.out wz hz) (by omega) (by omega) HC7.out).mono fun _ _ h => h.named hrs2 hn2 (by rw [hcd])
            have HN2 := Lib.hid hn2
            clear hrs2 hn2 hcd
            go_upto_region 15 with fail
            try clear q0
            go_cut [16, 17] from 72 to 80 (fun sx sc wx => ∃ (gx : Nat) (A5 : Option Addr) (c5 : Nat) (A6 : Option Addr) (c6 : Nat), sx = .pointer (some ⟨gx, 0, none⟩) ∧ sc = .int .i64 cd ∧ Hid (BkN y5 gx zbx ps pn rs2 n2 A5 c5 A6 c6 wx))
            case first =>
              refine wp_region_held_drew (S := fun wz => Below y5.heap.size y5 wz) (by kernel_rfl) (Below.refl _ y5).drew (fun hS => ?_)
              generalize y5.drew = yd at hS ⊢
              refine tkS (v := .agg (bkA zbx (.slice PA pn pc) (.slice RA rn rc))) 0 hS ?_ (hy := by intro wz hz; exact exec_load_at 44 (.tmp 7) rfl gB rfl _ 6 strBk rfl (HM.out.box.under hz HM.out.box.lt))
              refine tkS 1 hS ?_
              refine tkS 2 hS ?_
              refine tkS 3 hS ?_
              refine tkS (v := .agg (rcA r)) 4 hS ?_ (hy := by intro wz hz; exact exec_load_rc (.tmp 75) rfl g (o + k * 4) rfl r (R1.out wz hz))
              refine wpAnyH_ready (rs := [5, 9]) (by kernel_rfl) (by simp) ?_
              refine AllReadyH.cons rfl (fun K hK => ?_) (AllReadyH.cons rfl (fun K hK => ?_) AllReadyH.nil)
              · go_simp
                refine (HACT.out yd hS).mono ?_
                rintro e y6 ⟨A5, c5, A6, c6, rfl, h5, h6, hb6⟩
                have hb : True := trivial
                have O5 := Lib.hid h5
                have O6 := Lib.hid h6
                have B6 := Lib.hid hb6
                have HS1 := Lib.hid hS
                clear h5 h6 hb6
                refine hK.out _ _ (HS1.out.trans (B6.out.mono (Below.size HS1.out))) (fun hT => ?_)
                clear hK hS
                have hS := hT
                clear hT
                refine tkS 6 hS ?_
                refine tkS 7 hS ?_
                refine tkS 8 hS ?_
                refine wpAnyH_ready (rs := [9]) (by kernel_rfl) (by simp) ?_
                refine AllReadyH.cons rfl (fun K hK => ?_) AllReadyH.nil
                go_simp
                rw [zb0.out]
                have AX := Lib.hid (At.new y6 44 zbk)
                have HY := Lib.hid (Below.size HS1.out)
                have HG := Lib.hid (show y5.heap.size ≤ y6.heap.size from Below.size hS)
                have OX5 := Lib.hid (own_under O5.out ((Below.refl y6.heap.size y6).alloc (Nat.le_refl _) (.cells zbk 44)) (Nat.le_refl _))
                have OX6 := Lib.hid (own_under O6.out ((Below.refl y6.heap.size y6).alloc (Nat.le_refl _) (.cells zbk 44)) (Nat.le_refl _))
                have HT0 := Below.alloc hS (Below.size hS) (.cells zbk 44)
                refine hK.out _ _ (HT0) (fun hT => ?_)
                clear hK hS
                have hS := hT
                clear hT
                refine wpAnyH_ready (rs := [10]) (by kernel_rfl) (by simp) ?_
                refine AllReadyH.cons rfl (fun K hK => ?_) AllReadyH.nil
                rw [if_pos (by rfl)]
                refine wp_store_at 44 (.tmp 16) (.tmp 78) rfl rfl y6.heap.size rfl (bkA zbx (.slice A5 pn c5) (.slice A6 n2 c6)) zbk 6 rfl strBk rfl rfl (bkA_one _ _ _ _ _ _ _) AX.out ?_
                intro w9 ha9 hg9
                have HN := Lib.hid (show BkN y5 y6.heap.size zbx ps pn rs2 n2 A5 c5 A6 c6 w9 from BkN.put hS HY.out OX5.out OX6.out HG.out AX.out ha9 hg9)
                clear ha9 hg9
                refine hK.out _ _ (HN.out.bel) (fun hT => ?_)
                clear hK hS
                have hS := hT
                clear hT
                dsimp only [Act.put]
                refine tkS 11 hS ?_
                refine wpAnyH_done (by kernel_rfl) ?_ _
                go_wp2_with fail
                go_meet
                exact ⟨_, A5, c5, A6, c6, rfl, rfl, HN⟩
              · go_simp
                rw [zb0.out]
                have AX0 := Lib.hid (At.new yd 44 zbk)
                have HT0 := Below.alloc hS (Below.size hS) (.cells zbk 44)
                have HG := Lib.hid (Below.size hS)
                refine hK.out _ _ (HT0) (fun hT => ?_)
                clear hK hS
                have hS := hT
                clear hT
                refine wpAnyH_ready (rs := [5]) (by kernel_rfl) (by simp) ?_
                refine AllReadyH.cons rfl (fun K hK => ?_) AllReadyH.nil
                go_simp
                refine (HACT.out (yd.alloc (.cells zbk 44)) hS).mono ?_
                rintro e y6 ⟨A5, c5, A6, c6, rfl, h5, h6, hb6⟩
                have hb : True := trivial
                have O5 := Lib.hid h5
                have O6 := Lib.hid h6
                have B6 := Lib.hid hb6
                have HS1 := Lib.hid hS
                clear h5 h6 hb6
                refine hK.out _ _ (HS1.out.trans (B6.out.mono (Below.size HS1.out))) (fun hT => ?_)
                clear hK hS
                have hS := hT
                clear hT
                have AX := Lib.hid (AX0.out.under B6.out AX0.out.lt)
                have OX5 := O5
                have OX6 := O6
                have HY := Lib.hid (Below.size HS1.out)
                refine tkS 6 hS ?_
                refine tkS 7 hS ?_
                refine tkS 8 hS ?_
                refine wpAnyH_ready (rs := [10]) (by kernel_rfl) (by simp) ?_
                refine AllReadyH.cons rfl (fun K hK => ?_) AllReadyH.nil
                rw [if_pos (by rfl)]
                refine wp_store_at 44 (.tmp 16) (.tmp 78) rfl rfl yd.heap.size rfl (bkA zbx (.slice A5 pn c5) (.slice A6 n2 c6)) zbk 6 rfl strBk rfl rfl (bkA_one _ _ _ _ _ _ _) AX.out ?_
                intro w9 ha9 hg9
                have HN := Lib.hid (show BkN y5 yd.heap.size zbx ps pn rs2 n2 A5 c5 A6 c6 w9 from BkN.put hS HY.out OX5.out OX6.out HG.out AX.out ha9 hg9)
                clear ha9 hg9
                refine hK.out _ _ (HN.out.bel) (fun hT => ?_)
                clear hK hS
                have hS := hT
                clear hT
                dsimp only [Act.put]
                refine tkS 11 hS ?_
                refine wpAnyH_done (by kernel_rfl) ?_ _
                go_wp2_with fail
                go_meet
                exact ⟨_, A5, c5, A6, c6, rfl, rfl, HN⟩
            obtain ⟨gx, A5, c5, A6, c6, rfl, rfl, HN⟩ := hcut
            rename World => y7
            have HY : Hid (∀ wz, Below y7.heap.size y7 wz → Below y5.heap.size y5 wz) := fun wz hz => HN.out.bel.trans (hz.mono HN.out.bel.size)
            have HMx : Hid (∀ wz, Below y7.heap.size y7 wz → At wz gB 44 (bkA zbx (.slice PA pn pc) (.slice RA rn rc))) := fun wz hz => HM.out.box.under (HY.out wz hz) HM.out.box.lt
            go_upto_region 16 with fail
            refine wp_region_held_drew (S := fun wz => Below y7.heap.size y7 wz) (by kernel_rfl) (Below.refl _ y7).drew (fun hS => ?_)
            generalize y7.drew = yd at hS ⊢
            refine tkS 0 hS ?_
            refine tkS 1 hS ?_
            refine tkS 2 hS ?_ (hy := by intro wz hz; have q2 : wz.cell? ⟨gB, 4, none⟩ = some (.slice PA pn pc) := (HMx.out wz hz).cell 4; go_simp <;> with_reducible rfl)
            refine tkS 3 hS ?_
            refine tkS 4 hS ?_
            refine tkS 5 hS ?_
            refine tkS 6 hS ?_
            refine tkS (v := .agg (rcA r)) 7 hS ?_ (hy := by intro wz hz; have q2 : wz.cell? ⟨gB, 4, none⟩ = some (.slice PA pn pc) := (HMx.out wz hz).cell 4; exact exec_load_rc (.tmp 87) rfl g (o + k * 4) rfl r (R1.out wz (HY.out wz hz)))
            refine wpAnyH_ready (rs := [8]) (by kernel_rfl) (by simp) ?_
            refine AllReadyH.cons rfl (fun K hK => ?_) AllReadyH.nil
            go_simp
            refine (HREF.out yd (HY.out _ hS)).mono ?_
            rintro e y8 ⟨A9, c9, rfl, h9, hc9, hb8⟩
            have hb : True := trivial
            have O9 := Lib.hid h9
            have B8 := Lib.hid hb8
            have HS1 := Lib.hid hS
            clear h9 hb8
            refine hK.out _ _ (HS1.out.trans (B8.out.mono (Below.size HS1.out))) (fun hT => ?_)
            clear hK hS
            have hS := hT
            clear hT
            refine tkS 9 hS ?_
            refine tkS 10 hS ?_
            refine tkS 11 hS ?_
            refine tkS 12 hS ?_
            refine tkS 13 hS ?_
            refine wpAnyH_done (by kernel_rfl) ?_ _
            have HB8 := Lib.hid (show Below y7.heap.size y7 y8 from hS)
            clear hS
            have HN8 := Lib.hid (HN.out.call HB8.out)
            have HM8 := Lib.hid (HM.out.call HN8.out.bel)
            have HWS8 := Lib.hid (HWS.out.call HN8.out.bel)
            go_upto_region 20 with (first
              | ((with_reducible show wpList _ _ _ (⟨some 92, _, _, _, _, _⟩ :: _) _ _); refine wpList_load_at 44 92 (.tmp 16) rfl rfl rfl gx rfl (bkA zbx (.slice A5 pn c5) (.slice A6 n2 c6)) 6 strBk rfl HN8.out.box ?_)
              | ((with_reducible show wpList _ _ _ (⟨none, _, _, _, _, _⟩ :: _) _ _); refine wpList_store_at 44 (.tmp 7) (.tmp 92) rfl rfl rfl gB rfl (bkA zbx (.slice A5 pn c5) (.slice A6 n2 c6)) (bkA zbx (.slice PA pn pc) (.slice RA rn rc)) 6 rfl strBk rfl rfl (bkA_one _ _ _ _ _ _ _) HM8.out.box ?_; intro y9 ha9 hg9; have HM9 := Lib.hid (HM.out.take (y := y8) HN8.out O9.out ha9 hg9); have HWS9 := Lib.hid (HWS8.out.store hg9); clear ha9 hg9)
              )
            have HB9 : Hid (∀ wz, Below y9.heap.size y9 wz → At wz gB 44 (bkA zbx (.slice A5 pn c5) (.slice A6 n2 c6))) := fun wz hz => HM9.out.box.under hz HM9.out.box.lt
            have HW9 : Hid (∀ wz, Below y9.heap.size y9 wz → At wz gW 44 (bkA zbx (.slice PA pn pc) (.slice RA rn rc))) := fun wz hz => HWS9.out.box.under hz HWS9.out.box.lt
            have HSM1 : Hid (∀ wz, Below y9.heap.size y9 wz → Calls Try.prog 23 #[.slice A6 n2 c6, .slice A9 n2 c9] wz (RetV wz (.bool true))) := fun wz hz => Same_any A6 A9 n2 c6 c9 rs2 wz (HM9.out.recs.below hz).any (HM9.out.ref.below hz).any (by omega)
            have HSM2 : Hid (∀ wz, Below y9.heap.size y9 wz → Calls Try.prog 23 #[.slice RA rn rc, .slice A7 rn c7] wz (RetV wz (.bool true))) := fun wz hz => Same_any RA A7 rn rc c7 rs wz (HWS9.out.recs.below hz).any (HWS9.out.ref.below hz).any (by omega)
            have HRM : Hid (∀ wz, Below y9.heap.size y9 wz → Calls Try.prog 24 #[.agg (bkA zbx (.slice A5 pn c5) (.slice A6 n2 c6))] wz (RetV wz (.int .i64 (roomI pn n2)))) := fun wz _ => Room_any zbx A5 pn c5 A6 n2 c6 wz (by omega) (by omega)
            clear HACT HREF HBK HRF R1 HY HMx HM8 HWS8 HM HWS HN HN8
            refine wp_region_held_drew (S := fun wz => Below y9.heap.size y9 wz) (by kernel_rfl) (Below.refl _ y9).drew (fun hS => ?_)
            refine tkS 0 hS ?_
            refine tkS 1 hS ?_ (hy := by intro wz hz; have q1 : wz.cell? ⟨gB, 4, none⟩ = some (.slice A5 pn c5) := (HB9.out wz hz).cell 4; have q2 : wz.cell? ⟨gB, 5, none⟩ = some (.slice A6 n2 c6) := (HB9.out wz hz).cell 5; have q3 : wz.cell? ⟨gW, 5, none⟩ = some (.slice RA rn rc) := (HW9.out wz hz).cell 5; go_simp <;> with_reducible rfl)
            refine tkS 2 hS ?_
            refine wpAnyH_ready (rs := [3]) (by kernel_rfl) (by simp) ?_
            refine AllReadyH.cons rfl (fun K hK => ?_) AllReadyH.nil
            go_simp
            refine (HSM1.out _ hS).mono ?_
            rintro e z3 ⟨rfl, hb2⟩
            have hb : True := trivial
            have HS3 := Lib.hid (Below.trans hS (hb2.mono (Below.size hS)))
            clear hb2
            refine hK.out _ _ (HS3.out) (fun hT => ?_)
            clear hK hb hS
            have hS := hT
            clear hT
            refine tkS 4 hS ?_
            refine tkS 5 hS ?_
            refine tkS 6 hS ?_
            refine tkS 7 hS ?_ (hy := by intro wz hz; have q1 : wz.cell? ⟨gB, 4, none⟩ = some (.slice A5 pn c5) := (HB9.out wz hz).cell 4; have q2 : wz.cell? ⟨gB, 5, none⟩ = some (.slice A6 n2 c6) := (HB9.out wz hz).cell 5; have q3 : wz.cell? ⟨gW, 5, none⟩ = some (.slice RA rn rc) := (HW9.out wz hz).cell 5; go_simp <;> with_reducible rfl)
            refine tkS 8 hS ?_
            refine wpAnyH_ready (rs := [9]) (by kernel_rfl) (by simp) ?_
            refine AllReadyH.cons rfl (fun K hK => ?_) AllReadyH.nil
            go_simp
            refine (HSM2.out _ hS).mono ?_
            rintro e z9 ⟨rfl, hb2⟩
            have hb : True := trivial
            have HS9 := Lib.hid (Below.trans hS (hb2.mono (Below.size hS)))
            clear hb2
            refine hK.out _ _ (HS9.out) (fun hT => ?_)
            clear hK hb hS
            have hS := hT
            clear hT
            refine tkS 10 hS ?_
            refine tkS 11 hS ?_
            refine tkS 12 hS ?_
            refine tkS (v := .agg (bkA zbx (.slice A5 pn c5) (.slice A6 n2 c6))) 13 hS ?_ (hy := by intro wz hz; have q1 : wz.cell? ⟨gB, 4, none⟩ = some (.slice A5 pn c5) := (HB9.out wz hz).cell 4; have q2 : wz.cell? ⟨gB, 5, none⟩ = some (.slice A6 n2 c6) := (HB9.out wz hz).cell 5; have q3 : wz.cell? ⟨gW, 5, none⟩ = some (.slice RA rn rc) := (HW9.out wz hz).cell 5; exact exec_load_at 44 (.tmp 7) rfl gB rfl _ 6 strBk rfl (HB9.out wz hz))
            refine tkS 15 hS ?_
            refine tkS 16 hS ?_ (hy := by intro wz hz; have q1 : wz.cell? ⟨gB, 4, none⟩ = some (.slice A5 pn c5) := (HB9.out wz hz).cell 4; have q2 : wz.cell? ⟨gB, 5, none⟩ = some (.slice A6 n2 c6) := (HB9.out wz hz).cell 5; have q3 : wz.cell? ⟨gW, 5, none⟩ = some (.slice RA rn rc) := (HW9.out wz hz).cell 5; go_simp <;> with_reducible rfl)
            refine tkS 17 hS ?_
            refine tkS (v := .int .i64 (8 * (pn : Int))) 18 hS ?_ (hy := by intro wz hz; have q1 : wz.cell? ⟨gB, 4, none⟩ = some (.slice A5 pn c5) := (HB9.out wz hz).cell 4; have q2 : wz.cell? ⟨gB, 5, none⟩ = some (.slice A6 n2 c6) := (HB9.out wz hz).cell 5; have q3 : wz.cell? ⟨gW, 5, none⟩ = some (.slice RA rn rc) := (HW9.out wz hz).cell 5; (go_simp; rw [IntKind.wrap_i64]; omega))
            refine tkS 19 hS ?_
            refine tkS 20 hS ?_
            refine tkS (v := .int .i64 (roomI pn n2)) 21 hS ?_ (hy := by intro wz hz; have q1 : wz.cell? ⟨gB, 4, none⟩ = some (.slice A5 pn c5) := (HB9.out wz hz).cell 4; have q2 : wz.cell? ⟨gB, 5, none⟩ = some (.slice A6 n2 c6) := (HB9.out wz hz).cell 5; have q3 : wz.cell? ⟨gW, 5, none⟩ = some (.slice RA rn rc) := (HW9.out wz hz).cell 5; (go_simp; rw [IntKind.wrap_i64]; unfold roomI; omega))
            refine wpAnyH_ready (rs := [14]) (by kernel_rfl) (by simp) ?_
            refine AllReadyH.cons rfl (fun K hK => ?_) AllReadyH.nil
            go_simp
            refine (HRM.out _ hS).mono ?_
            rintro e z14 ⟨rfl, hb2⟩
            have hb : True := trivial
            have HS14 := Lib.hid (Below.trans hS (hb2.mono (Below.size hS)))
            clear hb2
            refine hK.out _ _ (HS14.out) (fun hT => ?_)
            clear hK hb hS
            have hS := hT
            clear hT
            refine tkS (v := .bool false) 22 hS ?_ (hy := by intro wz hz; have q1 : wz.cell? ⟨gB, 4, none⟩ = some (.slice A5 pn c5) := (HB9.out wz hz).cell 4; have q2 : wz.cell? ⟨gB, 5, none⟩ = some (.slice A6 n2 c6) := (HB9.out wz hz).cell 5; have q3 : wz.cell? ⟨gW, 5, none⟩ = some (.slice RA rn rc) := (HW9.out wz hz).cell 5; (go_simp <;> simp))
            refine tkS 23 hS ?_
            refine wpAnyH_done (by kernel_rfl) ?_ _
            have HMb := Lib.hid (HM9.out.call hS)
            clear hS HB9 HW9 HSM1 HSM2 HRM
            go_wp2_with fail
            exact ⟨⟨k + 1, rs2, n2, A5, c5, A6, c6, A9, c9, by omega, rfl, by go_num, HN2, HL2, HMb, Lib.hid hc9⟩, by simp [intOf]; omega⟩
          · skip
            obtain ⟨rs2, hrs2⟩ : ∃ rs2, (dropR rs r).1 = rs2 := ⟨_, rfl⟩
            obtain ⟨n2, hn2⟩ : ∃ n2, rs2.length = n2 := ⟨_, rfl⟩
            obtain ⟨cd, hcd⟩ : ∃ cd, (dropR rs r).2 = cd := ⟨_, rfl⟩
            have HL2 : Hid (rs2.length ≤ 8 * pn) := by show _ ≤ _; rw [← hrs2]; exact drop_len r HLE.out
            have hn2b : n2 ≤ 32 := by have := HL2.out; omega
            have HACT : Hid (∀ wz, Below y5.heap.size y5 wz → Calls Try.prog 19 #[.agg (bkA zbx (.slice PA pn pc) (.slice RA rn rc)), .agg (rcA r)] wz (RetBN wz zbx ps pn rs2 n2 (.bool cd))) := fun wz hz => (Drop_any zbx PA pn pc RA rn rc ps rs r wz (HBK.out wz hz) (by omega) (by omega) hcap).mono fun _ _ h => h.named hrs2 hn2 (by rw [hcd])
            have HREF : Hid (∀ wz, Below y5.heap.size y5 wz → Calls Try.prog 20 #[.slice A7 rn c7, .agg (rcA r)] wz (RetRN wz rs2 n2 (.bool cd))) := fun wz hz => (rDrop_any A7 rn c7 rs r wz (HRF.out wz hz) (by omega) HC7.out).mono fun _ _ h => h.named hrs2 hn2 (by rw [hcd])
            have HN2 := Lib.hid hn2
            clear hrs2 hn2 hcd
            go_upto_region 10 with fail
            try clear q0
            go_cut [12, 13] from 49 to 57 (fun sx sc wx => ∃ (gx : Nat) (A5 : Option Addr) (c5 : Nat) (A6 : Option Addr) (c6 : Nat), sx = .pointer (some ⟨gx, 0, none⟩) ∧ sc = .bool cd ∧ Hid (BkN y5 gx zbx ps pn rs2 n2 A5 c5 A6 c6 wx))
            case first =>
              refine wp_region_held_drew (S := fun wz => Below y5.heap.size y5 wz) (by kernel_rfl) (Below.refl _ y5).drew (fun hS => ?_)
              generalize y5.drew = yd at hS ⊢
              refine tkS (v := .agg (bkA zbx (.slice PA pn pc) (.slice RA rn rc))) 0 hS ?_ (hy := by intro wz hz; exact exec_load_at 44 (.tmp 7) rfl gB rfl _ 6 strBk rfl (HM.out.box.under hz HM.out.box.lt))
              refine tkS 1 hS ?_
              refine tkS 2 hS ?_
              refine tkS 3 hS ?_
              refine tkS (v := .agg (rcA r)) 4 hS ?_ (hy := by intro wz hz; exact exec_load_rc (.tmp 52) rfl g (o + k * 4) rfl r (R1.out wz hz))
              refine wpAnyH_ready (rs := [5, 9]) (by kernel_rfl) (by simp) ?_
              refine AllReadyH.cons rfl (fun K hK => ?_) (AllReadyH.cons rfl (fun K hK => ?_) AllReadyH.nil)
              · go_simp
                refine (HACT.out yd hS).mono ?_
                rintro e y6 ⟨A5, c5, A6, c6, rfl, h5, h6, hb6⟩
                have hb : True := trivial
                have O5 := Lib.hid h5
                have O6 := Lib.hid h6
                have B6 := Lib.hid hb6
                have HS1 := Lib.hid hS
                clear h5 h6 hb6
                refine hK.out _ _ (HS1.out.trans (B6.out.mono (Below.size HS1.out))) (fun hT => ?_)
                clear hK hS
                have hS := hT
                clear hT
                refine tkS 6 hS ?_
                refine tkS 7 hS ?_
                refine tkS 8 hS ?_
                refine wpAnyH_ready (rs := [9]) (by kernel_rfl) (by simp) ?_
                refine AllReadyH.cons rfl (fun K hK => ?_) AllReadyH.nil
                go_simp
                rw [zb0.out]
                have AX := Lib.hid (At.new y6 44 zbk)
                have HY := Lib.hid (Below.size HS1.out)
                have HG := Lib.hid (show y5.heap.size ≤ y6.heap.size from Below.size hS)
                have OX5 := Lib.hid (own_under O5.out ((Below.refl y6.heap.size y6).alloc (Nat.le_refl _) (.cells zbk 44)) (Nat.le_refl _))
                have OX6 := Lib.hid (own_under O6.out ((Below.refl y6.heap.size y6).alloc (Nat.le_refl _) (.cells zbk 44)) (Nat.le_refl _))
                have HT0 := Below.alloc hS (Below.size hS) (.cells zbk 44)
                refine hK.out _ _ (HT0) (fun hT => ?_)
                clear hK hS
                have hS := hT
                clear hT
                refine wpAnyH_ready (rs := [10]) (by kernel_rfl) (by simp) ?_
                refine AllReadyH.cons rfl (fun K hK => ?_) AllReadyH.nil
                rw [if_pos (by rfl)]
                refine wp_store_at 44 (.tmp 12) (.tmp 55) rfl rfl y6.heap.size rfl (bkA zbx (.slice A5 pn c5) (.slice A6 n2 c6)) zbk 6 rfl strBk rfl rfl (bkA_one _ _ _ _ _ _ _) AX.out ?_
                intro w9 ha9 hg9
                have HN := Lib.hid (show BkN y5 y6.heap.size zbx ps pn rs2 n2 A5 c5 A6 c6 w9 from BkN.put hS HY.out OX5.out OX6.out HG.out AX.out ha9 hg9)
                clear ha9 hg9
                refine hK.out _ _ (HN.out.bel) (fun hT => ?_)
                clear hK hS
                have hS := hT
                clear hT
                dsimp only [Act.put]
                refine tkS 11 hS ?_
                refine wpAnyH_done (by kernel_rfl) ?_ _
                go_wp2_with fail
                go_meet
                exact ⟨_, A5, c5, A6, c6, rfl, rfl, HN⟩
              · go_simp
                rw [zb0.out]
                have AX0 := Lib.hid (At.new yd 44 zbk)
                have HT0 := Below.alloc hS (Below.size hS) (.cells zbk 44)
                have HG := Lib.hid (Below.size hS)
                refine hK.out _ _ (HT0) (fun hT => ?_)
                clear hK hS
                have hS := hT
                clear hT
                refine wpAnyH_ready (rs := [5]) (by kernel_rfl) (by simp) ?_
                refine AllReadyH.cons rfl (fun K hK => ?_) AllReadyH.nil
                go_simp
                refine (HACT.out (yd.alloc (.cells zbk 44)) hS).mono ?_
                rintro e y6 ⟨A5, c5, A6, c6, rfl, h5, h6, hb6⟩
                have hb : True := trivial
                have O5 := Lib.hid h5
                have O6 := Lib.hid h6
                have B6 := Lib.hid hb6
                have HS1 := Lib.hid hS
                clear h5 h6 hb6
                refine hK.out _ _ (HS1.out.trans (B6.out.mono (Below.size HS1.out))) (fun hT => ?_)
                clear hK hS
                have hS := hT
                clear hT
                have AX := Lib.hid (AX0.out.under B6.out AX0.out.lt)
                have OX5 := O5
                have OX6 := O6
                have HY := Lib.hid (Below.size HS1.out)
                refine tkS 6 hS ?_
                refine tkS 7 hS ?_
                refine tkS 8 hS ?_
                refine wpAnyH_ready (rs := [10]) (by kernel_rfl) (by simp) ?_
                refine AllReadyH.cons rfl (fun K hK => ?_) AllReadyH.nil
                rw [if_pos (by rfl)]
                refine wp_store_at 44 (.tmp 12) (.tmp 55) rfl rfl yd.heap.size rfl (bkA zbx (.slice A5 pn c5) (.slice A6 n2 c6)) zbk 6 rfl strBk rfl rfl (bkA_one _ _ _ _ _ _ _) AX.out ?_
                intro w9 ha9 hg9
                have HN := Lib.hid (show BkN y5 yd.heap.size zbx ps pn rs2 n2 A5 c5 A6 c6 w9 from BkN.put hS HY.out OX5.out OX6.out HG.out AX.out ha9 hg9)
                clear ha9 hg9
                refine hK.out _ _ (HN.out.bel) (fun hT => ?_)
                clear hK hS
                have hS := hT
                clear hT
                dsimp only [Act.put]
                refine tkS 11 hS ?_
                refine wpAnyH_done (by kernel_rfl) ?_ _
                go_wp2_with fail
                go_meet
                exact ⟨_, A5, c5, A6, c6, rfl, rfl, HN⟩
            obtain ⟨gx, A5, c5, A6, c6, rfl, rfl, HN⟩ := hcut
            rename World => y7
            have HY : Hid (∀ wz, Below y7.heap.size y7 wz → Below y5.heap.size y5 wz) := fun wz hz => HN.out.bel.trans (hz.mono HN.out.bel.size)
            have HMx : Hid (∀ wz, Below y7.heap.size y7 wz → At wz gB 44 (bkA zbx (.slice PA pn pc) (.slice RA rn rc))) := fun wz hz => HM.out.box.under (HY.out wz hz) HM.out.box.lt
            go_wp2_with (first
              | ((with_reducible show wpList _ _ _ (⟨some 62, _, _, _, _, _⟩ :: _) _ _); refine wpList_of_exec 62 (.agg (rcA r)) rfl rfl (exec_load_rc (.tmp 61) rfl g (o + k * 4) rfl r (R1.out y7 (HY.out _ (Below.refl _ _)))) ?_)
              )
            refine (HREF.out y7 (HY.out _ (Below.refl _ _))).mono ?_
            rintro e y8 ⟨A9, c9, rfl, h9, hc9, hb8⟩
            have O9 := Lib.hid h9
            have HB8 := Lib.hid hb8
            clear h9 hb8
            have HN8 := Lib.hid (HN.out.call HB8.out)
            have HM8 := Lib.hid (HM.out.call HN8.out.bel)
            have HWS8 := Lib.hid (HWS.out.call HN8.out.bel)
            go_upto_region 20 with (first
              | ((with_reducible show wpList _ _ _ (⟨some 66, _, _, _, _, _⟩ :: _) _ _); refine wpList_load_at 44 66 (.tmp 12) rfl rfl rfl gx rfl (bkA zbx (.slice A5 pn c5) (.slice A6 n2 c6)) 6 strBk rfl HN8.out.box ?_)
              | ((with_reducible show wpList _ _ _ (⟨none, _, _, _, _, _⟩ :: _) _ _); refine wpList_store_at 44 (.tmp 7) (.tmp 66) rfl rfl rfl gB rfl (bkA zbx (.slice A5 pn c5) (.slice A6 n2 c6)) (bkA zbx (.slice PA pn pc) (.slice RA rn rc)) 6 rfl strBk rfl rfl (bkA_one _ _ _ _ _ _ _) HM8.out.box ?_; intro y9 ha9 hg9; have HM9 := Lib.hid (HM.out.take (y := y8) HN8.out O9.out ha9 hg9); have HWS9 := Lib.hid (HWS8.out.store hg9); clear ha9 hg9)
              )
            have HB9 : Hid (∀ wz, Below y9.heap.size y9 wz → At wz gB 44 (bkA zbx (.slice A5 pn c5) (.slice A6 n2 c6))) := fun wz hz => HM9.out.box.under hz HM9.out.box.lt
            have HW9 : Hid (∀ wz, Below y9.heap.size y9 wz → At wz gW 44 (bkA zbx (.slice PA pn pc) (.slice RA rn rc))) := fun wz hz => HWS9.out.box.under hz HWS9.out.box.lt
            have HSM1 : Hid (∀ wz, Below y9.heap.size y9 wz → Calls Try.prog 23 #[.slice A6 n2 c6, .slice A9 n2 c9] wz (RetV wz (.bool true))) := fun wz hz => Same_any A6 A9 n2 c6 c9 rs2 wz (HM9.out.recs.below hz).any (HM9.out.ref.below hz).any (by omega)
            have HSM2 : Hid (∀ wz, Below y9.heap.size y9 wz → Calls Try.prog 23 #[.slice RA rn rc, .slice A7 rn c7] wz (RetV wz (.bool true))) := fun wz hz => Same_any RA A7 rn rc c7 rs wz (HWS9.out.recs.below hz).any (HWS9.out.ref.below hz).any (by omega)
            have HRM : Hid (∀ wz, Below y9.heap.size y9 wz → Calls Try.prog 24 #[.agg (bkA zbx (.slice A5 pn c5) (.slice A6 n2 c6))] wz (RetV wz (.int .i64 (roomI pn n2)))) := fun wz _ => Room_any zbx A5 pn c5 A6 n2 c6 wz (by omega) (by omega)
            clear HACT HREF HBK HRF R1 HY HMx HM8 HWS8 HM HWS HN HN8
            refine wp_region_held_drew (S := fun wz => Below y9.heap.size y9 wz) (by kernel_rfl) (Below.refl _ y9).drew (fun hS => ?_)
            refine tkS 0 hS ?_
            refine tkS 1 hS ?_ (hy := by intro wz hz; have q1 : wz.cell? ⟨gB, 4, none⟩ = some (.slice A5 pn c5) := (HB9.out wz hz).cell 4; have q2 : wz.cell? ⟨gB, 5, none⟩ = some (.slice A6 n2 c6) := (HB9.out wz hz).cell 5; have q3 : wz.cell? ⟨gW, 5, none⟩ = some (.slice RA rn rc) := (HW9.out wz hz).cell 5; go_simp <;> with_reducible rfl)
            refine tkS 2 hS ?_
            refine wpAnyH_ready (rs := [3]) (by kernel_rfl) (by simp) ?_
            refine AllReadyH.cons rfl (fun K hK => ?_) AllReadyH.nil
            go_simp
            refine (HSM1.out _ hS).mono ?_
            rintro e z3 ⟨rfl, hb2⟩
            have hb : True := trivial
            have HS3 := Lib.hid (Below.trans hS (hb2.mono (Below.size hS)))
            clear hb2
            refine hK.out _ _ (HS3.out) (fun hT => ?_)
            clear hK hb hS
            have hS := hT
            clear hT
            refine tkS 4 hS ?_
            refine tkS 5 hS ?_
            refine tkS 6 hS ?_
            refine tkS 7 hS ?_ (hy := by intro wz hz; have q1 : wz.cell? ⟨gB, 4, none⟩ = some (.slice A5 pn c5) := (HB9.out wz hz).cell 4; have q2 : wz.cell? ⟨gB, 5, none⟩ = some (.slice A6 n2 c6) := (HB9.out wz hz).cell 5; have q3 : wz.cell? ⟨gW, 5, none⟩ = some (.slice RA rn rc) := (HW9.out wz hz).cell 5; go_simp <;> with_reducible rfl)
            refine tkS 8 hS ?_
            refine wpAnyH_ready (rs := [9]) (by kernel_rfl) (by simp) ?_
            refine AllReadyH.cons rfl (fun K hK => ?_) AllReadyH.nil
            go_simp
            refine (HSM2.out _ hS).mono ?_
            rintro e z9 ⟨rfl, hb2⟩
            have hb : True := trivial
            have HS9 := Lib.hid (Below.trans hS (hb2.mono (Below.size hS)))
            clear hb2
            refine hK.out _ _ (HS9.out) (fun hT => ?_)
            clear hK hb hS
            have hS := hT
            clear hT
            refine tkS 10 hS ?_
            refine tkS 11 hS ?_
            refine tkS 12 hS ?_
            refine tkS (v := .agg (bkA zbx (.slice A5 pn c5) (.slice A6 n2 c6))) 13 hS ?_ (hy := by intro wz hz; have q1 : wz.cell? ⟨gB, 4, none⟩ = some (.slice A5 pn c5) := (HB9.out wz hz).cell 4; have q2 : wz.cell? ⟨gB, 5, none⟩ = some (.slice A6 n2 c6) := (HB9.out wz hz).cell 5; have q3 : wz.cell? ⟨gW, 5, none⟩ = some (.slice RA rn rc) := (HW9.out wz hz).cell 5; exact exec_load_at 44 (.tmp 7) rfl gB rfl _ 6 strBk rfl (HB9.out wz hz))
            refine tkS 15 hS ?_
            refine tkS 16 hS ?_ (hy := by intro wz hz; have q1 : wz.cell? ⟨gB, 4, none⟩ = some (.slice A5 pn c5) := (HB9.out wz hz).cell 4; have q2 : wz.cell? ⟨gB, 5, none⟩ = some (.slice A6 n2 c6) := (HB9.out wz hz).cell 5; have q3 : wz.cell? ⟨gW, 5, none⟩ = some (.slice RA rn rc) := (HW9.out wz hz).cell 5; go_simp <;> with_reducible rfl)
            refine tkS 17 hS ?_
            refine tkS (v := .int .i64 (8 * (pn : Int))) 18 hS ?_ (hy := by intro wz hz; have q1 : wz.cell? ⟨gB, 4, none⟩ = some (.slice A5 pn c5) := (HB9.out wz hz).cell 4; have q2 : wz.cell? ⟨gB, 5, none⟩ = some (.slice A6 n2 c6) := (HB9.out wz hz).cell 5; have q3 : wz.cell? ⟨gW, 5, none⟩ = some (.slice RA rn rc) := (HW9.out wz hz).cell 5; (go_simp; rw [IntKind.wrap_i64]; omega))
            refine tkS 19 hS ?_
            refine tkS 20 hS ?_
            refine tkS (v := .int .i64 (roomI pn n2)) 21 hS ?_ (hy := by intro wz hz; have q1 : wz.cell? ⟨gB, 4, none⟩ = some (.slice A5 pn c5) := (HB9.out wz hz).cell 4; have q2 : wz.cell? ⟨gB, 5, none⟩ = some (.slice A6 n2 c6) := (HB9.out wz hz).cell 5; have q3 : wz.cell? ⟨gW, 5, none⟩ = some (.slice RA rn rc) := (HW9.out wz hz).cell 5; (go_simp; rw [IntKind.wrap_i64]; unfold roomI; omega))
            refine wpAnyH_ready (rs := [14]) (by kernel_rfl) (by simp) ?_
            refine AllReadyH.cons rfl (fun K hK => ?_) AllReadyH.nil
            go_simp
            refine (HRM.out _ hS).mono ?_
            rintro e z14 ⟨rfl, hb2⟩
            have hb : True := trivial
            have HS14 := Lib.hid (Below.trans hS (hb2.mono (Below.size hS)))
            clear hb2
            refine hK.out _ _ (HS14.out) (fun hT => ?_)
            clear hK hb hS
            have hS := hT
            clear hT
            refine tkS (v := .bool false) 22 hS ?_ (hy := by intro wz hz; have q1 : wz.cell? ⟨gB, 4, none⟩ = some (.slice A5 pn c5) := (HB9.out wz hz).cell 4; have q2 : wz.cell? ⟨gB, 5, none⟩ = some (.slice A6 n2 c6) := (HB9.out wz hz).cell 5; have q3 : wz.cell? ⟨gW, 5, none⟩ = some (.slice RA rn rc) := (HW9.out wz hz).cell 5; (go_simp <;> simp))
            refine tkS 23 hS ?_
            refine wpAnyH_done (by kernel_rfl) ?_ _
            have HMb := Lib.hid (HM9.out.call hS)
            clear hS HB9 HW9 HSM1 HSM2 HRM
            go_wp2_with fail
            exact ⟨⟨k + 1, rs2, n2, A5, c5, A6, c6, A9, c9, by omega, rfl, by go_num, HN2, HL2, HMb, Lib.hid hc9⟩, by simp [intOf]; omega⟩
        · skip
          obtain ⟨rs2, hrs2⟩ : ∃ rs2, (addR pn rs r).1 = rs2 := ⟨_, rfl⟩
          obtain ⟨n2, hn2⟩ : ∃ n2, rs2.length = n2 := ⟨_, rfl⟩
          obtain ⟨cd, hcd⟩ : ∃ cd, (addR pn rs r).2 = cd := ⟨_, rfl⟩
          have HL2 : Hid (rs2.length ≤ 8 * pn) := by show _ ≤ _; rw [← hrs2]; exact add_len r HLE.out
          have hn2b : n2 ≤ 32 := by have := HL2.out; omega
          have HACT : Hid (∀ wz, Below y5.heap.size y5 wz → Calls Try.prog 21 #[.agg (bkA zbx (.slice PA pn pc) (.slice RA rn rc)), .agg (rcA r)] wz (RetBN wz zbx ps pn rs2 n2 (.int .i64 cd))) := fun wz hz => (Add_any zbx PA pn pc RA rn rc ps rs r wz (HBK.out wz hz) (by omega) (by omega) hcap).mono fun _ _ h => h.named hrs2 hn2 (by rw [hcd])
          have HREF : Hid (∀ wz, Below y5.heap.size y5 wz → Calls Try.prog 22 #[.slice A7 rn c7, .int .i64 (pn : Int), .agg (rcA r)] wz (RetRN wz rs2 n2 (.int .i64 cd))) := fun wz hz => (rAdd_any A7 rn c7 rs pn r wz (HRF.out wz hz) (by omega) (by omega) HC7.out).mono fun _ _ h => h.named hrs2 hn2 (by rw [hcd])
          have HN2 := Lib.hid hn2
          clear hrs2 hn2 hcd
          go_upto_region 15 with fail
          try clear q0
          go_cut [16, 17] from 72 to 80 (fun sx sc wx => ∃ (gx : Nat) (A5 : Option Addr) (c5 : Nat) (A6 : Option Addr) (c6 : Nat), sx = .pointer (some ⟨gx, 0, none⟩) ∧ sc = .int .i64 cd ∧ Hid (BkN y5 gx zbx ps pn rs2 n2 A5 c5 A6 c6 wx))
          case first =>
            refine wp_region_held_drew (S := fun wz => Below y5.heap.size y5 wz) (by kernel_rfl) (Below.refl _ y5).drew (fun hS => ?_)
            generalize y5.drew = yd at hS ⊢
            refine tkS (v := .agg (bkA zbx (.slice PA pn pc) (.slice RA rn rc))) 0 hS ?_ (hy := by intro wz hz; exact exec_load_at 44 (.tmp 7) rfl gB rfl _ 6 strBk rfl (HM.out.box.under hz HM.out.box.lt))
            refine tkS 1 hS ?_
            refine tkS 2 hS ?_
            refine tkS 3 hS ?_
            refine tkS (v := .agg (rcA r)) 4 hS ?_ (hy := by intro wz hz; exact exec_load_rc (.tmp 75) rfl g (o + k * 4) rfl r (R1.out wz hz))
            refine wpAnyH_ready (rs := [5, 9]) (by kernel_rfl) (by simp) ?_
            refine AllReadyH.cons rfl (fun K hK => ?_) (AllReadyH.cons rfl (fun K hK => ?_) AllReadyH.nil)
            · go_simp
              refine (HACT.out yd hS).mono ?_
              rintro e y6 ⟨A5, c5, A6, c6, rfl, h5, h6, hb6⟩
              have hb : True := trivial
              have O5 := Lib.hid h5
              have O6 := Lib.hid h6
              have B6 := Lib.hid hb6
              have HS1 := Lib.hid hS
              clear h5 h6 hb6
              refine hK.out _ _ (HS1.out.trans (B6.out.mono (Below.size HS1.out))) (fun hT => ?_)
              clear hK hS
              have hS := hT
              clear hT
              refine tkS 6 hS ?_
              refine tkS 7 hS ?_
              refine tkS 8 hS ?_
              refine wpAnyH_ready (rs := [9]) (by kernel_rfl) (by simp) ?_
              refine AllReadyH.cons rfl (fun K hK => ?_) AllReadyH.nil
              go_simp
              rw [zb0.out]
              have AX := Lib.hid (At.new y6 44 zbk)
              have HY := Lib.hid (Below.size HS1.out)
              have HG := Lib.hid (show y5.heap.size ≤ y6.heap.size from Below.size hS)
              have OX5 := Lib.hid (own_under O5.out ((Below.refl y6.heap.size y6).alloc (Nat.le_refl _) (.cells zbk 44)) (Nat.le_refl _))
              have OX6 := Lib.hid (own_under O6.out ((Below.refl y6.heap.size y6).alloc (Nat.le_refl _) (.cells zbk 44)) (Nat.le_refl _))
              have HT0 := Below.alloc hS (Below.size hS) (.cells zbk 44)
              refine hK.out _ _ (HT0) (fun hT => ?_)
              clear hK hS
              have hS := hT
              clear hT
              refine wpAnyH_ready (rs := [10]) (by kernel_rfl) (by simp) ?_
              refine AllReadyH.cons rfl (fun K hK => ?_) AllReadyH.nil
              rw [if_pos (by rfl)]
              refine wp_store_at 44 (.tmp 16) (.tmp 78) rfl rfl y6.heap.size rfl (bkA zbx (.slice A5 pn c5) (.slice A6 n2 c6)) zbk 6 rfl strBk rfl rfl (bkA_one _ _ _ _ _ _ _) AX.out ?_
              intro w9 ha9 hg9
              have HN := Lib.hid (show BkN y5 y6.heap.size zbx ps pn rs2 n2 A5 c5 A6 c6 w9 from BkN.put hS HY.out OX5.out OX6.out HG.out AX.out ha9 hg9)
              clear ha9 hg9
              refine hK.out _ _ (HN.out.bel) (fun hT => ?_)
              clear hK hS
              have hS := hT
              clear hT
              dsimp only [Act.put]
              refine tkS 11 hS ?_
              refine wpAnyH_done (by kernel_rfl) ?_ _
              go_wp2_with fail
              go_meet
              exact ⟨_, A5, c5, A6, c6, rfl, rfl, HN⟩
            · go_simp
              rw [zb0.out]
              have AX0 := Lib.hid (At.new yd 44 zbk)
              have HT0 := Below.alloc hS (Below.size hS) (.cells zbk 44)
              have HG := Lib.hid (Below.size hS)
              refine hK.out _ _ (HT0) (fun hT => ?_)
              clear hK hS
              have hS := hT
              clear hT
              refine wpAnyH_ready (rs := [5]) (by kernel_rfl) (by simp) ?_
              refine AllReadyH.cons rfl (fun K hK => ?_) AllReadyH.nil
              go_simp
              refine (HACT.out (yd.alloc (.cells zbk 44)) hS).mono ?_
              rintro e y6 ⟨A5, c5, A6, c6, rfl, h5, h6, hb6⟩
              have hb : True := trivial
              have O5 := Lib.hid h5
              have O6 := Lib.hid h6
              have B6 := Lib.hid hb6
              have HS1 := Lib.hid hS
              clear h5 h6 hb6
              refine hK.out _ _ (HS1.out.trans (B6.out.mono (Below.size HS1.out))) (fun hT => ?_)
              clear hK hS
              have hS := hT
              clear hT
              have AX := Lib.hid (AX0.out.under B6.out AX0.out.lt)
              have OX5 := O5
              have OX6 := O6
              have HY := Lib.hid (Below.size HS1.out)
              refine tkS 6 hS ?_
              refine tkS 7 hS ?_
              refine tkS 8 hS ?_
              refine wpAnyH_ready (rs := [10]) (by kernel_rfl) (by simp) ?_
              refine AllReadyH.cons rfl (fun K hK => ?_) AllReadyH.nil
              rw [if_pos (by rfl)]
              refine wp_store_at 44 (.tmp 16) (.tmp 78) rfl rfl yd.heap.size rfl (bkA zbx (.slice A5 pn c5) (.slice A6 n2 c6)) zbk 6 rfl strBk rfl rfl (bkA_one _ _ _ _ _ _ _) AX.out ?_
              intro w9 ha9 hg9
              have HN := Lib.hid (show BkN y5 yd.heap.size zbx ps pn rs2 n2 A5 c5 A6 c6 w9 from BkN.put hS HY.out OX5.out OX6.out HG.out AX.out ha9 hg9)
              clear ha9 hg9
              refine hK.out _ _ (HN.out.bel) (fun hT => ?_)
              clear hK hS
              have hS := hT
              clear hT
              dsimp only [Act.put]
              refine tkS 11 hS ?_
              refine wpAnyH_done (by kernel_rfl) ?_ _
              go_wp2_with fail
              go_meet
              exact ⟨_, A5, c5, A6, c6, rfl, rfl, HN⟩
          obtain ⟨gx, A5, c5, A6, c6, rfl, rfl, HN⟩ := hcut
          rename World => y7
          have HY : Hid (∀ wz, Below y7.heap.size y7 wz → Below y5.heap.size y5 wz) := fun wz hz => HN.out.bel.trans (hz.mono HN.out.bel.size)
          have HMx : Hid (∀ wz, Below y7.heap.size y7 wz → At wz gB 44 (bkA zbx (.slice PA pn pc) (.slice RA rn rc))) := fun wz hz => HM.out.box.under (HY.out wz hz) HM.out.box.lt
          go_upto_region 16 with fail
          refine wp_region_held_drew (S := fun wz => Below y7.heap.size y7 wz) (by kernel_rfl) (Below.refl _ y7).drew (fun hS => ?_)
          generalize y7.drew = yd at hS ⊢
          refine tkS 0 hS ?_
          refine tkS 1 hS ?_
          refine tkS 2 hS ?_ (hy := by intro wz hz; have q2 : wz.cell? ⟨gB, 4, none⟩ = some (.slice PA pn pc) := (HMx.out wz hz).cell 4; go_simp <;> with_reducible rfl)
          refine tkS 3 hS ?_
          refine tkS 4 hS ?_
          refine tkS 5 hS ?_
          refine tkS 6 hS ?_
          refine tkS (v := .agg (rcA r)) 7 hS ?_ (hy := by intro wz hz; have q2 : wz.cell? ⟨gB, 4, none⟩ = some (.slice PA pn pc) := (HMx.out wz hz).cell 4; exact exec_load_rc (.tmp 87) rfl g (o + k * 4) rfl r (R1.out wz (HY.out wz hz)))
          refine wpAnyH_ready (rs := [8]) (by kernel_rfl) (by simp) ?_
          refine AllReadyH.cons rfl (fun K hK => ?_) AllReadyH.nil
          go_simp
          refine (HREF.out yd (HY.out _ hS)).mono ?_
          rintro e y8 ⟨A9, c9, rfl, h9, hc9, hb8⟩
          have hb : True := trivial
          have O9 := Lib.hid h9
          have B8 := Lib.hid hb8
          have HS1 := Lib.hid hS
          clear h9 hb8
          refine hK.out _ _ (HS1.out.trans (B8.out.mono (Below.size HS1.out))) (fun hT => ?_)
          clear hK hS
          have hS := hT
          clear hT
          refine tkS 9 hS ?_
          refine tkS 10 hS ?_
          refine tkS 11 hS ?_
          refine tkS 12 hS ?_
          refine tkS 13 hS ?_
          refine wpAnyH_done (by kernel_rfl) ?_ _
          have HB8 := Lib.hid (show Below y7.heap.size y7 y8 from hS)
          clear hS
          have HN8 := Lib.hid (HN.out.call HB8.out)
          have HM8 := Lib.hid (HM.out.call HN8.out.bel)
          have HWS8 := Lib.hid (HWS.out.call HN8.out.bel)
          go_upto_region 20 with (first
            | ((with_reducible show wpList _ _ _ (⟨some 92, _, _, _, _, _⟩ :: _) _ _); refine wpList_load_at 44 92 (.tmp 16) rfl rfl rfl gx rfl (bkA zbx (.slice A5 pn c5) (.slice A6 n2 c6)) 6 strBk rfl HN8.out.box ?_)
            | ((with_reducible show wpList _ _ _ (⟨none, _, _, _, _, _⟩ :: _) _ _); refine wpList_store_at 44 (.tmp 7) (.tmp 92) rfl rfl rfl gB rfl (bkA zbx (.slice A5 pn c5) (.slice A6 n2 c6)) (bkA zbx (.slice PA pn pc) (.slice RA rn rc)) 6 rfl strBk rfl rfl (bkA_one _ _ _ _ _ _ _) HM8.out.box ?_; intro y9 ha9 hg9; have HM9 := Lib.hid (HM.out.take (y := y8) HN8.out O9.out ha9 hg9); have HWS9 := Lib.hid (HWS8.out.store hg9); clear ha9 hg9)
            )
          have HB9 : Hid (∀ wz, Below y9.heap.size y9 wz → At wz gB 44 (bkA zbx (.slice A5 pn c5) (.slice A6 n2 c6))) := fun wz hz => HM9.out.box.under hz HM9.out.box.lt
          have HW9 : Hid (∀ wz, Below y9.heap.size y9 wz → At wz gW 44 (bkA zbx (.slice PA pn pc) (.slice RA rn rc))) := fun wz hz => HWS9.out.box.under hz HWS9.out.box.lt
          have HSM1 : Hid (∀ wz, Below y9.heap.size y9 wz → Calls Try.prog 23 #[.slice A6 n2 c6, .slice A9 n2 c9] wz (RetV wz (.bool true))) := fun wz hz => Same_any A6 A9 n2 c6 c9 rs2 wz (HM9.out.recs.below hz).any (HM9.out.ref.below hz).any (by omega)
          have HSM2 : Hid (∀ wz, Below y9.heap.size y9 wz → Calls Try.prog 23 #[.slice RA rn rc, .slice A7 rn c7] wz (RetV wz (.bool true))) := fun wz hz => Same_any RA A7 rn rc c7 rs wz (HWS9.out.recs.below hz).any (HWS9.out.ref.below hz).any (by omega)
          have HRM : Hid (∀ wz, Below y9.heap.size y9 wz → Calls Try.prog 24 #[.agg (bkA zbx (.slice A5 pn c5) (.slice A6 n2 c6))] wz (RetV wz (.int .i64 (roomI pn n2)))) := fun wz _ => Room_any zbx A5 pn c5 A6 n2 c6 wz (by omega) (by omega)
          clear HACT HREF HBK HRF R1 HY HMx HM8 HWS8 HM HWS HN HN8
          refine wp_region_held_drew (S := fun wz => Below y9.heap.size y9 wz) (by kernel_rfl) (Below.refl _ y9).drew (fun hS => ?_)
          refine tkS 0 hS ?_
          refine tkS 1 hS ?_ (hy := by intro wz hz; have q1 : wz.cell? ⟨gB, 4, none⟩ = some (.slice A5 pn c5) := (HB9.out wz hz).cell 4; have q2 : wz.cell? ⟨gB, 5, none⟩ = some (.slice A6 n2 c6) := (HB9.out wz hz).cell 5; have q3 : wz.cell? ⟨gW, 5, none⟩ = some (.slice RA rn rc) := (HW9.out wz hz).cell 5; go_simp <;> with_reducible rfl)
          refine tkS 2 hS ?_
          refine wpAnyH_ready (rs := [3]) (by kernel_rfl) (by simp) ?_
          refine AllReadyH.cons rfl (fun K hK => ?_) AllReadyH.nil
          go_simp
          refine (HSM1.out _ hS).mono ?_
          rintro e z3 ⟨rfl, hb2⟩
          have hb : True := trivial
          have HS3 := Lib.hid (Below.trans hS (hb2.mono (Below.size hS)))
          clear hb2
          refine hK.out _ _ (HS3.out) (fun hT => ?_)
          clear hK hb hS
          have hS := hT
          clear hT
          refine tkS 4 hS ?_
          refine tkS 5 hS ?_
          refine tkS 6 hS ?_
          refine tkS 7 hS ?_ (hy := by intro wz hz; have q1 : wz.cell? ⟨gB, 4, none⟩ = some (.slice A5 pn c5) := (HB9.out wz hz).cell 4; have q2 : wz.cell? ⟨gB, 5, none⟩ = some (.slice A6 n2 c6) := (HB9.out wz hz).cell 5; have q3 : wz.cell? ⟨gW, 5, none⟩ = some (.slice RA rn rc) := (HW9.out wz hz).cell 5; go_simp <;> with_reducible rfl)
          refine tkS 8 hS ?_
          refine wpAnyH_ready (rs := [9]) (by kernel_rfl) (by simp) ?_
          refine AllReadyH.cons rfl (fun K hK => ?_) AllReadyH.nil
          go_simp
          refine (HSM2.out _ hS).mono ?_
          rintro e z9 ⟨rfl, hb2⟩
          have hb : True := trivial
          have HS9 := Lib.hid (Below.trans hS (hb2.mono (Below.size hS)))
          clear hb2
          refine hK.out _ _ (HS9.out) (fun hT => ?_)
          clear hK hb hS
          have hS := hT
          clear hT
          refine tkS 10 hS ?_
          refine tkS 11 hS ?_
          refine tkS 12 hS ?_
          refine tkS (v := .agg (bkA zbx (.slice A5 pn c5) (.slice A6 n2 c6))) 13 hS ?_ (hy := by intro wz hz; have q1 : wz.cell? ⟨gB, 4, none⟩ = some (.slice A5 pn c5) := (HB9.out wz hz).cell 4; have q2 : wz.cell? ⟨gB, 5, none⟩ = some (.slice A6 n2 c6) := (HB9.out wz hz).cell 5; have q3 : wz.cell? ⟨gW, 5, none⟩ = some (.slice RA rn rc) := (HW9.out wz hz).cell 5; exact exec_load_at 44 (.tmp 7) rfl gB rfl _ 6 strBk rfl (HB9.out wz hz))
          refine tkS 15 hS ?_
          refine tkS 16 hS ?_ (hy := by intro wz hz; have q1 : wz.cell? ⟨gB, 4, none⟩ = some (.slice A5 pn c5) := (HB9.out wz hz).cell 4; have q2 : wz.cell? ⟨gB, 5, none⟩ = some (.slice A6 n2 c6) := (HB9.out wz hz).cell 5; have q3 : wz.cell? ⟨gW, 5, none⟩ = some (.slice RA rn rc) := (HW9.out wz hz).cell 5; go_simp <;> with_reducible rfl)
          refine tkS 17 hS ?_
          refine tkS (v := .int .i64 (8 * (pn : Int))) 18 hS ?_ (hy := by intro wz hz; have q1 : wz.cell? ⟨gB, 4, none⟩ = some (.slice A5 pn c5) := (HB9.out wz hz).cell 4; have q2 : wz.cell? ⟨gB, 5, none⟩ = some (.slice A6 n2 c6) := (HB9.out wz hz).cell 5; have q3 : wz.cell? ⟨gW, 5, none⟩ = some (.slice RA rn rc) := (HW9.out wz hz).cell 5; (go_simp; rw [IntKind.wrap_i64]; omega))
          refine tkS 19 hS ?_
          refine tkS 20 hS ?_
          refine tkS (v := .int .i64 (roomI pn n2)) 21 hS ?_ (hy := by intro wz hz; have q1 : wz.cell? ⟨gB, 4, none⟩ = some (.slice A5 pn c5) := (HB9.out wz hz).cell 4; have q2 : wz.cell? ⟨gB, 5, none⟩ = some (.slice A6 n2 c6) := (HB9.out wz hz).cell 5; have q3 : wz.cell? ⟨gW, 5, none⟩ = some (.slice RA rn rc) := (HW9.out wz hz).cell 5; (go_simp; rw [IntKind.wrap_i64]; unfold roomI; omega))
          refine wpAnyH_ready (rs := [14]) (by kernel_rfl) (by simp) ?_
          refine AllReadyH.cons rfl (fun K hK => ?_) AllReadyH.nil
          go_simp
          refine (HRM.out _ hS).mono ?_
          rintro e z14 ⟨rfl, hb2⟩
          have hb : True := trivial
          have HS14 := Lib.hid (Below.trans hS (hb2.mono (Below.size hS)))
          clear hb2
          refine hK.out _ _ (HS14.out) (fun hT => ?_)
          clear hK hb hS
          have hS := hT
          clear hT
          refine tkS (v := .bool false) 22 hS ?_ (hy := by intro wz hz; have q1 : wz.cell? ⟨gB, 4, none⟩ = some (.slice A5 pn c5) := (HB9.out wz hz).cell 4; have q2 : wz.cell? ⟨gB, 5, none⟩ = some (.slice A6 n2 c6) := (HB9.out wz hz).cell 5; have q3 : wz.cell? ⟨gW, 5, none⟩ = some (.slice RA rn rc) := (HW9.out wz hz).cell 5; (go_simp <;> simp))
          refine tkS 23 hS ?_
          refine wpAnyH_done (by kernel_rfl) ?_ _
          have HMb := Lib.hid (HM9.out.call hS)
          clear hS HB9 HW9 HSM1 HSM2 HRM
          go_wp2_with fail
          exact ⟨⟨k + 1, rs2, n2, A5, c5, A6, c6, A9, c9, by omega, rfl, by go_num, HN2, HL2, HMb, Lib.hid hc9⟩, by simp [intOf]; omega⟩
      · obtain rfl : k = n := by omega
        go_wp2_with fail
        refine (works_any _).mono ?_
        rintro e z ⟨rfl, hk2⟩
        have HK := Lib.hid (HM.out.call hk2).bel
        clear hk2
        go_wp2_with fail
        go_ret
        exact ⟨rfl, HK.out⟩
end Go.Proofs.Ytgjkbnplpioloaa
