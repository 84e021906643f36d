/-
  ScaleParts where it runs.
  Conditions: the numbers are of 32 bits.
-/
import Derived.Test.YtjbohnnknfcjeaaSS
import Derived.Test.YtjbohnnknfcjeaaND
namespace Go.Proofs.Ytjbohnnknfcjeaa
open Go.RowKit
attribute [local go_sem] Oper.semAt_some
set_option maxRecDepth 20000

set_option maxHeartbeats 25600000 in
theorem parts_any (A0 : Option Addr) (n0 c0 : Nat) (l : List Nat) (B0 : Option Addr) (m d0 : Nat) (ml : List Nat) (x : Nat) (w : World) (h : Lz (fun _ => False) w 1 A0 n0 (UC l)) (hm : Lz (fun _ => False) w 1 B0 m (UC ml)) (hU : ∀ x ∈ l, U32 x) (hM : ∀ x ∈ ml, U32 x) :
    Calls Try.prog 6 #[.slice A0 n0 c0, .slice B0 m d0, .int .u32 (x : Int)] w (RetB w (.bool true)) := by
  have hlen := h.ulen
  have hmlen := hm.ulen
  have HOF := Lib.hid (Of_any A0 n0 c0 l w h)
  have HZ0 : Hid ((#[.int .i64 0, .int .u32 0, .int .u32 0, .int .u32 0, .int .u32 0, .int .u32 0, .int .u32 0, .int .u32 0] : Array Value) = zS) := Lib.hid rfl
  have hz0 := HZ0.out
  have HL := Lib.hid h
  have HM := Lib.hid hm
  clear h hm
  cases hok : okB l with
  | false =>
    rw [ofV_no hok] at HOF
    go_enter Try.func6, Try.ntmps6
    go_wp2_with fail
    refine HOF.out.mono ?_
    rintro e z ⟨rfl, hb⟩
    have HB1 := Lib.hid hb
    clear hb HOF
    go_upto_region 2 with (refine wpList_store_new 27 (.tmp 7) (.tmp 23) rfl rfl rfl z.heap.size z rfl rfl zS zS 8 rfl strS zS_size zS_size zS_one rfl ?_)
    have HBF := Lib.hid (HB1.out.alloc HB1.out.size (.cells zS 27))
    generalize z.alloc (.cells zS 27) = z1 at HBF ⊢
    clear HB1 hz0
    go_wp2_with (go_at_call 7; refine (works_from _ HBF.out).mono ?_; rintro e z ⟨rfl, hb⟩)
    go_ret
    exact ⟨rfl, hb⟩
  | true =>
    have HG := Lib.hid (gd_of hok hU)
    have HS8 : Hid ((scA l).size = 8) := scA_size HG.out.len
    obtain ⟨v0, v1, v2, v3, v4, v5, v6, v7, hv⟩ := eight HS8.out
    rw [ofV_yes hok, hv] at HOF
    have HV1 : Hid ((#[v0, v1, v2, v3, v4, v5, v6, v7] : Array Value).all (·.oneCell') = true) := by rw [← hv]; exact scA_one _
    have HAT := Lib.hid (fun W y => sAt_any l HG.out y W)
    have HCUT := Lib.hid (fun W y => sCut_any l HG.out y W)
    rw [hv] at HAT HCUT
    have HVV := Lib.hid hv
    clear hok hv
    go_enter Try.func6, Try.ntmps6
    go_wp2_with fail
    refine HOF.out.mono ?_
    rintro e z ⟨rfl, hb⟩
    have HB1 := Lib.hid hb
    clear hb HOF
    go_upto_region 2 with (refine wpList_store_new 27 (.tmp 7) (.tmp 23) rfl rfl rfl z.heap.size z rfl rfl #[v0, v1, v2, v3, v4, v5, v6, v7] zS 8 rfl strS rfl zS_size HV1.out rfl ?_)
    have HBF := Lib.hid (HB1.out.alloc HB1.out.size (.cells #[v0, v1, v2, v3, v4, v5, v6, v7] 27))
    have HA : Hid (At (z.alloc (.cells #[v0, v1, v2, v3, v4, v5, v6, v7] 27)) z.heap.size 27 #[v0, v1, v2, v3, v4, v5, v6, v7]) := At.new z _ _
    generalize z.alloc (.cells #[v0, v1, v2, v3, v4, v5, v6, v7] 27) = z1 at HBF HA ⊢
    generalize z.heap.size = g at HA ⊢
    clear HB1 hz0
    by_cases h40 : 40 < m ∨ m = 0
    · by_cases h1 : 40 < m
      · have d1 : decide ((40 : Int) < (m : Int)) = true := decide_eq_true (by omega)
        have d1n : decide (40 < m) = true := decide_eq_true h1
        clear h40
        go_wp2_with (go_at_call 7; refine (works_from _ HBF.out).mono ?_; rintro e z ⟨rfl, hb⟩)
        go_ret
        exact ⟨rfl, hb⟩
      · obtain rfl : m = 0 := by omega
        have d1 : decide ((40 : Int) < ((0 : Nat) : Int)) = false := by decide
        have d1n : decide (40 < 0) = false := by decide
        have e1 : (((0 : Nat) : Int) == 0) = true := rfl
        clear h40 h1
        go_wp2_with (go_at_call 7; refine (works_from _ HBF.out).mono ?_; rintro e z ⟨rfl, hb⟩)
        go_ret
        exact ⟨rfl, hb⟩
    have d1 : decide ((40 : Int) < (m : Int)) = false := decide_eq_false (by omega)
    have d1n : decide (40 < m) = false := decide_eq_false (by omega)
    have e1 : ((m : Int) == 0) = false := by rw [show ((m : Int) == 0) = ((m : Int) == ((0 : Nat) : Int)) from rfl, nat_beq]; simp; omega
    have hm0 : 0 < m := by omega
    have hm40 : m ≤ 40 := by omega
    have HLM := Lib.hid (HM.out.below HBF.out)
    have HBX : Hid (∀ wz, Below z1.heap.size z1 wz → At wz g 27 #[v0, v1, v2, v3, v4, v5, v6, v7]) := fun wz hz => HA.out.under hz HA.out.lt
    clear h40 HM
    obtain ⟨hlB, ho, hil, rfl, hlb, hlc⟩ := HLM.out.uc hm0
    obtain ⟨y0, hy0⟩ : ∃ y0, ml[0] = y0 := ⟨_, rfl⟩
    rw [hy0, Nat.add_zero] at hlc
    have HY0 := Lib.hid hy0
    clear hy0
    go_upto_region 4 with fail
    refine wp_region_held_drew (S := fun wz => Below z1.heap.size z1 wz) (by kernel_rfl) (Below.refl _ z1).drew (fun hS => ?_)
    refine tk (v := .agg #[v0, v1, v2, v3, v4, v5, v6, v7]) 0 hS ?_ (hy := by intro wz hz; have q0 := below_cell hz hlb hlc; exact exec_load_at 27 (.tmp 7) rfl g rfl _ 8 strS rfl (HBX.out wz hz))
    refine tk 1 hS ?_
    refine tk 2 hS ?_
    refine tk 3 hS ?_ (hy := by intro wz hz; have q0 := below_cell hz hlb hlc; go_simp <;> with_reducible rfl)
    refine wpAnyH_ready (rs := [4]) (by kernel_rfl) (by simp) ?_
    refine AllReadyH.cons rfl (fun K hK => ?_) AllReadyH.nil
    go_simp
    refine (HAT.out _ _).mono ?_
    rintro e y9 ⟨rfl, hb9⟩
    have hb : True := trivial
    have HB9 := Lib.hid hb9
    clear hb9
    refine hK.out _ _ (hS.trans (HB9.out.mono (Below.size hS))) (fun hT => ?_)
    clear hK hb hS
    have hS := hT
    clear hT
    refine tk 5 hS ?_
    refine wpAnyH_done (by kernel_rfl) ?_ _
    have HS := Lib.hid hS
    clear hS
    obtain ⟨k, hk⟩ : ∃ k, atN l y0 = k := ⟨_, rfl⟩
    rw [hk]
    have hk7 : k ≤ 7 := by rw [← hk]; exact Nat.le_trans (at_le l y0) HG.out.len
    have HK := Lib.hid hk
    clear hk hlc d1 d1n e1
    rename World => y1
    go_wp2_with fail
    go_loopw [6, 10] (fun v6 vi wr => ∃ i : Nat, i ≤ m ∧ v6 = .bool false ∧ vi = .int .i64 (i : Int) ∧ Hid (InK l ml k i) ∧ Hid (Below z1.heap.size z1 wr)) (fun _ i _ => m - (intOf i).toNat)
    case atStart => exact ⟨0, Nat.zero_le _, rfl, by go_num, Lib.hid (InK.zero l ml k), HS⟩
    case round =>
      clear HS
      obtain ⟨i, hi, rfl, rfl, HIN, HB⟩ := hrel
      by_cases hlt : i < m
      · obtain ⟨hlB', ho', hil2, hoo, _, hlc⟩ := HLM.out.uc hlt
        injection hoo with hoo
        injection hoo with hoo1 hoo2
        subst hoo1 hoo2
        obtain ⟨y, hy⟩ : ∃ y, ml[i] = y := ⟨_, rfl⟩
        rw [hy] at hlc
        have HY := Lib.hid hy
        obtain ⟨ay, hay⟩ : ∃ ay, atN l y = ay := ⟨_, rfl⟩
        have HAY := Lib.hid hay
        obtain ⟨ce, hce⟩ : ∃ ce, ((ay : Int) != (k : Int)) = ce := ⟨_, rfl⟩
        have hcn : (ay != k) = ce := by rw [← hce, nat_bne]
        have HCN := Lib.hid hcn
        clear hy hcn
        go_upto_region 8 with fail
        refine wp_region_held_drew (S := fun wz => Below z1.heap.size z1 wz) (by kernel_rfl) HB.out.drew (fun hS => ?_)
        refine tk (v := .agg #[v0, v1, v2, v3, v4, v5, v6, v7]) 0 hS ?_ (hy := by intro wz hz; have q0 := below_cell hz hlb hlc; exact exec_load_at 27 (.tmp 7) rfl g rfl _ 8 strS rfl (HBX.out wz hz))
        refine tk 1 hS ?_
        refine tk 2 hS ?_
        refine tk 3 hS ?_
        refine tk 4 hS ?_ (hy := by intro wz hz; have q0 := below_cell hz hlb hlc; go_simp <;> with_reducible rfl)
        refine tk 6 hS ?_
        refine wpAnyH_ready (rs := [5]) (by kernel_rfl) (by simp) ?_
        refine AllReadyH.cons rfl (fun K hK => ?_) AllReadyH.nil
        go_simp
        refine (HAT.out _ _).mono ?_
        rintro e y9 ⟨rfl, hb9⟩
        have hb : True := trivial
        have HB9 := Lib.hid hb9
        clear hb9
        refine hK.out _ _ (hS.trans (HB9.out.mono (Below.size hS))) (fun hT => ?_)
        clear hK hb hS
        have hS := hT
        clear hT
        refine tk 7 hS ?_
        refine wpAnyH_done (by kernel_rfl) ?_ _
        have HS := Lib.hid hS
        clear hS
        cases ce
        · go_wp2_with fail
          exact ⟨⟨i + 1, by omega, rfl, by go_num, Lib.hid (HIN.out.next hil2 (by rw [HY.out, HAY.out]; simpa using HCN.out)), HS⟩, by simp [intOf]; omega⟩
        · have HBF2 := Lib.hid (HBF.out.trans (HS.out.mono HBF.out.size))
          go_wp2_with (go_at_call 7; refine (works_from _ HBF2.out).mono ?_; rintro e z ⟨rfl, hb⟩)
          go_ret
          exact ⟨rfl, hb⟩
      · obtain rfl : i = m := by omega
        have HIA : Hid (InK l ml k ml.length) := by rw [hmlen]; exact HIN
        have HMI := Lib.hid (Middle_any _ i d0 ml wr (HLM.out.below HB.out) (by omega))
        clear HIN
        go_wp2_with fail
        refine HMI.out.mono ?_
        rintro e z2 ⟨mm, ok, rfl, hmid, hb2⟩
        have HB2 := Lib.hid (HB.out.trans (hb2.mono HB.out.size))
        have HBF2 := Lib.hid (HBF.out.trans (HB2.out.mono HBF.out.size))
        have HMID := Lib.hid hmid
        clear hb2 hmid HMI HB
        cases ok
        · go_wp2_with (go_at_call 7; refine (works_from _ HBF2.out).mono ?_; rintro e z ⟨rfl, hb⟩)
          go_ret
          exact ⟨rfl, hb⟩
        have HIM : Hid (IsMid ml mm) := by
          rcases HMID.out with ⟨_, h⟩ | ⟨h, _⟩
          · exact h
          · cases h
        have HCT := Lib.hid (cut_mid HG.out HIA.out HIM.out)
        have hz0 := HZ0.out
        go_wp2_with (refine wpList_load_at 27 67 (.tmp 7) rfl rfl rfl g rfl #[v0, v1, v2, v3, v4, v5, v6, v7] 8 strS rfl (HBX.out _ HB2.out) ?_)
        refine (HCUT.out _ mm).mono ?_
        rintro e z3 ⟨rfl, hb3⟩
        have HB3 := Lib.hid (HB2.out.trans (hb3.mono HB2.out.size))
        clear hb3
        by_cases h7 : 7 ≤ n0
        · have hn7 : n0 = 7 := by have := HG.out.len; omega
          have HCV : Hid (cutV l mm = .tuple #[.agg #[v0, v1, v2, v3, v4, v5, v6, v7], .int .i64 0, .int .i64 6]) := by
            show _ = _
            unfold cutV
            rw [HCT.out, if_pos (by rw [hlen]; exact h7)]
            dsimp only
            rw [HVV.out]
            rfl
          rw [HCV.out]
          have e7 : ((n0 : Int) == 7) = true := by rw [hn7]; rfl
          clear h7 hn7
          go_upto_region 14 with (refine wpList_store_new 27 (.tmp 13) (.tmp 70) rfl rfl rfl z3.heap.size z3 rfl rfl #[v0, v1, v2, v3, v4, v5, v6, v7] zS 8 rfl strS rfl zS_size HV1.out rfl ?_)
          have HB4 := Lib.hid (HB3.out.alloc HB3.out.size (.cells #[v0, v1, v2, v3, v4, v5, v6, v7] 27))
          have HBF4 := Lib.hid (HBF.out.trans (HB4.out.mono HBF.out.size))
          generalize z3.alloc (.cells #[v0, v1, v2, v3, v4, v5, v6, v7] 27) = z4 at HB4 HBF4 ⊢
          clear hz0
          go_wp2_with (go_at_call 7; refine (works_from _ HBF4.out).mono ?_; rintro e z ⟨rfl, hb⟩)
          go_ret
          exact ⟨rfl, hb⟩
        · have hl6 : l.length < 7 := by omega
          have HGI : Hid (Gd (insN l mm)) := by
            have h1 := cut_good HG.out (x := mm) (hM mm HIM.out.mem)
            rw [HCT.out, if_neg (by omega)] at h1
            exact h1
          have HS9 : Hid ((scA (insN l mm)).size = 8) := scA_size HGI.out.len
          obtain ⟨u0, u1, u2, u3, u4, u5, u6, u7, hu⟩ := eight HS9.out
          have HCV : Hid (cutV l mm = .tuple #[.agg #[u0, u1, u2, u3, u4, u5, u6, u7], .int .i64 (k : Int), .int .i64 0]) := by
            show _ = _
            unfold cutV
            rw [HCT.out, if_neg (by omega)]
            dsimp only
            rw [hu]
            rfl
          have HAU := Lib.hid (fun W y => sAt_any (insN l mm) HGI.out y W)
          have HU1 : Hid ((#[u0, u1, u2, u3, u4, u5, u6, u7] : Array Value).all (·.oneCell') = true) := by rw [← hu]; exact scA_one _
          rw [hu] at HAU
          rw [HCV.out]
          clear h7 hl6 hu
          go_upto_region 14 with (refine wpList_store_new 27 (.tmp 13) (.tmp 70) rfl rfl rfl z3.heap.size z3 rfl rfl #[u0, u1, u2, u3, u4, u5, u6, u7] zS 8 rfl strS rfl zS_size HU1.out rfl ?_)
          have HB4 := Lib.hid (HB3.out.alloc HB3.out.size (.cells #[u0, u1, u2, u3, u4, u5, u6, u7] 27))
          have HA13 : Hid (At (z3.alloc (.cells #[u0, u1, u2, u3, u4, u5, u6, u7] 27)) z3.heap.size 27 #[u0, u1, u2, u3, u4, u5, u6, u7]) := At.new z3 _ _
          generalize z3.alloc (.cells #[u0, u1, u2, u3, u4, u5, u6, u7] 27) = z4 at HB4 HA13 ⊢
          generalize z3.heap.size = gt at HA13 ⊢
          have HBF4 := Lib.hid (HBF.out.trans (HB4.out.mono HBF.out.size))
          have HLM4 := Lib.hid (HLM.out.below HB4.out)
          have HBX4 : Hid (∀ wz, Below z4.heap.size z4 wz → At wz g 27 #[v0, v1, v2, v3, v4, v5, v6, v7]) := fun wz hz => HBX.out wz (HB4.out.trans (hz.mono HB4.out.size))
          have HBU : Hid (∀ wz, Below z4.heap.size z4 wz → At wz gt 27 #[u0, u1, u2, u3, u4, u5, u6, u7]) := fun wz hz => HA13.out.under hz HA13.out.lt
          have HLT4 : Hid (hlB < z4.heap.size) := Nat.lt_of_lt_of_le hlb HB4.out.size
          clear hz0 HB3 HBX HLM hlb HB2 HBF2
          have HMM := Lib.hid HIM.out.mem
          have HMS := Lib.hid HIM.out.some
          have hi40 := hm40
          obtain ⟨k1, hk1⟩ : ∃ k1, k + 1 = k1 := ⟨_, rfl⟩
          have ek1 : (k : Int) + 1 = (k1 : Int) := by omega
          have wk1 := wrap_nat (k := k1) (by omega)
          have HK1 := Lib.hid hk1
          have HATX : Hid (∀ y ∈ ml, atN (insN l mm) y = if mm ≤ y then k1 else k) := fun y hy => by
            rw [at_ins, HIA.out.mem hy]
            split
            · exact hk1
            · rfl
          have HFX : Hid (atN (insN l mm) x = atN l x + if mm ≤ x then 1 else 0) := at_ins l mm x
          have HAMM : Hid (atN l mm = k) := HIA.out.mem HIM.out.mem
          clear hk1 hi40 HIA HIM HCT HMID HCV HCUT hU hM hlt hi
          rename World => zq
          go_wp2_with fail
          go_loopw [16, 17, 18] (fun va vb vi wr => ∃ (j a b : Nat), j ≤ i ∧ a ≤ j ∧ b ≤ j ∧ va = .int .i64 (a : Int) ∧ vb = .int .i64 (b : Int) ∧ vi = .int .i64 (j : Int) ∧ Hid ((ml.take j).countP (fun y => decide (y < mm)) = a) ∧ Hid ((ml.take j).countP (fun y => decide (mm ≤ y)) = b) ∧ Hid (Below zq.heap.size zq wr)) (fun _ _ j _ => i - (intOf j).toNat)
          case atStart => exact ⟨0, 0, 0, Nat.zero_le _, Nat.le_refl _, Nat.le_refl _, by go_num, by go_num, by go_num, Lib.hid (by simp), Lib.hid (by simp), Lib.hid (Below.refl _ zq)⟩
          case round =>
            obtain ⟨j, a, b, hj, haj, hbj, rfl, rfl, rfl, HCA, HCB, HB⟩ := hrel
            by_cases hjt : j < i
            · obtain ⟨hlB', ho', hil3, hoo, hlb, hlc⟩ := HLM4.out.uc hjt
              injection hoo with hoo
              injection hoo with hoo1 hoo2
              subst hoo1 hoo2
              have HNA := Lib.hid (countP_next (p := fun y => decide (y < mm)) hil3)
              have HNB := Lib.hid (countP_next (p := fun y => decide (mm ≤ y)) hil3)
              rw [HCA.out] at HNA
              rw [HCB.out] at HNB
              have hay := HATX.out _ (List.getElem_mem hil3)
              obtain ⟨y, hy⟩ : ∃ y, ml[j] = y := ⟨_, rfl⟩
              rw [hy] at hlc hay HNA HNB
              by_cases hym : mm ≤ y
              · rw [if_pos hym] at hay
                have e1 : ((k1 : Int) == (k : Int)) = false := by rw [nat_beq]; have := HK1.out; simp; omega
                have e2 : ((k1 : Int) == (k1 : Int)) = true := beq_self_eq_true _
                have HD1 : Hid (decide (y < mm) = false) := decide_eq_false (by omega)
                have HD2 : Hid (decide (mm ≤ y) = true) := decide_eq_true hym
                clear hy hym
                go_upto_region 20 with fail
                refine wp_region_held_drew (S := fun wz => Below zq.heap.size zq wz) (by kernel_rfl) HB.out.drew (fun hS => ?_)
                refine tk (v := .agg #[u0, u1, u2, u3, u4, u5, u6, u7]) 0 hS ?_ (hy := by intro wz hz; have q0 := below_cell hz hlb hlc; exact exec_load_at 27 (.tmp 13) rfl gt rfl _ 8 strS rfl (HBU.out wz hz))
                refine tk 1 hS ?_
                refine tk 2 hS ?_
                refine tk 3 hS ?_
                refine tk 4 hS ?_ (hy := by intro wz hz; have q0 := below_cell hz hlb hlc; go_simp <;> with_reducible rfl)
                refine tk 6 hS ?_
                refine wpAnyH_ready (rs := [5]) (by kernel_rfl) (by simp) ?_
                refine AllReadyH.cons rfl (fun K hK => ?_) AllReadyH.nil
                go_simp
                refine (HAU.out _ _).mono ?_
                rintro e y9 ⟨rfl, hb9⟩
                have hb : True := trivial
                have HB9 := Lib.hid hb9
                clear hb9
                refine hK.out _ _ (hS.trans (HB9.out.mono (Below.size hS))) (fun hT => ?_)
                clear hK hb hS
                have hS := hT
                clear hT
                refine tk 7 hS ?_
                refine wpAnyH_done (by kernel_rfl) ?_ _
                have HS := Lib.hid hS
                clear hS
                go_upto_region 22 with fail
                refine wp_region_held_drew (S := fun wz => Below zq.heap.size zq wz) (by kernel_rfl) HS.out.drew (fun hS => ?_)
                refine tk (v := .agg #[u0, u1, u2, u3, u4, u5, u6, u7]) 0 hS ?_ (hy := by intro wz hz; have q0 := below_cell hz hlb hlc; exact exec_load_at 27 (.tmp 13) rfl gt rfl _ 8 strS rfl (HBU.out wz hz))
                refine tk 1 hS ?_
                refine tk 2 hS ?_
                refine tk 3 hS ?_
                refine tk 4 hS ?_ (hy := by intro wz hz; have q0 := below_cell hz hlb hlc; go_simp <;> with_reducible rfl)
                refine tk 6 hS ?_
                refine tk 7 hS ?_
                refine wpAnyH_ready (rs := [5]) (by kernel_rfl) (by simp) ?_
                refine AllReadyH.cons rfl (fun K hK => ?_) AllReadyH.nil
                go_simp
                refine (HAU.out _ _).mono ?_
                rintro e y9 ⟨rfl, hb9⟩
                have hb : True := trivial
                have HB9 := Lib.hid hb9
                clear hb9
                refine hK.out _ _ (hS.trans (HB9.out.mono (Below.size hS))) (fun hT => ?_)
                clear hK hb hS
                have hS := hT
                clear hT
                refine tk 8 hS ?_
                refine wpAnyH_done (by kernel_rfl) ?_ _
                have HS := Lib.hid hS
                clear hS
                go_wp2_with fail
                exact ⟨⟨j + 1, a, b + 1, by omega, by omega, by omega, by go_num, by go_num, by go_num, Lib.hid (by rw [HNA.out, HD1.out]; rfl), Lib.hid (by rw [HNB.out, HD2.out]; rfl), HS⟩, by simp [intOf]; omega⟩
              · rw [if_neg hym] at hay
                have e1 : ((k : Int) == (k : Int)) = true := beq_self_eq_true _
                have e2 : ((k : Int) == (k1 : Int)) = false := by rw [nat_beq]; have := HK1.out; simp; omega
                have HD1 : Hid (decide (y < mm) = true) := decide_eq_true (by omega)
                have HD2 : Hid (decide (mm ≤ y) = false) := decide_eq_false hym
                clear hy hym
                go_upto_region 20 with fail
                refine wp_region_held_drew (S := fun wz => Below zq.heap.size zq wz) (by kernel_rfl) HB.out.drew (fun hS => ?_)
                refine tk (v := .agg #[u0, u1, u2, u3, u4, u5, u6, u7]) 0 hS ?_ (hy := by intro wz hz; have q0 := below_cell hz hlb hlc; exact exec_load_at 27 (.tmp 13) rfl gt rfl _ 8 strS rfl (HBU.out wz hz))
                refine tk 1 hS ?_
                refine tk 2 hS ?_
                refine tk 3 hS ?_
                refine tk 4 hS ?_ (hy := by intro wz hz; have q0 := below_cell hz hlb hlc; go_simp <;> with_reducible rfl)
                refine tk 6 hS ?_
                refine wpAnyH_ready (rs := [5]) (by kernel_rfl) (by simp) ?_
                refine AllReadyH.cons rfl (fun K hK => ?_) AllReadyH.nil
                go_simp
                refine (HAU.out _ _).mono ?_
                rintro e y9 ⟨rfl, hb9⟩
                have hb : True := trivial
                have HB9 := Lib.hid hb9
                clear hb9
                refine hK.out _ _ (hS.trans (HB9.out.mono (Below.size hS))) (fun hT => ?_)
                clear hK hb hS
                have hS := hT
                clear hT
                refine tk 7 hS ?_
                refine wpAnyH_done (by kernel_rfl) ?_ _
                have HS := Lib.hid hS
                clear hS
                go_upto_region 22 with fail
                refine wp_region_held_drew (S := fun wz => Below zq.heap.size zq wz) (by kernel_rfl) HS.out.drew (fun hS => ?_)
                refine tk (v := .agg #[u0, u1, u2, u3, u4, u5, u6, u7]) 0 hS ?_ (hy := by intro wz hz; have q0 := below_cell hz hlb hlc; exact exec_load_at 27 (.tmp 13) rfl gt rfl _ 8 strS rfl (HBU.out wz hz))
                refine tk 1 hS ?_
                refine tk 2 hS ?_
                refine tk 3 hS ?_
                refine tk 4 hS ?_ (hy := by intro wz hz; have q0 := below_cell hz hlb hlc; go_simp <;> with_reducible rfl)
                refine tk 6 hS ?_
                refine tk 7 hS ?_
                refine wpAnyH_ready (rs := [5]) (by kernel_rfl) (by simp) ?_
                refine AllReadyH.cons rfl (fun K hK => ?_) AllReadyH.nil
                go_simp
                refine (HAU.out _ _).mono ?_
                rintro e y9 ⟨rfl, hb9⟩
                have hb : True := trivial
                have HB9 := Lib.hid hb9
                clear hb9
                refine hK.out _ _ (hS.trans (HB9.out.mono (Below.size hS))) (fun hT => ?_)
                clear hK hb hS
                have hS := hT
                clear hT
                refine tk 8 hS ?_
                refine wpAnyH_done (by kernel_rfl) ?_ _
                have HS := Lib.hid hS
                clear hS
                go_wp2_with fail
                exact ⟨⟨j + 1, a + 1, b, by omega, by omega, by omega, by go_num, by go_num, by go_num, Lib.hid (by rw [HNA.out, HD1.out]; rfl), Lib.hid (by rw [HNB.out, HD2.out]; rfl), HS⟩, by simp [intOf]; omega⟩
            · obtain rfl : j = i := by omega
              have ha2 : belN ml mm = a := by unfold belN; rw [← HCA.out, ← hmlen, List.take_length]
              have hb2 : aboN ml mm = b := by unfold aboN; rw [← HCB.out, ← hmlen, List.take_length]
              have hsum := bel_abo ml mm
              have hap := HMS.out
              have hbp := abo_pos HMM.out
              rw [ha2, hb2, hmlen] at hsum
              rw [ha2] at hap
              rw [hb2] at hbp
              have f1 : decide ((0 : Int) < (a : Int)) = true := decide_eq_true (by omega)
              have f1n : decide (0 < a) = true := decide_eq_true hap
              have f2 : decide ((0 : Int) < (b : Int)) = true := decide_eq_true (by omega)
              have f2n : decide (0 < b) = true := decide_eq_true hbp
              have f3 : (a : Int) + (b : Int) = (j : Int) := by omega
              have wj := wrap_nat (k := j) (by omega)
              have f4 : ((j : Int) == (j : Int)) = true := beq_self_eq_true _
              have f5 : ((k : Int) == (k : Int)) = true := beq_self_eq_true _
              have hmon1 : mm ≤ x → k ≤ atN l x := fun h => by rw [← HAMM.out]; exact at_mono l h
              have hmon2 : x < mm → atN l x ≤ k := fun h => by rw [← HAMM.out]; exact at_mono l (Nat.le_of_lt h)
              have hal7 : atN l x ≤ 7 := Nat.le_trans (at_le l x) HG.out.len
              have hfx := HFX.out
              have HAX1 := Lib.hid (fun W => HAT.out W x)
              have HAX2 := Lib.hid (fun W => HAU.out W x)
              generalize atN l x = ax at hmon1 hmon2 hal7 hfx HAX1
              rw [hfx] at HAX2
              clear hfx ha2 hb2 hsum hap hbp hjt HCA HCB HAT HAU HATX HFX
              have HAG : Hid (At wr g 27 #[v0, v1, v2, v3, v4, v5, v6, v7]) := HBX4.out wr HB.out
              by_cases hxm : mm ≤ x
              · rw [if_pos hxm] at HAX2
                have d3 : decide ((mm : Int) ≤ (x : Int)) = true := decide_eq_true (by omega)
                have d3n : decide (mm ≤ x) = true := decide_eq_true hxm
                obtain ⟨aw, haw⟩ : ∃ aw, ax + 1 = aw := ⟨_, rfl⟩
                rw [haw] at HAX2
                have eaw : (ax : Int) + 1 = (aw : Int) := by omega
                have waw := wrap_nat (k := aw) (by omega)
                have f6 : ((aw : Int) == (aw : Int)) = true := beq_self_eq_true _
                have hka := hmon1 hxm
                by_cases hk2 : k < ax
                · have g1 : decide ((k : Int) < (ax : Int)) = true := decide_eq_true (by omega)
                  have g1n : decide (k < ax) = true := decide_eq_true hk2
                  clear hmon1 hmon2 hxm haw hka hk2
                  go_wp2_with (refine wpList_load_at 27 112 (.tmp 7) rfl rfl rfl g rfl #[v0, v1, v2, v3, v4, v5, v6, v7] 8 strS rfl HAG.out ?_)
                  refine (HAX1.out wr).mono ?_
                  rintro e yr ⟨rfl, hbr⟩
                  have HBR := Lib.hid (HB.out.trans (hbr.mono HB.out.size))
                  obtain ⟨p0, p1, p2, p3, p4, p5, p6, p7⟩ := cells8 (HBU.out yr HBR.out)
                  clear hbr
                  go_wp2_with fail
                  refine (HAX2.out yr).mono ?_
                  rintro e ys ⟨rfl, hbs⟩
                  have HBS := Lib.hid (HBF4.out.trans ((HBR.out.trans (hbs.mono HBR.out.size)).mono HBF4.out.size))
                  clear hbs p0 p1 p2 p3 p4 p5 p6 p7
                  go_wp2_with (go_at_call 7; refine (works_from _ HBS.out).mono ?_; rintro e z ⟨rfl, hb⟩)
                  go_ret
                  exact ⟨rfl, hb⟩
                · have g1 : decide ((k : Int) < (ax : Int)) = false := decide_eq_false (by omega)
                  have g1n : decide (k < ax) = false := decide_eq_false hk2
                  have g2 : ((ax : Int) == (k : Int)) = true := by rw [nat_beq]; simp; omega
                  clear hmon1 hmon2 hxm haw hka hk2
                  go_wp2_with (refine wpList_load_at 27 112 (.tmp 7) rfl rfl rfl g rfl #[v0, v1, v2, v3, v4, v5, v6, v7] 8 strS rfl HAG.out ?_)
                  refine (HAX1.out wr).mono ?_
                  rintro e yr ⟨rfl, hbr⟩
                  have HBR := Lib.hid (HB.out.trans (hbr.mono HB.out.size))
                  obtain ⟨p0, p1, p2, p3, p4, p5, p6, p7⟩ := cells8 (HBU.out yr HBR.out)
                  clear hbr
                  go_wp2_with fail
                  refine (HAX2.out yr).mono ?_
                  rintro e ys ⟨rfl, hbs⟩
                  have HBS := Lib.hid (HBF4.out.trans ((HBR.out.trans (hbs.mono HBR.out.size)).mono HBF4.out.size))
                  clear hbs p0 p1 p2 p3 p4 p5 p6 p7
                  go_wp2_with (go_at_call 7; refine (works_from _ HBS.out).mono ?_; rintro e z ⟨rfl, hb⟩)
                  go_ret
                  exact ⟨rfl, hb⟩
              · rw [if_neg hxm, Nat.add_zero] at HAX2
                have d3 : decide ((mm : Int) ≤ (x : Int)) = false := decide_eq_false (by omega)
                have d3n : decide (mm ≤ x) = false := decide_eq_false hxm
                have f6 : ((ax : Int) == (ax : Int)) = true := beq_self_eq_true _
                have hka := hmon2 (by omega)
                have g1 : decide ((k : Int) < (ax : Int)) = false := decide_eq_false (by omega)
                have g1n : decide (k < ax) = false := decide_eq_false (by omega)
                by_cases hk2 : ax = k
                · have g2 : ((ax : Int) == (k : Int)) = true := by rw [nat_beq]; simpa using hk2
                  clear hmon1 hmon2 hxm hka hk2
                  go_wp2_with (refine wpList_load_at 27 112 (.tmp 7) rfl rfl rfl g rfl #[v0, v1, v2, v3, v4, v5, v6, v7] 8 strS rfl HAG.out ?_)
                  refine (HAX1.out wr).mono ?_
                  rintro e yr ⟨rfl, hbr⟩
                  have HBR := Lib.hid (HB.out.trans (hbr.mono HB.out.size))
                  obtain ⟨p0, p1, p2, p3, p4, p5, p6, p7⟩ := cells8 (HBU.out yr HBR.out)
                  clear hbr
                  go_wp2_with fail
                  refine (HAX2.out yr).mono ?_
                  rintro e ys ⟨rfl, hbs⟩
                  have HBS := Lib.hid (HBF4.out.trans ((HBR.out.trans (hbs.mono HBR.out.size)).mono HBF4.out.size))
                  clear hbs p0 p1 p2 p3 p4 p5 p6 p7
                  go_wp2_with (go_at_call 7; refine (works_from _ HBS.out).mono ?_; rintro e z ⟨rfl, hb⟩)
                  go_ret
                  exact ⟨rfl, hb⟩
                · have g2 : ((ax : Int) == (k : Int)) = false := by rw [nat_beq]; simpa using hk2
                  clear hmon1 hmon2 hxm hka hk2
                  go_wp2_with (refine wpList_load_at 27 112 (.tmp 7) rfl rfl rfl g rfl #[v0, v1, v2, v3, v4, v5, v6, v7] 8 strS rfl HAG.out ?_)
                  refine (HAX1.out wr).mono ?_
                  rintro e yr ⟨rfl, hbr⟩
                  have HBR := Lib.hid (HB.out.trans (hbr.mono HB.out.size))
                  obtain ⟨p0, p1, p2, p3, p4, p5, p6, p7⟩ := cells8 (HBU.out yr HBR.out)
                  clear hbr
                  go_wp2_with fail
                  refine (HAX2.out yr).mono ?_
                  rintro e ys ⟨rfl, hbs⟩
                  have HBS := Lib.hid (HBF4.out.trans ((HBR.out.trans (hbs.mono HBR.out.size)).mono HBF4.out.size))
                  clear hbs p0 p1 p2 p3 p4 p5 p6 p7
                  go_wp2_with (go_at_call 7; refine (works_from _ HBS.out).mono ?_; rintro e z ⟨rfl, hb⟩)
                  go_ret
                  exact ⟨rfl, hb⟩
/-- The law as the frame wants it. -/
theorem parts_law (A : Option Addr) (n c : Nat) (z : List Int) (B : Option Addr) (m d : Nat) (zm : List Int) (x : Int) (w : World) (h : IsRow .u32 w A n c z) (hm : IsRow .u32 w B m d zm) (hx : (Lit.int .u32 x).wf = true) :
    Calls Try.prog 6 #[.slice A n c, .slice B m d, .int .u32 x] w fun e w' => e = .returned (.bool true) ∧ Below w.heap.size w w' := by
  obtain ⟨L, hL, hU⟩ := nums_of_row h
  obtain ⟨M, hM, hUM⟩ := nums_of_row hm
  obtain ⟨y, rfl, _⟩ := nat_of_wf hx
  exact parts_any A n c L B m d M y w hL hM hU hUM
end Go.Proofs.Ytjbohnnknfcjeaa
