/-
  The law PlatterTears where it runs.
  Conditions: light acts.
-/
import Derived.Test.YtggcfbglfmcdmaaG1
namespace Go.Proofs.Ytggcfbglfmcdmaa
open Go.RowKit

theorem do_down_tp {w z : World} {g gs b9 : Nat} {R : Array Value} {T : List Int} {nw fu : Int} {kp : List Bool} {A : Option Addr} {Sr : List Int} {c : Nat} {nwr fu2 : Int} {K : Option Addr} {kl : List Bool} {kc : Nat} {dnr : Bool} {f : OpV}
    (hT : TP w z g gs b9 R T nw fu kp true) (hr : RefAt (XX g gs b9 b9) z A c K kc Sr kl) (ha : ActAt (XX g gs b9 b9) z f.N f.B f.l f.E f.el f.e2) (hR : R = #[.slice A Sr.length c, .int .i64 nwr, .int .i64 fu2, .slice K kl.length kc, .bool dnr]) (h4 : f.kd ≠ 4)
    (h1 : T.length ≤ 100000) (h2 : Sr.length ≤ 100000) (n0 : 0 ≤ nwr) (n1 : nwr ≤ 1000000) (f2 : I64 fu2) (k1 : kp.length ≤ 1000) :
    Calls Try.prog 10 #[.pointer (some ⟨g, 0, none⟩), .agg R, .agg #[.int .i64 f.kd, .int .i64 f.p, .int .i64 f.N, .slice f.B f.l.length f.cB, .slice f.E f.el.length f.e2]] z (DidD (XX g gs b9 b9) z g gs T nw) := by
  subst hR
  exact do_down (XX g gs b9 b9) g gs z T nw fu kp A Sr c nwr fu2 K kl kc dnr f.kd f.p f.N f.B f.l f.cB f.E f.el f.e2 hT.plat hr ha h4 h1 h2 n0 n1 f2 k1 (own_xx g gs b9 b9) hT.lt
theorem want_keep {z z' : World} {b : Nat} (h : z.there b 0 64) (hb : Below z.heap.size z z') (hl : b < z.heap.size) : z'.there b 0 64 := fun j hj => by
  rw [hb.cell (p := ⟨b, 0 + j, none⟩) hl, hb.frozen (p := ⟨b, 0 + j, none⟩) hl]
  exact h j hj
theorem want_lt {z : World} {b : Nat} (h : z.there b 0 64) : b < z.heap.size := by
  obtain ⟨h1, _⟩ := h 0 (by omega)
  obtain ⟨u, hu⟩ := Option.isSome_iff_exists.1 h1
  exact World.block_lt_of_cell? z _ hu
theorem upd_at {S T : List Int} {p : Nat} {l : List Int} {kf : Nat → Bool} {k : Nat} (hT : T = upd S p l kf) (hk : k < S.length) (hk2 : k < T.length) : T[k] = (if p ≤ k ∧ k - p < l.length ∧ kf (k - p) = true then l.getD (k - p) 0 else S.getD k 0) := by
  have h1 := upd_get S p l kf k hk
  rw [← hT, List.getElem?_eq_getElem hk2] at h1
  injection h1

set_option maxHeartbeats 16000000 in
set_option maxRecDepth 100000 in
theorem tears_main (A0 : Option Addr) (fs : List OpV) (c0 : Nat) (at_ : Int) (B : Option Addr) (l : List Int) (cB : Nat) (E : Option Addr) (el : List Bool) (e2 : Nat) (A4 : Option Addr) (hs : List OpV) (c4 : Nat) (w : World)
    (h0 : Ops w A0 fs) (h4 : Ops w A4 hs) (hl0 : lightB fs = true) (hl4 : lightB hs = true) (hB : Lz (fun _ => False) w 1 B l.length (IL l)) (hE : Lz (fun _ => False) w 1 E el.length (BL el)) (hE1 : el.length ≤ e2) (hE2 : e2 ≤ maxLen) (hbl : l.length ≤ 40) (hel : el.length ≤ 60) :
    Calls Try.prog 4 #[.slice A0 fs.length c0, .int .i64 at_, .slice B l.length cB, .slice E el.length e2, .slice A4 hs.length c4] w fun e w' => e = .returned (.bool true) ∧ Below w.heap.size w w' := by
  have hf80 : fs.length ≤ 80 := (lightB_iff.1 hl0).1
  have hh80 : hs.length ≤ 80 := (lightB_iff.1 hl4).1
  have HF := Lib.hid h0
  have HH := Lib.hid h4
  have HL0 := Lib.hid hl0
  have HL4 := Lib.hid hl4
  have HB := Lib.hid hB
  have HE := Lib.hid hE
  have HE2 := Lib.hid hE2
  have LI0 := Lib.hid (light_any c0 A0 fs w h0 (by omega))
  have LI4 := Lib.hid (light_any c4 A4 hs w h4 (by omega))
  rw [hl0] at LI0
  rw [hl4] at LI4
  have d40 : decide ((40 : Int) < (l.length : Int)) = false := by simp; omega
  have d60 : decide ((60 : Int) < (el.length : Int)) = false := by simp; omega
  have NW := Lib.hid (new_ok (fun _ => False) 12 w (by omega) (by omega))
  have RN := Lib.hid (fun W => refNew_ok 12 W (by omega) (by omega))
  clear h0 h4 hl0 hl4 hB hE hE2
  go_enter Try.func4, Try.ntmps4
  go_wp2_with fail
  refine LI0.out.mono ?_
  rintro e w0 ⟨rfl, rfl⟩
  go_wp2_with fail
  refine LI4.out.mono ?_
  rintro e w0 ⟨rfl, rfl⟩
  go_wp2_with fail
  refine NW.out.mono ?_
  rintro e w1 ⟨g, gs, rfl, hg1, hg2, hp, hb1⟩
  have P1 := Lib.hid hp
  have B1 := Lib.hid hb1
  clear hp hb1 NW LI0 LI4
  go_wp2_with fail
  refine (RN.out _).mono ?_
  rintro e w2 ⟨gsr, rfl, hg3, hlz, hb2⟩
  have ST := Lib.hid (TL.start hg1 hg2 P1.out B1.out hlz hb2 rfl rfl)
  clear hlz hb2 RN P1 B1 hg3 hg1 hg2
  go_wp2_with fail
  generalize w2.heap.size = b9 at *
  go_loopw [15, 16] (fun ok i wx => TearsR1 w g gs b9 fs.length ok i wx) (fun _ i _ => fs.length - (intOf i).toNat)
  case atStart => exact ⟨0, _, rfl, rfl, Nat.zero_le _, ST⟩
  case round =>
    clear ST
    obtain ⟨k, R, rfl, rfl, hk, WD⟩ := hrel
    obtain ⟨m, hm⟩ : ∃ m : Int, m = (k : Int) := ⟨_, rfl⟩
    rw [← hm] at WD
    have HMK := Lib.hid hm
    have hmb : m ≤ 80 := by omega
    clear hm
    by_cases hlt : k < fs.length
    · obtain ⟨b, off, rfl, hbB, fa, fo⟩ := HF.out.at_ k hlt
      obtain ⟨hl40, hl60⟩ := (lightB_iff.1 HL0.out).2 fs[k] (List.getElem_mem hlt)
      have FA := Lib.hid fa
      have FO := Lib.hid fo
      clear fa fo
      generalize fs[k] = f at *
      go_wp2_with fail
      refine wp_region_held_drew (S := fun z => Below w.heap.size w z) (by kernel_rfl) WD.out.below.drew (fun hS => ?_)
      refine takeH (i := 0) (d := 66) (v := ?vtaa0) rfl (by kernel_rfl) (by kernel_rfl) (by kernel_rfl) (fun _ _ _ h => h) rfl (by rfl) ?ytaa0 hS ?rtaa0
      case ytaa0 => (intro wz hz; go_simp <;> with_reducible rfl)
      simp only [List.setIfInBounds_toArray, List.set_cons_zero, List.set_cons_succ]
      refine takeH (i := 2) (d := 68) (v := ?vtaa2) rfl (by kernel_rfl) (by kernel_rfl) (by kernel_rfl) (fun _ _ _ h => h) rfl (by rfl) ?ytaa2 hS ?rtaa2
      case ytaa2 => (intro wz hz; go_simp <;> with_reducible rfl)
      simp only [List.setIfInBounds_toArray, List.set_cons_zero, List.set_cons_succ]
      refine takeH (i := 3) (d := 69) (v := ?vtaa3) rfl (by kernel_rfl) (by kernel_rfl) (by kernel_rfl) (fun _ _ _ h => h) rfl (by rfl) ?ytaa3 hS ?rtaa3
      case ytaa3 => (intro wz hz; go_simp <;> with_reducible rfl)
      simp only [List.setIfInBounds_toArray, List.set_cons_zero, List.set_cons_succ]
      refine takeH (i := 4) (d := 70) (v := ?vtaa4) rfl (by kernel_rfl) (by kernel_rfl) (by kernel_rfl) (fun _ _ _ h => h) rfl (by rfl) ?ytaa4 hS ?rtaa4
      case ytaa4 => (intro wz hz; go_simp <;> with_reducible rfl)
      simp only [List.setIfInBounds_toArray, List.set_cons_zero, List.set_cons_succ]
      refine takeH (i := 5) (d := 71) (v := .agg #[.int .i64 f.kd, .int .i64 f.p, .int .i64 f.N, .slice f.B f.l.length f.cB, .slice f.E f.el.length f.e2]) rfl (by kernel_rfl) (by kernel_rfl) (by kernel_rfl) (fun _ _ _ h => h) rfl (by rfl) ?ytaa5 hS ?rtaa5
      case ytaa5 => (intro wz hz; exact exec_op (.tmp 70) rfl b off k rfl f (FA.out.under hz hbB))
      simp only [List.setIfInBounds_toArray, List.set_cons_zero, List.set_cons_succ]
      refine wpAnyH_ready (rs := [1]) (by kernel_rfl) (by simp) ?_
      refine AllReadyH.cons rfl (fun K0 hK => ?_) AllReadyH.nil
      rw [if_pos (by rfl)]
      refine wp_load_box 67 (.tmp 13) rfl rfl b9 rfl R WD.out.box9 WD.out.both.size ?_
      simp only [List.setIfInBounds_toArray, List.set_cons_zero, List.set_cons_succ]
      refine hK.out _ _ (hS) (fun hT => ?_)
      clear hK hS
      have hS := hT
      clear hT
      refine wpAnyH_ready (rs := [6]) (by kernel_rfl) (by simp) ?_
      refine AllReadyH.cons rfl (fun K0 hK => ?_) AllReadyH.nil
      go_simp
      refine (do_sync (XX g gs b9 b9) g gs 12 m _ R f.kd f.p f.N f.B f.l f.cB f.E f.el f.e2 (WD.out.both.kept (Y := fun _ => False) (Mod.refl _ _).drew (fun h => h) (fun h => h) (fun _ _ h => h.elim)) (FO.out.act hS WD.out.low (by omega) (by omega)) (by omega) (by omega) (own_xx g gs b9 b9) WD.out.lt).mono ?_
      rintro e w2 ⟨R3, rfl, hbo, hmo⟩
      have BO := Lib.hid hbo
      have MO := Lib.hid hmo
      clear hbo hmo
      refine hK.out _ _ (WD.out.low_mod MO.out) (fun hT => ?_)
      clear hK hS
      have hS := hT
      clear hT
      refine takeH (i := 7) (d := 65) (v := ?vtab7) rfl (by kernel_rfl) (by kernel_rfl) (by kernel_rfl) (fun _ _ _ h => h) rfl (by rfl) ?ytab7 hS ?rtab7
      case ytab7 => (intro wz hz; go_simp <;> with_reducible rfl)
      simp only [List.setIfInBounds_toArray, List.set_cons_zero, List.set_cons_succ]
      refine takeH (i := 8) (d := 73) (v := ?vtab8) rfl (by kernel_rfl) (by kernel_rfl) (by kernel_rfl) (fun _ _ _ h => h) rfl (by rfl) ?ytab8 hS ?rtab8
      case ytab8 => (intro wz hz; go_simp <;> with_reducible rfl)
      simp only [List.setIfInBounds_toArray, List.set_cons_zero, List.set_cons_succ]
      refine takeH (i := 9) (d := 74) (v := ?vtab9) rfl (by kernel_rfl) (by kernel_rfl) (by kernel_rfl) (fun _ _ _ h => h) rfl (by rfl) ?ytab9 hS ?rtab9
      case ytab9 => (intro wz hz; go_simp <;> with_reducible rfl)
      simp only [List.setIfInBounds_toArray, List.set_cons_zero, List.set_cons_succ]
      refine wpAnyH_ready (rs := [10]) (by kernel_rfl) (by simp) ?_
      refine AllReadyH.cons rfl (fun K0 hK => ?_) AllReadyH.nil
      rw [if_pos (by rfl)]
      refine wp_store_box (.tmp 13) (.tmp 73) rfl rfl b9 rfl R3 rfl R (WD.out.row9 MO.out) WD.out.both.size BO.out.size BO.out.one ?_
      intro w3 h9 hm9
      have WE := Lib.hid (WD.out.did BO.out MO.out h9 hm9)
      clear h9 hm9
      refine hK.out _ _ (WE.out.below) (fun hT => ?_)
      clear hK hS
      have hS := hT
      clear hT
      refine takeH (i := 11) (d := 15) (v := ?vtac11) rfl (by kernel_rfl) (by kernel_rfl) (by kernel_rfl) (fun _ _ _ h => h) rfl (by rfl) ?ytac11 hS ?rtac11
      case ytac11 => (intro wz hz; go_simp <;> with_reducible rfl)
      simp only [List.setIfInBounds_toArray, List.set_cons_zero, List.set_cons_succ]
      refine wpAnyH_done (by kernel_rfl) ?_ _
      clear hS
      have HMK1 : Hid (m + 1 = ((k + 1 : Nat) : Int)) := (by have := HMK.out; omega : m + 1 = ((k + 1 : Nat) : Int))
      rw [HMK1.out] at WE
      go_wp2_with fail
      exact ⟨⟨k + 1, R3, rfl, by go_num, by omega, WE⟩, by simp [intOf]; omega⟩
    · obtain ⟨S, nw, fu, kp, dn, A, c, fu2, K, kl, kc, hR, hbo⟩ := WD.out.both
      have HRS : Hid (R.size = 5) := WD.out.both.size
      have HRR := Lib.hid hR
      have hlen := hbo.len
      have hn0 := hbo.nw0
      have hn1 := hbo.nw1
      have hn2 : nw ≤ 1000000 := by omega
      have TQ0 : Hid (TP w wr g gs b9 R S nw fu kp dn) := ⟨WD.out.below, WD.out.low, WD.out.lt, WD.out.n9, hbo.plat, WD.out.box9⟩
      have RQ0 := Lib.hid hbo.ref
      have HF2 := Lib.hid hbo.f2
      have UP := Lib.hid (up_any (XX g gs b9 b9) g gs S nw fu kp dn wr hbo.plat (by omega) WD.out.lt)
      have HLEN := Lib.hid hlen
      have hS1 : S.length ≤ 100000 := by omega
      clear hR hbo WD hlen
      go_wp2_with fail
      refine UP.out.mono ?_
      rintro e w3 ⟨rfl, hp3, hm3⟩
      have TQ1 := Lib.hid (TQ0.out.turn hp3 hm3)
      have RQ1 := Lib.hid (RQ0.out.kept (hm3.mono (fun k _ h => own_xx g gs b9 b9 k h)))
      clear hp3 hm3 UP TQ0 RQ0
      go_wp2_with fail
      refine (image_any (XX g gs b9 b9) g gs S nw (-1) [] false w3 TQ1.out.plat hS1).mono ?_
      rintro e w4 ⟨Aw, cw, rfl, ho4, hb4⟩
      have TQ2 := Lib.hid (TQ1.out.under hb4)
      have RQ2 := Lib.hid (RQ1.out.below hb4)
      have WQ2 := Lib.hid (Lz.of_own (X := XX g gs b9 b9) ho4 TQ1.out.lt)
      clear ho4 hb4 TQ1 RQ1
      go_wp2_with fail
      refine (fuse_any (XX g gs b9 b9) g gs S nw (-1) [] false w4 0 E el.length e2 el TQ2.out.plat ((HE.out.mono (fun k hk hx => by have := TQ2.out.low k (own_xx g gs b9 b9 k hx); omega)).below TQ2.out.below) hE1 HE2.out hS1 TQ2.out.lt).mono ?_
      rintro e w5 ⟨rfl, hp5, hm5⟩
      have TQ3 := Lib.hid (TQ2.out.turn hp5 hm5)
      have RQ3 := Lib.hid (RQ2.out.kept (hm5.mono (fun k _ h => own_xx g gs b9 b9 k h)))
      have WQ3 := Lib.hid (WQ2.out.turn hm5)
      clear hp5 hm5 TQ2 RQ2 WQ2
      go_wp2_with fail
      refine (sectors_any (fun _ => False) _ _ _ l _ (HB.out.below TQ3.out.below) (by omega)).mono ?_
      rintro e w6 ⟨AL, cL, rfl, ho6, hb6⟩
      have TQ4 := Lib.hid (TQ3.out.under hb6)
      have RQ4 := Lib.hid (RQ3.out.below hb6)
      have WQ4 := Lib.hid (WQ3.out.below hb6)
      have LQ4 := Lib.hid (Lz.of_own (X := own g gs) ho6 (fun k hk => TQ3.out.lt k (own_xx g gs b9 b9 k hk)))
      clear ho6 hb6 TQ3 RQ3 WQ3
      by_cases hi : Inside S.length at_ l.length
      · obtain ⟨i1, i2, i3, i4⟩ := hi
        obtain ⟨p, rfl⟩ := Int.eq_ofNat_of_zero_le i1
        obtain ⟨T, hT⟩ : ∃ T, T = upd S p l (fun j => (el.take S.length).getD j false) := ⟨_, rfl⟩
        have WR0 := write_torn (XX g gs b9 b9) g gs S nw (el.take S.length) w6 p l.length cL l AL TQ4.out.plat hS1 rfl (by omega) (by omega) LQ4.out (by rw [List.length_take]; omega) TQ4.out.lt
        rw [← hT] at WR0
        have WRT := Lib.hid WR0
        have HTL := Lib.hid (show T.length = S.length by rw [hT, upd_length])
        have HT := Lib.hid hT
        have hpi : p + l.length ≤ S.length := by omega
        clear hT WR0 i1 i2 i3 i4
        go_wp2_with fail
        refine WRT.out.mono ?_
        rintro e w7 ⟨rfl, hp7, hm7⟩
        have TQ5 := Lib.hid (TQ4.out.turn hp7 hm7)
        have RQ5 := Lib.hid (RQ4.out.kept (hm7.mono (fun k _ h => own_xx g gs b9 b9 k h)))
        have WQ5 := Lib.hid (WQ4.out.turn hm7)
        clear hp7 hm7 TQ4 RQ4 WQ4 LQ4 WRT
        go_wp2_with fail
        refine (image_any (XX g gs b9 b9) g gs T nw (-1) [] true w7 TQ5.out.plat (by rw [HTL.out]; exact hS1)).mono ?_
        rintro e w8 ⟨An, cn, rfl, ho8, hb8⟩
        have TQ6 := Lib.hid (TQ5.out.under hb8)
        have RQ6 := Lib.hid (RQ5.out.below hb8)
        have WQ6 := Lib.hid (WQ5.out.below hb8)
        have NQ6 := Lib.hid (Lz.of_own (X := XX g gs b9 b9) ho8 TQ5.out.lt)
        rw [HTL.out] at NQ6 ⊢
        clear ho8 hb8 TQ5 RQ5 WQ5
        go_wp2_with fail
        go_loopw [20] (fun i wx => ∃ k : Nat, i = .int .i64 k ∧ k ≤ S.length ∧ Hid (Below w8.heap.size w8 wx)) (fun i _ => S.length - (intOf i).toNat)
        case atStart => exact ⟨0, rfl, Nat.zero_le _, Lib.hid (Below.refl _ _)⟩
        case round =>
          clear hlt hk HMK hmb
          obtain ⟨k, rfl, hk2, LB⟩ := hrel
          by_cases hlt2 : k < S.length
          · have hkT : k < T.length := by rw [HTL.out]; exact hlt2
            obtain ⟨bW, oW, rfl, _, hbW, hrW⟩ := (WQ6.out.below LB.out).spot (by omega)
            obtain ⟨bN, oN, rfl, _, hbN, hrN⟩ := (NQ6.out.below LB.out).spot (by omega)
            have RW1 := Lib.hid (flat_range hrW hlt2)
            have RN1 := flat_range hrN hkT
            have TV := upd_at HT.out hlt2 hkT
            have hzero := (zero_of_info arr_info).1
            have hSD : S.getD k 0 = S[k] := by simp [List.getD, hlt2]
            rw [hSD] at TV
            generalize hx : S[k] = x at *
            clear hx hSD hrW hrN
            by_cases hpk : p ≤ k
            · obtain ⟨q, hq⟩ : ∃ q, q = k - p := ⟨_, rfl⟩
              have hsub : (k : Int) - (p : Int) = (q : Int) := by omega
              rw [← hq] at TV
              by_cases hql : q < l.length
              · by_cases hqe : q < el.length
                · have hgd : (el.take S.length).getD q false = el[q] := by
                    rw [getD_take _ _ _ (by omega)]
                    simp [List.getD, hqe]
                  rw [hgd] at TV
                  obtain ⟨bE, oE, u, rfl, _, hbE, hu, hcE⟩ := HE.out.get hqe
                  rw [BL_get el q hqe] at hu
                  injection hu with hu
                  subst hu
                  have KC : Hid (∀ z, Below w.heap.size w z → z.cell? ⟨bE, oE + q, none⟩ = some (.bool el[q])) := fun z hz => (hz.cell (p := ⟨bE, oE + q, none⟩) hbE).trans hcE
                  cases hv : el[q] with
                  | true =>
                    rw [if_pos ⟨hpk, hql, hv⟩] at TV
                    obtain ⟨bB, oB, u, rfl, _, hbB, hu, hcB⟩ := HB.out.get hql
                    rw [IL_get l q hql] at hu
                    injection hu with hu
                    subst hu
                    have hld : l.getD q 0 = l[q] := by simp [List.getD, hql]
                    rw [hld] at TV
                    rw [TV] at RN1
                    rw [hv] at KC
                    have BC : Hid (∀ z, Below w.heap.size w z → z.cell? ⟨bB, oB + q, none⟩ = some (.int .u8 l[q])) := fun z hz => (hz.cell (p := ⟨bB, oB + q, none⟩) hbB).trans hcB
                    generalize l[q] = y at *
                    have NR0 := Lib.hid RN1
                    clear RN1 TV hld hgd hv hcE hcB hq
                    go_wp2_with (first
                      | refine wpList_load_sec 120 (.tmp 119) rfl rfl rfl bW (oW + k * 64) rfl x RW1.out ?_
                      | (refine wpList_store_sec (.tmp 21) (.tmp 120) rfl rfl rfl wr.heap.size 0 rfl x rfl (want_th wr) ?_; intro w9 hW; obtain ⟨r9, bb9, t9⟩ := want_new hW; have WR := Lib.hid r9; have WB := Lib.hid bb9; have WT := Lib.hid t9; have NR := Lib.hid (rangeAt_block NR0.out (bb9.block bN hbN)); have ck := KC.out w9 ((TQ6.out.below.trans (LB.out.mono TQ6.out.below.size)).trans (bb9.mono (by have := TQ6.out.below.size; have := LB.out.size; omega))); have cb := BC.out w9 ((TQ6.out.below.trans (LB.out.mono TQ6.out.below.size)).trans (bb9.mono (by have := TQ6.out.below.size; have := LB.out.size; omega))); clear r9 bb9 t9 hW)
                      | (go_at_call 19; refine (filled_any _ _).mono ?_; rintro e w10 ⟨rfl, hb10⟩; have B10 := Lib.hid hb10; clear hb10 ck cb)
                      | (refine wpList_store_sec (.tmp 21) (.tmp 154) rfl rfl rfl wr.heap.size 0 rfl y rfl (want_keep WT.out B10.out (want_lt WT.out)) ?_; intro w11 hW; obtain ⟨r11, bb11⟩ := want_again WB.out WT.out B10.out (want_lt WT.out) hW; clear WR WB NR; have WR := Lib.hid r11; have WB := Lib.hid bb11; have NR := Lib.hid (rangeAt_block NR0.out (bb11.block bN hbN)); clear r11 bb11 hW WT B10))
                    refine wp_region_held_drew (S := fun z => ∃ m2, z = w11.drewN m2) (by kernel_rfl) ⟨1, rfl⟩ (fun hS => ?_)
                    refine takeH (i := 0) (d := 155) (v := ?vte0) rfl (by kernel_rfl) (by kernel_rfl) (by kernel_rfl) (fun _ _ _ h => h) rfl (by rfl) ?yte0 hS ?rte0
                    case yte0 => (intro wz hz; go_simp <;> with_reducible rfl)
                    simp only [List.setIfInBounds_toArray, List.set_cons_zero, List.set_cons_succ]
                    refine takeH (i := 1) (d := 156) (v := ?vte1) rfl (by kernel_rfl) (by kernel_rfl) (by kernel_rfl) (fun _ _ _ h => h) rfl (by rfl) ?yte1 hS ?rte1
                    case yte1 => (intro wz hz; go_simp <;> with_reducible rfl)
                    simp only [List.setIfInBounds_toArray, List.set_cons_zero, List.set_cons_succ]
                    refine takeH (i := 2) (d := 157) (v := ?vte2) rfl (by kernel_rfl) (by kernel_rfl) (by kernel_rfl) (fun _ _ _ h => h) rfl (by rfl) ?yte2 hS ?rte2
                    case yte2 => (intro wz hz; go_simp <;> with_reducible rfl)
                    simp only [List.setIfInBounds_toArray, List.set_cons_zero, List.set_cons_succ]
                    refine takeH (i := 3) (d := 158) (v := .agg (secA y)) rfl (by kernel_rfl) (by kernel_rfl) (by kernel_rfl) (fun _ _ _ h => h) rfl (by rfl) ?yte3 hS ?rte3
                    case yte3 => (intro wz hz; obtain ⟨m2, rfl⟩ := hz; exact exec_load 48 (.tmp 157) rfl bN (oN + k * 64) rfl (sec y) _ NR.out Try.underlying48 rfl (by rw [sec_length]; exact arr_size))
                    simp only [List.setIfInBounds_toArray, List.set_cons_zero, List.set_cons_succ]
                    refine takeH (i := 4) (d := 159) (v := .agg (secA y)) rfl (by kernel_rfl) (by kernel_rfl) (by kernel_rfl) (fun _ _ _ h => h) rfl (by rfl) ?yte4 hS ?rte4
                    case yte4 => (intro wz hz; obtain ⟨m2, rfl⟩ := hz; exact exec_load 48 (.tmp 21) rfl wr.heap.size 0 rfl (sec y) _ WR.out Try.underlying48 rfl (by rw [sec_length]; exact arr_size))
                    simp only [List.setIfInBounds_toArray, List.set_cons_zero, List.set_cons_succ]
                    refine takeH (i := 5) (d := 160) (v := .bool false) rfl (by kernel_rfl) (by kernel_rfl) (by kernel_rfl) (fun _ _ _ h => h) rfl (by rfl) ?yte5 hS ?rte5
                    case yte5 => (intro wz hz; exact exec_neq_same (.tmp 158) (.tmp 159) rfl y _ rfl rfl)
                    simp only [List.setIfInBounds_toArray, List.set_cons_zero, List.set_cons_succ]
                    refine wpAnyH_done (by kernel_rfl) ?_ _
                    clear hS
                    go_wp2_with fail
                    exact ⟨⟨k + 1, by go_num, by omega, Lib.hid (LB.out.trans (WB.out.mono LB.out.size)).drew⟩, by simp [intOf]; omega⟩
                  | false =>
                    rw [if_neg (fun h => by rw [hv] at h; exact absurd h.2.2 (by decide))] at TV
                    rw [TV] at RN1
                    rw [hv] at KC
                    have NR0 := Lib.hid RN1
                    clear RN1 TV hgd hv hcE hq
                    go_wp2_with (first
                      | refine wpList_load_sec 120 (.tmp 119) rfl rfl rfl bW (oW + k * 64) rfl x RW1.out ?_
                      | (refine wpList_store_sec (.tmp 21) (.tmp 120) rfl rfl rfl wr.heap.size 0 rfl x rfl (want_th wr) ?_; intro w9 hW; obtain ⟨r9, bb9, t9⟩ := want_new hW; have WR := Lib.hid r9; have WB := Lib.hid bb9; have WT := Lib.hid t9; have NR := Lib.hid (rangeAt_block NR0.out (bb9.block bN hbN)); have ck := KC.out w9 ((TQ6.out.below.trans (LB.out.mono TQ6.out.below.size)).trans (bb9.mono (by have := TQ6.out.below.size; have := LB.out.size; omega))); clear r9 bb9 t9 hW))
                    refine wp_region_held_drew (S := fun z => ∃ m2, z = w9.drewN m2) (by kernel_rfl) ⟨1, rfl⟩ (fun hS => ?_)
                    refine takeH (i := 0) (d := 155) (v := ?vtd0) rfl (by kernel_rfl) (by kernel_rfl) (by kernel_rfl) (fun _ _ _ h => h) rfl (by rfl) ?ytd0 hS ?rtd0
                    case ytd0 => (intro wz hz; go_simp <;> with_reducible rfl)
                    simp only [List.setIfInBounds_toArray, List.set_cons_zero, List.set_cons_succ]
                    refine takeH (i := 1) (d := 156) (v := ?vtd1) rfl (by kernel_rfl) (by kernel_rfl) (by kernel_rfl) (fun _ _ _ h => h) rfl (by rfl) ?ytd1 hS ?rtd1
                    case ytd1 => (intro wz hz; go_simp <;> with_reducible rfl)
                    simp only [List.setIfInBounds_toArray, List.set_cons_zero, List.set_cons_succ]
                    refine takeH (i := 2) (d := 157) (v := ?vtd2) rfl (by kernel_rfl) (by kernel_rfl) (by kernel_rfl) (fun _ _ _ h => h) rfl (by rfl) ?ytd2 hS ?rtd2
                    case ytd2 => (intro wz hz; go_simp <;> with_reducible rfl)
                    simp only [List.setIfInBounds_toArray, List.set_cons_zero, List.set_cons_succ]
                    refine takeH (i := 3) (d := 158) (v := .agg (secA x)) rfl (by kernel_rfl) (by kernel_rfl) (by kernel_rfl) (fun _ _ _ h => h) rfl (by rfl) ?ytd3 hS ?rtd3
                    case ytd3 => (intro wz hz; obtain ⟨m2, rfl⟩ := hz; exact exec_load 48 (.tmp 157) rfl bN (oN + k * 64) rfl (sec x) _ NR.out Try.underlying48 rfl (by rw [sec_length]; exact arr_size))
                    simp only [List.setIfInBounds_toArray, List.set_cons_zero, List.set_cons_succ]
                    refine takeH (i := 4) (d := 159) (v := .agg (secA x)) rfl (by kernel_rfl) (by kernel_rfl) (by kernel_rfl) (fun _ _ _ h => h) rfl (by rfl) ?ytd4 hS ?rtd4
                    case ytd4 => (intro wz hz; obtain ⟨m2, rfl⟩ := hz; exact exec_load 48 (.tmp 21) rfl wr.heap.size 0 rfl (sec x) _ WR.out Try.underlying48 rfl (by rw [sec_length]; exact arr_size))
                    simp only [List.setIfInBounds_toArray, List.set_cons_zero, List.set_cons_succ]
                    refine takeH (i := 5) (d := 160) (v := .bool false) rfl (by kernel_rfl) (by kernel_rfl) (by kernel_rfl) (fun _ _ _ h => h) rfl (by rfl) ?ytd5 hS ?rtd5
                    case ytd5 => (intro wz hz; exact exec_neq_same (.tmp 158) (.tmp 159) rfl x _ rfl rfl)
                    simp only [List.setIfInBounds_toArray, List.set_cons_zero, List.set_cons_succ]
                    refine wpAnyH_done (by kernel_rfl) ?_ _
                    clear hS
                    go_wp2_with fail
                    exact ⟨⟨k + 1, by go_num, by omega, Lib.hid (LB.out.trans (WB.out.mono LB.out.size)).drew⟩, by simp [intOf]; omega⟩
                · have hgd : (el.take S.length).getD q false = false := by
                    rw [getD_take _ _ _ (by omega), List.getD_eq_getElem?_getD, List.getElem?_eq_none (by omega)]
                    rfl
                  rw [if_neg (fun h => by rw [hgd] at h; exact absurd h.2.2 (by decide))] at TV
                  rw [TV] at RN1
                  have NR0 := Lib.hid RN1
                  have dq : decide ((q : Int) < (el.length : Int)) = false := by simp; omega
                  have dq2 : decide (q < el.length) = false := by simp; omega
                  clear RN1 TV hgd hq
                  go_wp2_with (first
                    | refine wpList_load_sec 120 (.tmp 119) rfl rfl rfl bW (oW + k * 64) rfl x RW1.out ?_
                    | (refine wpList_store_sec (.tmp 21) (.tmp 120) rfl rfl rfl wr.heap.size 0 rfl x rfl (want_th wr) ?_; intro w9 hW; obtain ⟨r9, bb9, t9⟩ := want_new hW; have WR := Lib.hid r9; have WB := Lib.hid bb9; have WT := Lib.hid t9; have NR := Lib.hid (rangeAt_block NR0.out (bb9.block bN hbN)); clear r9 bb9 t9 hW))
                  refine wp_region_held_drew (S := fun z => ∃ m2, z = w9.drewN m2) (by kernel_rfl) ⟨1, rfl⟩ (fun hS => ?_)
                  refine takeH (i := 0) (d := 155) (v := ?vtc0) rfl (by kernel_rfl) (by kernel_rfl) (by kernel_rfl) (fun _ _ _ h => h) rfl (by rfl) ?ytc0 hS ?rtc0
                  case ytc0 => (intro wz hz; go_simp <;> with_reducible rfl)
                  simp only [List.setIfInBounds_toArray, List.set_cons_zero, List.set_cons_succ]
                  refine takeH (i := 1) (d := 156) (v := ?vtc1) rfl (by kernel_rfl) (by kernel_rfl) (by kernel_rfl) (fun _ _ _ h => h) rfl (by rfl) ?ytc1 hS ?rtc1
                  case ytc1 => (intro wz hz; go_simp <;> with_reducible rfl)
                  simp only [List.setIfInBounds_toArray, List.set_cons_zero, List.set_cons_succ]
                  refine takeH (i := 2) (d := 157) (v := ?vtc2) rfl (by kernel_rfl) (by kernel_rfl) (by kernel_rfl) (fun _ _ _ h => h) rfl (by rfl) ?ytc2 hS ?rtc2
                  case ytc2 => (intro wz hz; go_simp <;> with_reducible rfl)
                  simp only [List.setIfInBounds_toArray, List.set_cons_zero, List.set_cons_succ]
                  refine takeH (i := 3) (d := 158) (v := .agg (secA x)) rfl (by kernel_rfl) (by kernel_rfl) (by kernel_rfl) (fun _ _ _ h => h) rfl (by rfl) ?ytc3 hS ?rtc3
                  case ytc3 => (intro wz hz; obtain ⟨m2, rfl⟩ := hz; exact exec_load 48 (.tmp 157) rfl bN (oN + k * 64) rfl (sec x) _ NR.out Try.underlying48 rfl (by rw [sec_length]; exact arr_size))
                  simp only [List.setIfInBounds_toArray, List.set_cons_zero, List.set_cons_succ]
                  refine takeH (i := 4) (d := 159) (v := .agg (secA x)) rfl (by kernel_rfl) (by kernel_rfl) (by kernel_rfl) (fun _ _ _ h => h) rfl (by rfl) ?ytc4 hS ?rtc4
                  case ytc4 => (intro wz hz; obtain ⟨m2, rfl⟩ := hz; exact exec_load 48 (.tmp 21) rfl wr.heap.size 0 rfl (sec x) _ WR.out Try.underlying48 rfl (by rw [sec_length]; exact arr_size))
                  simp only [List.setIfInBounds_toArray, List.set_cons_zero, List.set_cons_succ]
                  refine takeH (i := 5) (d := 160) (v := .bool false) rfl (by kernel_rfl) (by kernel_rfl) (by kernel_rfl) (fun _ _ _ h => h) rfl (by rfl) ?ytc5 hS ?rtc5
                  case ytc5 => (intro wz hz; exact exec_neq_same (.tmp 158) (.tmp 159) rfl x _ rfl rfl)
                  simp only [List.setIfInBounds_toArray, List.set_cons_zero, List.set_cons_succ]
                  refine wpAnyH_done (by kernel_rfl) ?_ _
                  clear hS
                  go_wp2_with fail
                  exact ⟨⟨k + 1, by go_num, by omega, Lib.hid (LB.out.trans (WB.out.mono LB.out.size)).drew⟩, by simp [intOf]; omega⟩
              · rw [if_neg (fun h => hql h.2.1)] at TV
                rw [TV] at RN1
                have NR0 := Lib.hid RN1
                have dq : decide ((q : Int) < (l.length : Int)) = false := by simp; omega
                have dq2 : decide (q < l.length) = false := by simp; omega
                clear RN1 TV hq
                go_wp2_with (first
                  | refine wpList_load_sec 120 (.tmp 119) rfl rfl rfl bW (oW + k * 64) rfl x RW1.out ?_
                  | (refine wpList_store_sec (.tmp 21) (.tmp 120) rfl rfl rfl wr.heap.size 0 rfl x rfl (want_th wr) ?_; intro w9 hW; obtain ⟨r9, bb9, t9⟩ := want_new hW; have WR := Lib.hid r9; have WB := Lib.hid bb9; have WT := Lib.hid t9; have NR := Lib.hid (rangeAt_block NR0.out (bb9.block bN hbN)); clear r9 bb9 t9 hW))
                refine wp_region_held_drew (S := fun z => ∃ m2, z = w9.drewN m2) (by kernel_rfl) ⟨1, rfl⟩ (fun hS => ?_)
                refine takeH (i := 0) (d := 155) (v := ?vtb0) rfl (by kernel_rfl) (by kernel_rfl) (by kernel_rfl) (fun _ _ _ h => h) rfl (by rfl) ?ytb0 hS ?rtb0
                case ytb0 => (intro wz hz; go_simp <;> with_reducible rfl)
                simp only [List.setIfInBounds_toArray, List.set_cons_zero, List.set_cons_succ]
                refine takeH (i := 1) (d := 156) (v := ?vtb1) rfl (by kernel_rfl) (by kernel_rfl) (by kernel_rfl) (fun _ _ _ h => h) rfl (by rfl) ?ytb1 hS ?rtb1
                case ytb1 => (intro wz hz; go_simp <;> with_reducible rfl)
                simp only [List.setIfInBounds_toArray, List.set_cons_zero, List.set_cons_succ]
                refine takeH (i := 2) (d := 157) (v := ?vtb2) rfl (by kernel_rfl) (by kernel_rfl) (by kernel_rfl) (fun _ _ _ h => h) rfl (by rfl) ?ytb2 hS ?rtb2
                case ytb2 => (intro wz hz; go_simp <;> with_reducible rfl)
                simp only [List.setIfInBounds_toArray, List.set_cons_zero, List.set_cons_succ]
                refine takeH (i := 3) (d := 158) (v := .agg (secA x)) rfl (by kernel_rfl) (by kernel_rfl) (by kernel_rfl) (fun _ _ _ h => h) rfl (by rfl) ?ytb3 hS ?rtb3
                case ytb3 => (intro wz hz; obtain ⟨m2, rfl⟩ := hz; exact exec_load 48 (.tmp 157) rfl bN (oN + k * 64) rfl (sec x) _ NR.out Try.underlying48 rfl (by rw [sec_length]; exact arr_size))
                simp only [List.setIfInBounds_toArray, List.set_cons_zero, List.set_cons_succ]
                refine takeH (i := 4) (d := 159) (v := .agg (secA x)) rfl (by kernel_rfl) (by kernel_rfl) (by kernel_rfl) (fun _ _ _ h => h) rfl (by rfl) ?ytb4 hS ?rtb4
                case ytb4 => (intro wz hz; obtain ⟨m2, rfl⟩ := hz; exact exec_load 48 (.tmp 21) rfl wr.heap.size 0 rfl (sec x) _ WR.out Try.underlying48 rfl (by rw [sec_length]; exact arr_size))
                simp only [List.setIfInBounds_toArray, List.set_cons_zero, List.set_cons_succ]
                refine takeH (i := 5) (d := 160) (v := .bool false) rfl (by kernel_rfl) (by kernel_rfl) (by kernel_rfl) (fun _ _ _ h => h) rfl (by rfl) ?ytb5 hS ?rtb5
                case ytb5 => (intro wz hz; exact exec_neq_same (.tmp 158) (.tmp 159) rfl x _ rfl rfl)
                simp only [List.setIfInBounds_toArray, List.set_cons_zero, List.set_cons_succ]
                refine wpAnyH_done (by kernel_rfl) ?_ _
                clear hS
                go_wp2_with fail
                exact ⟨⟨k + 1, by go_num, by omega, Lib.hid (LB.out.trans (WB.out.mono LB.out.size)).drew⟩, by simp [intOf]; omega⟩
            · rw [if_neg (fun h => hpk h.1)] at TV
              rw [TV] at RN1
              have NR0 := Lib.hid RN1
              clear RN1 TV
              go_wp2_with (first
                | refine wpList_load_sec 120 (.tmp 119) rfl rfl rfl bW (oW + k * 64) rfl x RW1.out ?_
                | (refine wpList_store_sec (.tmp 21) (.tmp 120) rfl rfl rfl wr.heap.size 0 rfl x rfl (want_th wr) ?_; intro w9 hW; obtain ⟨r9, bb9, t9⟩ := want_new hW; have WR := Lib.hid r9; have WB := Lib.hid bb9; have WT := Lib.hid t9; have NR := Lib.hid (rangeAt_block NR0.out (bb9.block bN hbN)); clear r9 bb9 t9 hW))
              refine wp_region_held_drew (S := fun z => ∃ m2, z = w9.drewN m2) (by kernel_rfl) ⟨1, rfl⟩ (fun hS => ?_)
              refine takeH (i := 0) (d := 155) (v := ?vtz0) rfl (by kernel_rfl) (by kernel_rfl) (by kernel_rfl) (fun _ _ _ h => h) rfl (by rfl) ?ytz0 hS ?rtz0
              case ytz0 => (intro wz hz; go_simp <;> with_reducible rfl)
              simp only [List.setIfInBounds_toArray, List.set_cons_zero, List.set_cons_succ]
              refine takeH (i := 1) (d := 156) (v := ?vtz1) rfl (by kernel_rfl) (by kernel_rfl) (by kernel_rfl) (fun _ _ _ h => h) rfl (by rfl) ?ytz1 hS ?rtz1
              case ytz1 => (intro wz hz; go_simp <;> with_reducible rfl)
              simp only [List.setIfInBounds_toArray, List.set_cons_zero, List.set_cons_succ]
              refine takeH (i := 2) (d := 157) (v := ?vtz2) rfl (by kernel_rfl) (by kernel_rfl) (by kernel_rfl) (fun _ _ _ h => h) rfl (by rfl) ?ytz2 hS ?rtz2
              case ytz2 => (intro wz hz; go_simp <;> with_reducible rfl)
              simp only [List.setIfInBounds_toArray, List.set_cons_zero, List.set_cons_succ]
              refine takeH (i := 3) (d := 158) (v := .agg (secA x)) rfl (by kernel_rfl) (by kernel_rfl) (by kernel_rfl) (fun _ _ _ h => h) rfl (by rfl) ?ytz3 hS ?rtz3
              case ytz3 => (intro wz hz; obtain ⟨m2, rfl⟩ := hz; exact exec_load 48 (.tmp 157) rfl bN (oN + k * 64) rfl (sec x) _ NR.out Try.underlying48 rfl (by rw [sec_length]; exact arr_size))
              simp only [List.setIfInBounds_toArray, List.set_cons_zero, List.set_cons_succ]
              refine takeH (i := 4) (d := 159) (v := .agg (secA x)) rfl (by kernel_rfl) (by kernel_rfl) (by kernel_rfl) (fun _ _ _ h => h) rfl (by rfl) ?ytz4 hS ?rtz4
              case ytz4 => (intro wz hz; obtain ⟨m2, rfl⟩ := hz; exact exec_load 48 (.tmp 21) rfl wr.heap.size 0 rfl (sec x) _ WR.out Try.underlying48 rfl (by rw [sec_length]; exact arr_size))
              simp only [List.setIfInBounds_toArray, List.set_cons_zero, List.set_cons_succ]
              refine takeH (i := 5) (d := 160) (v := .bool false) rfl (by kernel_rfl) (by kernel_rfl) (by kernel_rfl) (fun _ _ _ h => h) rfl (by rfl) ?ytz5 hS ?rtz5
              case ytz5 => (intro wz hz; exact exec_neq_same (.tmp 158) (.tmp 159) rfl x _ rfl rfl)
              simp only [List.setIfInBounds_toArray, List.set_cons_zero, List.set_cons_succ]
              refine wpAnyH_done (by kernel_rfl) ?_ _
              clear hS
              go_wp2_with fail
              exact ⟨⟨k + 1, by go_num, by omega, Lib.hid (LB.out.trans (WB.out.mono LB.out.size)).drew⟩, by simp [intOf]; omega⟩
          · have TQ7 := Lib.hid (TQ6.out.under LB.out)
            have RQ7 := Lib.hid (RQ6.out.below LB.out)
            have NQ7 := Lib.hid (NQ6.out.below LB.out)
            clear TQ6 RQ6 WQ6 NQ6 LB
            go_wp2_with fail
            go_loopw [22] (fun i wx => TearsR3 w g gs b9 hs.length R T nw A c K kc S kl An S.length i wx) (fun i _ => hs.length - (intOf i).toNat)
            case atStart => exact ⟨0, -1, [], rfl, Nat.zero_le _, by simp, TQ7, RQ7, NQ7⟩
            case round =>
              clear TQ7 RQ7 NQ7 hlt2 hk2
              obtain ⟨k, fu, kp, rfl, hk3, hk1, TQ, RQ, NQ⟩ := hrel
              by_cases hlt3 : k < hs.length
              · obtain ⟨b, off, rfl, hbB, fa, fo⟩ := HH.out.at_ k hlt3
                obtain ⟨hl40, hl60⟩ := (lightB_iff.1 HL4.out).2 hs[k] (List.getElem_mem hlt3)
                have FA := Lib.hid fa
                have FO := Lib.hid fo
                clear fa fo
                generalize hs[k] = f at *
                have ck0 := (FA.out.under TQ.out.below hbB).c0
                by_cases h4 : f.kd = 4
                · have q4 : (f.kd != 4) = false := by rw [h4]; decide
                  have q5 : (f.kd == 4) = true := by rw [h4]; decide
                  clear h4
                  go_wp2_with fail
                  exact ⟨⟨k + 1, fu, kp, by go_num, by omega, hk1, TQ, RQ, NQ⟩, by simp [intOf]; omega⟩
                · have q4 : (f.kd != 4) = true := by rw [bne_iff_ne]; exact h4
                  have q5 : (f.kd == 4) = false := by rw [beq_eq_false_iff_ne]; exact h4
                  have H4 := Lib.hid h4
                  clear h4
                  go_wp2_with fail
                  clear q4 q5 ck0
                  refine wp_region_held_drew (S := SJ w b9 R) (by kernel_rfl) ⟨TQ.out.below.drew, TQ.out.box9⟩ (fun hS => ?_)
                  refine takeH (i := 0) (d := 173) (v := ?vtj0) rfl (by kernel_rfl) (by kernel_rfl) (by kernel_rfl) (fun _ _ _ h => h) rfl (by rfl) ?ytj0 hS ?rtj0
                  case ytj0 => (intro wz hz; go_simp <;> with_reducible rfl)
                  simp only [List.setIfInBounds_toArray, List.set_cons_zero, List.set_cons_succ]
                  refine takeH (i := 1) (d := 174) (v := .agg R) rfl (by kernel_rfl) (by kernel_rfl) (by kernel_rfl) (fun _ _ _ h => h) rfl (by rfl) ?ytj1 hS ?rtj1
                  case ytj1 => (intro wz hz; exact exec_box (.tmp 13) rfl b9 rfl R hz.box HRS.out)
                  simp only [List.setIfInBounds_toArray, List.set_cons_zero, List.set_cons_succ]
                  refine takeH (i := 2) (d := 175) (v := ?vtj2) rfl (by kernel_rfl) (by kernel_rfl) (by kernel_rfl) (fun _ _ _ h => h) rfl (by rfl) ?ytj2 hS ?rtj2
                  case ytj2 => (intro wz hz; go_simp <;> with_reducible rfl)
                  simp only [List.setIfInBounds_toArray, List.set_cons_zero, List.set_cons_succ]
                  refine takeH (i := 3) (d := 176) (v := ?vtj3) rfl (by kernel_rfl) (by kernel_rfl) (by kernel_rfl) (fun _ _ _ h => h) rfl (by rfl) ?ytj3 hS ?rtj3
                  case ytj3 => (intro wz hz; go_simp <;> with_reducible rfl)
                  simp only [List.setIfInBounds_toArray, List.set_cons_zero, List.set_cons_succ]
                  refine takeH (i := 4) (d := 177) (v := ?vtj4) rfl (by kernel_rfl) (by kernel_rfl) (by kernel_rfl) (fun _ _ _ h => h) rfl (by rfl) ?ytj4 hS ?rtj4
                  case ytj4 => (intro wz hz; go_simp <;> with_reducible rfl)
                  simp only [List.setIfInBounds_toArray, List.set_cons_zero, List.set_cons_succ]
                  refine takeH (i := 5) (d := 178) (v := .agg #[.int .i64 f.kd, .int .i64 f.p, .int .i64 f.N, .slice f.B f.l.length f.cB, .slice f.E f.el.length f.e2]) rfl (by kernel_rfl) (by kernel_rfl) (by kernel_rfl) (fun _ _ _ h => h) rfl (by rfl) ?ytj5 hS ?rtj5
                  case ytj5 => (intro wz hz; exact exec_op (.tmp 177) rfl b off k rfl f (FA.out.under hz.below hbB))
                  simp only [List.setIfInBounds_toArray, List.set_cons_zero, List.set_cons_succ]
                  refine wpAnyH_ready (rs := [6]) (by kernel_rfl) (by simp) ?_
                  refine AllReadyH.cons rfl (fun K0 hK => ?_) AllReadyH.nil
                  go_simp
                  refine (do_down_tp TQ.out.drew (RQ.out.kept (Mod.refl _ _).drew) (FO.out.act hS.below TQ.out.low (by omega) (by omega)) HRR.out H4.out (by rw [HTL.out]; exact hS1) hS1 hn0 (by omega) HF2.out hk1).mono ?_
                  rintro e w2 ⟨R3, bb, fu3, kp3, rfl, hp3, hk3, hm3⟩
                  have TR := Lib.hid (TQ.out.drew.turn hp3 hm3)
                  have RR3 := Lib.hid ((RQ.out.kept (Mod.refl _ _).drew).kept (hm3.mono (fun k _ h => own_xx g gs b9 b9 k h)))
                  have NN3 := Lib.hid ((NQ.out.kept (Mod.refl _ _).drew).kept (hm3.mono (fun k _ h => own_xx g gs b9 b9 k h)))
                  clear hp3 hm3
                  refine hK.out _ _ (⟨TR.out.below, TR.out.box9⟩) (fun hT => ?_)
                  clear hK hS
                  have hS := hT
                  clear hT
                  refine wpAnyH_done (by kernel_rfl) ?_ _
                  clear hS
                  go_wp2_with fail
                  exact ⟨⟨k + 1, fu3, kp3, by go_num, by omega, hk3, TR, RR3, NN3⟩, by simp [intOf]; omega⟩
              · go_wp2_with (first
                  | (go_at_call 18; refine (down_any (XX g gs b9 b9) g gs T nw fu kp true _ TQ.out.plat).mono ?_; rintro e wd ⟨rfl, rfl⟩)
                  | (go_at_call 13; refine (image_any (XX g gs b9 b9) g gs T nw fu kp true _ TQ.out.plat (by rw [HTL.out]; exact hS1)).mono ?_; rintro e wi ⟨Ai, ci, rfl, hoi, hbi⟩; rw [HTL.out] at hoi ⊢; have TR := Lib.hid (TQ.out.under hbi); have NR := Lib.hid (NQ.out.below hbi); have IR := Lib.hid (Lz.of_own (X := fun _ => False) hoi (fun _ h => h.elim)); clear hoi hbi)
                  | (go_at_call 17; refine (same_is (fun _ => False) (XX g gs b9 b9) _ _ _ _ _ _ T _ IR.out NR.out hS1 hS1).mono ?_; rintro e ws ⟨rfl, m9, rfl⟩; have TS := Lib.hid (TR.out.under (below_drewN (Below.refl _ _) m9)))
                  | (go_at_call 6; refine (works_any _).mono ?_; rintro e wf ⟨rfl, hbf⟩; have HBF := Lib.hid (TS.out.below.trans (hbf.mono TS.out.below.size)); clear hbf))
                go_ret
                exact ⟨rfl, HBF.out⟩
      · have WR0 := write_no g w6 at_ l.length cL AL 2 (by decide) (cut_bad (XX g gs b9 b9) g gs S nw 0 (el.take S.length) false w6 at_ l.length TQ4.out.plat hS1 hi)
        have WRT := Lib.hid WR0
        clear WR0 hi
        go_wp2_with (first
          | (go_at_call 15; refine WRT.out.mono ?_; rintro e w7 ⟨rfl, rfl⟩)
          | (go_at_call 13; refine (image_any (XX g gs b9 b9) g gs S nw 0 (el.take S.length) false _ TQ4.out.plat hS1).mono ?_; rintro e w8 ⟨An, cn, rfl, ho8, hb8⟩; have TQ6 := Lib.hid (TQ4.out.under hb8); have WQ6 := Lib.hid (WQ4.out.below hb8); have NQ6 := Lib.hid (Lz.of_own (X := fun _ => False) ho8 (fun _ h => h.elim)); clear ho8 hb8)
          | (go_at_call 17; refine (same_is (fun _ => False) (XX g gs b9 b9) _ _ _ _ _ _ S _ NQ6.out WQ6.out hS1 hS1).mono ?_; rintro e w9 ⟨rfl, m9, rfl⟩; have TQ7 := Lib.hid (TQ6.out.under (below_drewN (Below.refl _ _) m9)))
          | (go_at_call 18; refine (down_any (XX g gs b9 b9) g gs S nw 0 (el.take S.length) false _ TQ7.out.plat).mono ?_; rintro e wd ⟨rfl, rfl⟩)
          | (go_at_call 6; refine (works_any _).mono ?_; rintro e wf ⟨rfl, hbf⟩; have HBF := Lib.hid (TQ7.out.below.trans (hbf.mono TQ7.out.below.size)); clear hbf))
        go_ret
        exact ⟨rfl, HBF.out⟩
end Go.Proofs.Ytggcfbglfmcdmaa
