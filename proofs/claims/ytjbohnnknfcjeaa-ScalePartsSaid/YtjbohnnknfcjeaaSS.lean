/-
  ScaleCuts where it runs.
  Conditions: the numbers are of 32 bits.
-/
import Derived.Test.YtjbohnnknfcjeaaSR
namespace Go.Proofs.Ytjbohnnknfcjeaa
open Go.RowKit
attribute [local go_sem] Oper.semAt_some
set_option maxRecDepth 20000

/-- The scale in its box, the document's list beside it. -/
structure CuL (w : World) (g : Nat) (cur : List Nat) (A : Option Addr) (n : Nat) (z : World) : Prop where
  box : At z g 27 (scA cur)
  lz : Lz (fun k => k = g) z 1 A n (UC cur)
  b : Below w.heap.size w z
  g0 : w.heap.size ≤ g
theorem CuL.under {w z y : World} {g n : Nat} {cur : List Nat} {A : Option Addr} (h : CuL w g cur A n z) (hb : Below z.heap.size z y) : CuL w g cur A n y := ⟨h.box.under hb h.box.lt, h.lz.below hb, h.b.trans (hb.mono h.b.size), h.g0⟩
theorem CuL.plain {w z : World} {g n : Nat} {cur : List Nat} {A : Option Addr} (h : CuL w g cur A n z) : Lz (fun _ => False) z 1 A n (UC cur) := h.lz.mono fun _ _ h => h.elim
/-- What the document's cut hands back lies outside the box. -/
theorem CuL.cut {w z y : World} {g n n' c' x j d : Nat} {cur cur' : List Nat} {A A' : Option Addr} (h : CuL w g cur A n z) (hc : cutN cur x = (cur', j, d))
    (hr : (A' = A ∧ n' = n ∧ (cutN cur x).1 = cur) ∨ ((cutN cur x).1.length = n' ∧ RowS z (cutN cur x).1 (.slice A' n' c') y)) (hb : Below z.heap.size z y) : Lz (fun k => k = g) y 1 A' n' (UC cur') := by
  rw [hc] at hr
  rcases hr with ⟨rfl, rfl, e⟩ | ⟨e, hrow⟩
  · dsimp only at e
    subst e
    exact h.lz.below hb
  · dsimp only at e hrow
    have hown := hrow.own
    rw [e] at hown
    exact Lz.of_own hown fun k hk => by rw [hk]; exact h.box.lt
theorem CuL.put {w z y : World} {g n n' : Nat} {cur cur' : List Nat} {A A' : Option Addr} (h : CuL w g cur A n z) (hl : Lz (fun k => k = g) z 1 A' n' (UC cur')) (ha : At y g 27 (scA cur')) (hg : z.grownBy y (some g)) : CuL w g cur' A' n' y :=
  ⟨ha, hl.kept ((Mod.refl _ z).grown hg fun k hk => by injection hk with hk; exact .inl hk.symm), h.b.grown hg h.b.size (fun k hk => by injection hk with hk; rw [← hk]; exact h.g0), h.g0⟩
set_option maxHeartbeats 25600000 in
theorem cuts_any (A0 : Option Addr) (n0 c0 : Nat) (l : List Nat) (B0 : Option Addr) (m d0 : Nat) (ml : List Nat) (x : Nat) (w : World) (h : Lz (fun _ => False) w 1 A0 n0 (UC l)) (hc0 : n0 ≤ c0) (hm : Lz (fun _ => False) w 1 B0 m (UC ml)) (hU : ∀ x ∈ l, U32 x) (hM : ∀ x ∈ ml, U32 x) :
    Calls Try.prog 3 #[.slice A0 n0 c0, .slice B0 m d0, .int .u32 (x : Int)] w (RetB w (.bool true)) := by
  have hlen := h.ulen
  by_cases h30 : 30 < n0 ∨ 30 < m
  · have HWK := Lib.hid (works_from w (Below.refl _ w))
    clear h hm
    by_cases h1 : 30 < n0
    · have d1 : decide ((30 : Int) < (n0 : Int)) = true := decide_eq_true (by omega)
      have d1n : decide (30 < n0) = true := decide_eq_true h1
      go_enter Try.func3, Try.ntmps3
      go_wp2_with (go_at_call 7; refine HWK.out.mono ?_; rintro e z ⟨rfl, hb⟩)
      go_ret
      exact ⟨rfl, hb⟩
    · have h2 : 30 < m := by omega
      have d1 : decide ((30 : Int) < (n0 : Int)) = false := decide_eq_false (by omega)
      have d1n : decide (30 < n0) = false := decide_eq_false h1
      have d2 : decide ((30 : Int) < (m : Int)) = true := decide_eq_true (by omega)
      have d2n : decide (30 < m) = true := decide_eq_true h2
      clear h30 h1
      go_enter Try.func3, Try.ntmps3
      go_wp2_with (go_at_call 7; refine HWK.out.mono ?_; rintro e z ⟨rfl, hb⟩)
      go_ret
      exact ⟨rfl, hb⟩
  have d1 : decide ((30 : Int) < (n0 : Int)) = false := decide_eq_false (by omega)
  have d1n : decide (30 < n0) = false := decide_eq_false (by omega)
  have d2 : decide ((30 : Int) < (m : Int)) = false := decide_eq_false (by omega)
  have d2n : decide (30 < m) = false := decide_eq_false (by omega)
  have hm30 : m ≤ 30 := by omega
  have hn30 : n0 ≤ 30 := by omega
  have HOF := Lib.hid (Of_any A0 n0 c0 l w h)
  have HZ0 : Hid ((#[.int .i64 0, .int .u32 0, .int .u32 0, .int .u32 0, .int .u32 0, .int .u32 0, .int .u32 0, .int .u32 0] : Array Value) = zS) := Lib.hid rfl
  have hz0 := HZ0.out
  have HRR := Lib.hid (fun W => rRight_any A0 n0 c0 l W)
  have HL := Lib.hid h
  have HM := Lib.hid hm
  clear h hm h30
  cases hok : okB l with
  | false =>
    have HV := Lib.hid (ofV_no hok)
    rw [HV.out] at HOF
    rw [hok] at HRR
    go_enter Try.func3, Try.ntmps3
    go_wp2_with fail
    refine HOF.out.mono ?_
    rintro e z ⟨rfl, hb⟩
    have HB1 := Lib.hid hb
    clear hb HOF
    go_upto_region 4 with (refine wpList_store_new 27 (.tmp 7) (.tmp 29) rfl rfl rfl z.heap.size z rfl rfl zS zS 8 rfl strS zS_size zS_size zS_one rfl ?_)
    have HB := Lib.hid (HB1.out.alloc HB1.out.size (.cells zS 27))
    have HA : Hid (At (z.alloc (.cells zS 27)) z.heap.size 27 zS) := At.new z _ _
    generalize z.alloc (.cells zS 27) = z1 at HB HA ⊢
    generalize z.heap.size = g at HA ⊢
    clear HB1 hz0
    go_wp2_with fail
    refine (HRR.out z1 (HL.out.below HB.out)).mono ?_
    rintro e z2 ⟨rfl, hb⟩
    have HA2 := Lib.hid (HA.out.under hb HA.out.lt)
    have HB2 := Lib.hid (HB.out.trans (hb.mono HB.out.size))
    clear hb HA HB
    go_wp2_with (first
      | (refine wpList_load_at 27 37 (.tmp 7) rfl rfl rfl g rfl zS 8 strS zS_size HA2.out ?_)
      | (go_at_call 10; refine (sLen_any [] (by decide) _).mono ?_; rintro e z ⟨rfl, hb⟩; have HB3 := Lib.hid (HB2.out.trans (hb.mono HB2.out.size)); clear hb)
      | (go_at_call 7; refine (works_from _ HB3.out).mono ?_; rintro e z ⟨rfl, hb⟩))
    go_ret
    exact ⟨rfl, hb⟩
  | true =>
    have HG0 := Lib.hid (gd_of hok hU)
    rw [ofV_yes hok] at HOF
    rw [hok] at HRR
    have HS8 : Hid ((scA l).size = 8) := scA_size HG0.out.len
    clear hok
    go_enter Try.func3, Try.ntmps3
    go_wp2_with fail
    refine HOF.out.mono ?_
    rintro e z ⟨rfl, hb⟩
    have HB1 := Lib.hid hb
    clear hb HOF
    go_upto_region 4 with (refine wpList_store_new 27 (.tmp 7) (.tmp 29) rfl rfl rfl z.heap.size z rfl rfl (scA l) zS 8 rfl strS HS8.out zS_size (scA_one _) rfl ?_)
    have HC : Hid (CuL w z.heap.size l A0 n0 (z.alloc (.cells (scA l) 27))) := ⟨At.new z _ _, Lz.alloc ⟨(HL.out.below HB1.out).len, fun hn => by
      obtain ⟨b, o, h1, _, h3, h4⟩ := (HL.out.below HB1.out).spot hn
      exact ⟨b, o, h1, fun e => by omega, h3, h4⟩⟩ _, HB1.out.alloc HB1.out.size _, HB1.out.size⟩
    generalize z.alloc (.cells (scA l) 27) = z1 at HC ⊢
    generalize z.heap.size = g at HC ⊢
    clear HB1 hz0
    go_wp2_with fail
    refine (HRR.out z1 HC.out.plain).mono ?_
    rintro e z2 ⟨rfl, hb⟩
    have HC2 := Lib.hid (HC.out.under hb)
    clear hb HC HRR
    go_wp2_with fail
    go_loopw [6, 9, 10, 11, 12, 13, 14, 15, 16] (fun v6 v9 v10 _ _ _ _ _ _ wr => ∃ (i : Nat) (cur : List Nat) (A : Option Addr) (n c : Nat), i ≤ m ∧ n ≤ c ∧ n ≤ 60 ∧ v6 = .bool false ∧ v9 = .slice A n c ∧ v10 = .int .i64 (i : Int) ∧ Hid (Gd cur) ∧ Hid (CuL w g cur A n wr)) (fun _ _ i _ _ _ _ _ _ _ => m - (intOf i).toNat)
    case atStart => exact ⟨0, l, A0, n0, c0, Nat.zero_le _, hc0, by omega, rfl, rfl, by go_num, HG0, HC2⟩
    case round =>
      clear HC2 HG0 HL hlen hn30 d1 d1n d2 d2n HS8
      obtain ⟨i, cur, A, n, c, hi, hnc, hn60, rfl, rfl, rfl, HG, HC⟩ := hrel
      have HS8 : Hid ((scA cur).size = 8) := scA_size HG.out.len
      obtain ⟨v0, v1, v2, v3, v4, v5, v6, v7, hv⟩ := eight HS8.out
      have hnl := HC.out.lz.ulen
      by_cases hlt : i < m
      · obtain ⟨hlB, ho, hil, rfl, hlb, hlc⟩ := HM.out.uc hlt
        obtain ⟨y, hy⟩ : ∃ y, ml[i] = y := ⟨_, rfl⟩
        have hyU : U32 y := by rw [← hy]; exact hM _ (List.getElem_mem _)
        rw [hy] at hlc
        have hlc2 := below_cell HC.out.b hlb hlc
        have hlb2 : hlB < wr.heap.size := Nat.lt_of_lt_of_le hlb HC.out.b.size
        obtain ⟨cur', hcur'⟩ : ∃ q, (cutN cur y).1 = q := ⟨_, rfl⟩
        obtain ⟨j, hj⟩ : ∃ q, (cutN cur y).2.1 = q := ⟨_, rfl⟩
        obtain ⟨d, hd⟩ : ∃ q, (cutN cur y).2.2 = q := ⟨_, rfl⟩
        have HCN : Hid (cutN cur y = (cur', j, d)) := by show _ = _; rw [← hcur', ← hj, ← hd]
        have HG2 : Hid (Gd cur') := by show Gd _; rw [← hcur']; exact cut_good HG.out hyU
        have HS9 : Hid ((scA cur').size = 8) := scA_size HG2.out.len
        obtain ⟨u0, u1, u2, u3, u4, u5, u6, u7, hu⟩ := eight HS9.out
        have HCUT := Lib.hid (fun W => sCut_any cur HG.out y W)
        have HCV : Hid (cutV cur y = .tuple #[.agg #[u0, u1, u2, u3, u4, u5, u6, u7], .int .i64 (j : Int), .int .i64 (d : Int)]) := by show _ = _; unfold cutV; rw [HCN.out]; dsimp only; rw [hu]
        rw [HCV.out, hv] at HCUT
        have HBX : Hid (∀ wz, Below wr.heap.size wr wz → At wz g 27 #[v0, v1, v2, v3, v4, v5, v6, v7]) := fun wz hz => by rw [← hv]; exact HC.out.box.under hz HC.out.box.lt
        have HU1 : Hid ((#[u0, u1, u2, u3, u4, u5, u6, u7] : Array Value).all (·.oneCell') = true) := by rw [← hu]; exact scA_one _
        have HCU := Lib.hid (fun W => sCuts_any cur HG.out.len W)
        have HCU2 := Lib.hid (fun W => sCuts_any cur' HG2.out.len W)
        rw [hv] at HCU
        rw [hu] at HCU2
        have HUU := Lib.hid hu
        have HVV := Lib.hid hv
        have HNL := Lib.hid hnl
        have HLB := Lib.hid hlb
        have HLC := Lib.hid hlc
        have hz0 := HZ0.out
        clear hy hcur' hj hd hu hv hnl hlb hlc
        have hlb := hlb2
        have hlc := hlc2
        clear hlb2 hlc2
        go_upto_region 12 with fail
        go_cut [11, 12, 13] from 50 to 60 (fun s11 s12 s13 wx => ∃ gx : Nat, s11 = .pointer (some ⟨gx, 0, none⟩) ∧ s12 = .int .i64 (j : Int) ∧ s13 = .int .i64 (d : Int) ∧ Hid (At wx gx 27 #[u0, u1, u2, u3, u4, u5, u6, u7]) ∧ Hid (Below wr.heap.size wr wx))
        case first =>
          refine wp_region_held_drew (S := fun wz => Below wr.heap.size wr wz) (by kernel_rfl) (Below.refl _ wr).drew (fun hS => ?_)
          refine tk (v := .agg #[v0, v1, v2, v3, v4, v5, v6, v7]) 0 hS ?_ (hy := by intro wz hz; have q0 := below_cell hz hlb hlc; exact exec_load_at 27 (.tmp 7) rfl g rfl _ 8 strS rfl (HBX.out wz hz))
          refine tk 1 hS ?_
          refine tk 2 hS ?_
          refine tk 3 hS ?_
          refine tk 4 hS ?_ (hy := by intro wz hz; have q0 := below_cell hz hlb hlc; go_simp <;> with_reducible rfl)
          refine wpAnyH_ready (rs := [5, 10]) (by kernel_rfl) (by simp) ?_
          refine AllReadyH.cons rfl (fun K hK => ?_) (AllReadyH.cons rfl (fun K hK => ?_) AllReadyH.nil)
          · go_simp
            refine (HCUT.out wr.drew).mono ?_
            rintro e y6 ⟨rfl, hb6⟩
            have hb : True := trivial
            have B6 := Lib.hid hb6
            have HS1 := Lib.hid hS
            clear hb6
            refine hK.out _ _ (HS1.out.trans (B6.out.mono (Below.size HS1.out))) (fun hT => ?_)
            clear hK hS
            have hS := hT
            clear hT
            refine tk 6 hS ?_
            refine tk 7 hS ?_
            refine tk 8 hS ?_
            refine tk 9 hS ?_
            refine wpAnyH_ready (rs := [10]) (by kernel_rfl) (by simp) ?_
            refine AllReadyH.cons rfl (fun K hK => ?_) AllReadyH.nil
            go_simp
            try rw [HZ0.out]
            have AX := Lib.hid (At.new y6 27 zS)
            have HG9 := Lib.hid (show wr.heap.size ≤ y6.heap.size from Below.size hS)
            have HT0 := Below.alloc hS (Below.size hS) (.cells zS 27)
            refine hK.out _ _ (HT0) (fun hT => ?_)
            clear hK hS
            have hS := hT
            clear hT
            refine wpAnyH_ready (rs := [11]) (by kernel_rfl) (by simp) ?_
            refine AllReadyH.cons rfl (fun K hK => ?_) AllReadyH.nil
            rw [if_pos (by rfl)]
            refine wp_store_at 27 (.tmp 11) (.tmp 57) rfl rfl y6.heap.size rfl #[u0, u1, u2, u3, u4, u5, u6, u7] zS 8 rfl strS rfl zS_size HU1.out AX.out ?_
            intro w9 ha9 hg9
            have HA9 := Lib.hid ha9
            have HB9 := Lib.hid (Below.grown hS hg9 (Below.size hS) (fun q e => by injection e with e; rw [← e]; exact HG9.out))
            clear ha9 hg9
            refine hK.out _ _ (HB9.out) (fun hT => ?_)
            clear hK hS
            have hS := hT
            clear hT
            dsimp only [Act.put]
            refine tk 12 hS ?_
            refine tk 13 hS ?_
            refine wpAnyH_done (by kernel_rfl) ?_ _
            go_wp2_with fail
            go_meet
            exact ⟨_, rfl, rfl, rfl, HA9, HB9⟩
          · go_simp
            try rw [HZ0.out]
            have AX0 := Lib.hid (At.new wr.drew 27 zS)
            have HT0 := Below.alloc hS (Below.size hS) (.cells zS 27)
            have HG9 := Lib.hid (show wr.heap.size ≤ wr.drew.heap.size from Below.size hS)
            refine hK.out _ _ (HT0) (fun hT => ?_)
            clear hK hS
            have hS := hT
            clear hT
            refine wpAnyH_ready (rs := [5]) (by kernel_rfl) (by simp) ?_
            refine AllReadyH.cons rfl (fun K hK => ?_) AllReadyH.nil
            go_simp
            refine (HCUT.out (wr.drew.alloc (.cells zS 27))).mono ?_
            rintro e y6 ⟨rfl, hb6⟩
            have hb : True := trivial
            have B6 := Lib.hid hb6
            have HS1 := Lib.hid hS
            clear hb6
            refine hK.out _ _ (HS1.out.trans (B6.out.mono (Below.size HS1.out))) (fun hT => ?_)
            clear hK hS
            have hS := hT
            clear hT
            have AX := Lib.hid (AX0.out.under B6.out AX0.out.lt)
            refine tk 6 hS ?_
            refine tk 7 hS ?_
            refine tk 8 hS ?_
            refine tk 9 hS ?_
            refine wpAnyH_ready (rs := [11]) (by kernel_rfl) (by simp) ?_
            refine AllReadyH.cons rfl (fun K hK => ?_) AllReadyH.nil
            rw [if_pos (by rfl)]
            refine wp_store_at 27 (.tmp 11) (.tmp 57) rfl rfl wr.drew.heap.size rfl #[u0, u1, u2, u3, u4, u5, u6, u7] zS 8 rfl strS rfl zS_size HU1.out AX.out ?_
            intro w9 ha9 hg9
            have HA9 := Lib.hid ha9
            have HB9 := Lib.hid (Below.grown hS hg9 (Below.size hS) (fun q e => by injection e with e; rw [← e]; exact HG9.out))
            clear ha9 hg9
            refine hK.out _ _ (HB9.out) (fun hT => ?_)
            clear hK hS
            have hS := hT
            clear hT
            dsimp only [Act.put]
            refine tk 12 hS ?_
            refine tk 13 hS ?_
            refine wpAnyH_done (by kernel_rfl) ?_ _
            go_wp2_with fail
            go_meet
            exact ⟨_, rfl, rfl, rfl, HA9, HB9⟩
        case rest =>
          obtain ⟨gx, rfl, rfl, rfl, HX, HBX2⟩ := hcut
          clear hz0 hlb hlc
          have HCc := Lib.hid (HC.out.under HBX2.out)
          have q0 := below_cell HCc.out.b HLB.out HLC.out
          have hcp := HCc.out.plain
          have HRC := Lib.hid (rCut_any A n c cur y wc hcp hnc (by omega))
          clear hcp
          go_wp2_with fail
          refine HRC.out.mono ?_
          rintro e yd ⟨A2, n2, c2, hc2, rfl, hbd, hn2, hor⟩
          have hlz2 := HCc.out.cut HCN.out hor hbd
          have hn2l := hlz2.ulen
          have hn27 : n2 ≤ 7 := by have := HG2.out.len; omega
          have HLZ2 := Lib.hid hlz2
          have HN2 := Lib.hid hn2l
          have HCd := Lib.hid (HCc.out.under hbd)
          have HXd := Lib.hid (HX.out.under hbd HX.out.lt)
          rw [HCN.out]
          clear hor hbd hlz2 hn2l hn2 HRC HX HBX2 HCc q0
          have ejj : ((j : Int) != (j : Int)) = false := by rw [nat_bne]; simp
          have edd : ((d : Int) != (d : Int)) = false := by rw [nat_bne]; simp
          have hbox : At yd g 27 #[v0, v1, v2, v3, v4, v5, v6, v7] := by rw [← HVV.out]; exact HCd.out.box
          obtain ⟨p0, p1, p2, p3, p4, p5, p6, p7⟩ := cells8 hbox
          clear hbox
          go_wp2_with fail
          refine (HCU.out yd).mono ?_
          rintro e ye ⟨A3, c3, rfl, hr3⟩
          rw [HNL.out] at hr3
          have hls3 := hr3.lz HNL.out
          have HCe := Lib.hid (HCd.out.under hr3.below)
          have HXe := Lib.hid (HXd.out.under hr3.below HXd.out.lt)
          have HLZe := Lib.hid (HLZ2.out.below hr3.below)
          have HRS := Lib.hid (rSame_any A3 n c3 cur A n c cur ye hls3 HCe.out.plain (by omega) (by omega))
          rw [decide_eq_true rfl] at HRS
          rw [HNL.out]
          clear hr3 hls3 HCd HXd HLZ2 p0 p1 p2 p3 p4 p5 p6 p7
          go_wp2_with fail
          refine HRS.out.mono ?_
          rintro e yf ⟨rfl, hbf⟩
          have HCf := Lib.hid (HCe.out.under hbf)
          have HXf := Lib.hid (HXe.out.under hbf HXe.out.lt)
          have HLZf := Lib.hid (HLZe.out.below hbf)
          clear hbf HRS HCe HXe HLZe
          go_upto_region 17 with (first
            | (refine wpList_load_at 27 85 (.tmp 11) rfl rfl rfl gx rfl #[u0, u1, u2, u3, u4, u5, u6, u7] 8 strS rfl HXf.out ?_)
            | (refine wpList_store_at 27 (.tmp 7) (.tmp 85) rfl rfl rfl g rfl #[u0, u1, u2, u3, u4, u5, u6, u7] #[v0, v1, v2, v3, v4, v5, v6, v7] 8 rfl strS rfl rfl HU1.out (by rw [← HVV.out]; exact HCf.out.box) ?_; intro yg hag hgg; have HCg := Lib.hid (HCf.out.put HLZf.out (by rw [HUU.out]; exact hag) hgg); have hbox : At yg g 27 #[u0, u1, u2, u3, u4, u5, u6, u7] := hag; clear hag hgg))
          obtain ⟨p0, p1, p2, p3, p4, p5, p6, p7⟩ := cells8 hbox
          clear hbox HCf HXf HLZf ejj edd
          obtain ⟨n3, hn3⟩ : ∃ n3, n2 + 1 = n3 := ⟨_, rfl⟩
          have en3 : (n2 : Int) + 1 = (n3 : Int) := by omega
          have wn3 := wrap_nat (k := n3) (by omega)
          have HLEN := Lib.hid (fun W => sLen_any cur' HG2.out.len W)
          have HAT := Lib.hid (fun W => sAt_any cur' HG2.out x W)
          rw [HUU.out] at HLEN HAT
          rw [HN2.out, hn3] at HLEN
          obtain ⟨ax, hax⟩ : ∃ ax, atN cur' x = ax := ⟨_, rfl⟩
          rw [hax] at HAT
          have HAX := Lib.hid hax
          have e33 : ((n3 : Int) != (n3 : Int)) = false := by rw [nat_bne]; simp
          have eax : ((ax : Int) != (ax : Int)) = false := by rw [nat_bne]; simp
          clear hn3 hax
          go_wp2_with fail
          refine (HCU2.out yg).mono ?_
          rintro e yh ⟨A4, c4, rfl, hr4⟩
          rw [HN2.out] at hr4
          have hls4 := hr4.lz HN2.out
          have HCh := Lib.hid (HCg.out.under hr4.below)
          have HRS := Lib.hid (rSame_any A4 n2 c4 cur' A2 n2 c2 cur' yh hls4 HCh.out.plain (by omega) (by omega))
          rw [decide_eq_true rfl] at HRS
          rw [HN2.out]
          clear hr4 hls4 HCg p0 p1 p2 p3 p4 p5 p6 p7
          go_wp2_with fail
          refine HRS.out.mono ?_
          rintro e yi ⟨rfl, hbi⟩
          have HCi := Lib.hid (HCh.out.under hbi)
          clear hbi HRS HCh
          have HBOX : Hid (At yi g 27 #[u0, u1, u2, u3, u4, u5, u6, u7]) := by have := HCi.out.box; rw [HUU.out] at this; exact this
          obtain ⟨p0, p1, p2, p3, p4, p5, p6, p7⟩ := cells8 HBOX.out
          clear HBOX
          go_wp2_with fail
          refine (HLEN.out yi).mono ?_
          rintro e yj ⟨rfl, hbj⟩
          have HCj := Lib.hid (HCi.out.under hbj)
          clear hbj HCi p0 p1 p2 p3 p4 p5 p6 p7
          have HBOX : Hid (At yj g 27 #[u0, u1, u2, u3, u4, u5, u6, u7]) := by have := HCj.out.box; rw [HUU.out] at this; exact this
          obtain ⟨p0, p1, p2, p3, p4, p5, p6, p7⟩ := cells8 HBOX.out
          clear HBOX
          go_wp2_with fail
          refine (HAT.out yj).mono ?_
          rintro e yk ⟨rfl, hbk⟩
          have HCk := Lib.hid (HCj.out.under hbk)
          have HRA := Lib.hid (rAt_any A2 n2 c2 cur' x yk HCk.out.plain (by omega))
          rw [HAX.out] at HRA
          clear hbk HCj p0 p1 p2 p3 p4 p5 p6 p7
          go_wp2_with (go_at_call 16; refine HRA.out.mono ?_; rintro e yl ⟨rfl, rfl⟩)
          exact ⟨⟨i + 1, cur', A2, n2, c2, by omega, hc2, by omega, rfl, rfl, by go_num, HG2, HCk⟩, by simp [intOf]; omega⟩
      · obtain rfl : i = m := by omega
        have HBX : Hid (At wr g 27 #[v0, v1, v2, v3, v4, v5, v6, v7]) := by have := HC.out.box; rw [hv] at this; exact this
        have HAT := Lib.hid (fun W => sAt_any cur HG.out x W)
        rw [hv] at HAT
        obtain ⟨ax, hax⟩ : ∃ ax, atN cur x = ax := ⟨_, rfl⟩
        rw [hax] at HAT
        have HAX := Lib.hid hax
        have eax : ((ax : Int) == (ax : Int)) = true := beq_self_eq_true _
        clear hv hax hnl
        go_wp2_with (refine wpList_load_at 27 109 (.tmp 7) rfl rfl rfl g rfl #[v0, v1, v2, v3, v4, v5, v6, v7] 8 strS rfl HBX.out ?_)
        refine (HAT.out wr).mono ?_
        rintro e yk ⟨rfl, hbk⟩
        have HCk := Lib.hid (HC.out.under hbk)
        have HRA := Lib.hid (rAt_any A n c cur x yk HCk.out.plain (by omega))
        rw [HAX.out] at HRA
        clear hbk
        go_wp2_with (first
          | (go_at_call 16; refine HRA.out.mono ?_; rintro e yl ⟨rfl, rfl⟩)
          | (go_at_call 7; refine (works_from _ HCk.out.b).mono ?_; rintro e z ⟨rfl, hb⟩))
        go_ret
        exact ⟨rfl, hb⟩
theorem row_cap {w : World} {k : IntKind} {a : Option Addr} {len cap : Nat} {zs : List Int} (h : IsRow k w a len cap zs) : len ≤ cap := by
  rcases h with ⟨_, rfl, rfl, _⟩ | ⟨_, _, h, _⟩
  · exact Nat.le_refl _
  · exact h
/-- The law as the frame wants it. -/
theorem cuts_law (A : Option Addr) (n c : Nat) (z : List Int) (B : Option Addr) (m d : Nat) (zm : List Int) (x : Int) (w : World) (h : IsRow .u32 w A n c z) (hm : IsRow .u32 w B m d zm) (hx : (Lit.int .u32 x).wf = true) :
    Calls Try.prog 3 #[.slice A n c, .slice B m d, .int .u32 x] w fun e w' => e = .returned (.bool true) ∧ Below w.heap.size w w' := by
  obtain ⟨L, hL, hU⟩ := nums_of_row h
  obtain ⟨M, hM, hUM⟩ := nums_of_row hm
  obtain ⟨y, rfl, _⟩ := nat_of_wf hx
  exact cuts_any A n c L B m d M y w hL (row_cap h) hM hU hUM
end Go.Proofs.Ytjbohnnknfcjeaa
