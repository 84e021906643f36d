/-
  The walk of the reference's Wake.
  Conditions: at most 1000 claims of each kind.
-/
import Derived.Test.YthbifccankfngaaGreatDoorR8ZQ
namespace Go.Proofs.YthbifccankfngaaGreatDoor
open Go.RowKit Go.Shelf
attribute [local go_sem] Oper.semAt_some
set_option maxRecDepth 20000

theorem Lz.rcX {X : Nat → Prop} {w : World} {A : Option Addr} {n k : Nat} {l : List Cl} (h : Lz X w 4 A n (rcL l)) (hk : k < n) : ∃ b o, ∃ hl : k < l.length, A = some ⟨b, o, none⟩ ∧ b < w.heap.size ∧ w.rangeAt b (o + k * 4) (rcV l[k]) ∧ ¬ X b := by
  obtain ⟨b, o, hl, h1, h2, h3⟩ := h.rc hk
  obtain ⟨b', o', h4, h5, _⟩ := h.spot (by omega)
  rw [h1] at h4
  injection h4 with h4
  injection h4 with h4
  subst h4
  exact ⟨b, o, hl, h1, h2, h3, h5⟩
/-- Claims handed back, as many as n. -/
def BuN (w : World) (L : List Cl) (n : Nat) (e : Ending) (w' : World) : Prop := ∃ A c, e = .returned (.slice A n c) ∧ w'.ownsRow w.heap.size 72 4 (.slice A n c) n (rcL L) ∧ Below w.heap.size w w'
theorem BuR.named {w : World} {L : List Cl} {n : Nat} {e : Ending} {w' : World} (hn : L.length = n) (h : BuR w L e w') : BuN w L n e w' := by
  subst hn
  exact h
set_option maxHeartbeats 12800000 in
theorem Wake_any (A1 A2 : Option Addr) (n1 c1 n2 c2 : Nat) (u0 : TR) (r : Rs) (w : World) (X0 : Nat → Prop) (hX0 : ∀ j, X0 j → j < w.heap.size) (h : RtV X0 w A1 n1 A2 n2 u0) (N : Nat) (hs : u0.held.length ≤ N ∧ u0.queue.length ≤ N) (hN : N ≤ 1000) :
    Calls Tryz.prog 57 #[.agg (rtA A1 A2 n1 c1 n2 c2), .agg (rsA r)] w (WakR w X0 (wakeR u0 r)) := by
  have hl1 := h.h.rclen
  have hl2 := h.q.rclen
  have hb3 : Below w.heap.size w (((w.alloc (.cells (rtA A1 A2 n1 c1 n2 c2) 28)).alloc (.cells (rsA r) 33)).alloc (.cells (rtA none none 0 0 0 0) 28)) := (((Below.refl _ w).alloc (Nat.le_refl _) _).alloc (by simp) _).alloc (by simp; omega) _
  have AT := Lib.hid (show At (((w.alloc (.cells (rtA A1 A2 n1 c1 n2 c2) 28)).alloc (.cells (rsA r) 33)).alloc (.cells (rtA none none 0 0 0 0) 28)) w.heap.size 28 (rtA A1 A2 n1 c1 n2 c2) from ((At.new w _ _).alloc _).alloc _)
  have A3 : At ((((w.alloc (.cells (rtA A1 A2 n1 c1 n2 c2) 28)).alloc (.cells (rsA r) 33)).alloc (.cells (rtA none none 0 0 0 0) 28)).alloc (.cells (rtA A1 A2 n1 c1 n2 c2) 28)) (w.heap.size + 1) 33 (rsA r) := by
    have := ((At.new (w.alloc (.cells (rtA A1 A2 n1 c1 n2 c2) 28)) 33 (rsA r)).alloc (.cells (rtA none none 0 0 0 0) 28)).alloc (.cells (rtA A1 A2 n1 c1 n2 c2) 28)
    simpa using this
  have A4 : At ((((w.alloc (.cells (rtA A1 A2 n1 c1 n2 c2) 28)).alloc (.cells (rsA r) 33)).alloc (.cells (rtA none none 0 0 0 0) 28)).alloc (.cells (rtA A1 A2 n1 c1 n2 c2) 28)) (w.heap.size + 1 + 1) 28 (rtA none none 0 0 0 0) := by
    have := (At.new ((w.alloc (.cells (rtA A1 A2 n1 c1 n2 c2) 28)).alloc (.cells (rsA r) 33)) 28 (rtA none none 0 0 0 0)).alloc (.cells (rtA A1 A2 n1 c1 n2 c2) 28)
    simpa using this
  have A6 : At ((((w.alloc (.cells (rtA A1 A2 n1 c1 n2 c2) 28)).alloc (.cells (rsA r) 33)).alloc (.cells (rtA none none 0 0 0 0) 28)).alloc (.cells (rtA A1 A2 n1 c1 n2 c2) 28)) (w.heap.size + 1 + 1 + 1) 28 (rtA A1 A2 n1 c1 n2 c2) := by
    have := At.new (((w.alloc (.cells (rtA A1 A2 n1 c1 n2 c2) 28)).alloc (.cells (rsA r) 33)).alloc (.cells (rtA none none 0 0 0 0) 28)) 28 (rtA A1 A2 n1 c1 n2 c2)
    simpa using this
  have HB := Lib.hid (hb3.alloc hb3.size (.cells (rtA A1 A2 n1 c1 n2 c2) 28))
  have HA3 := Lib.hid A3
  have HA4 := Lib.hid A4
  have HA6 := Lib.hid A6
  have H0 := Lib.hid h
  have HX0 := Lib.hid hX0
  have HS0 := Lib.hid hs
  clear h hs A3 A4 A6 hb3 hX0
  go_enter Tryz.func57, Tryz.ntmps57
  go_upto_region 2 with (first
    | refine wpList_load_at 28 10 (.tmp 2) rfl rfl rfl w.heap.size rfl (rtA A1 A2 n1 c1 n2 c2) 2 strT rfl AT.out ?_
    | refine wpList_store_new 28 (.tmp 6) (.tmp 10) rfl rfl rfl (w.heap.size + 1 + 1 + 1) (((w.alloc (.cells (rtA A1 A2 n1 c1 n2 c2) 28)).alloc (.cells (rsA r) 33)).alloc (.cells (rtA none none 0 0 0 0) 28)) (by simp) rfl (rtA A1 A2 n1 c1 n2 c2) (rtA none none 0 0 0 0) 2 rfl strT rfl rfl (rtA_one _ _ _ _ _ _) rfl ?_)
  generalize (((w.alloc (.cells (rtA A1 A2 n1 c1 n2 c2) 28)).alloc (.cells (rsA r) 33)).alloc (.cells (rtA none none 0 0 0 0) 28)).alloc (.cells (rtA A1 A2 n1 c1 n2 c2) 28) = z4 at HB HA3 HA4 HA6 ⊢
  obtain ⟨b3, hb3⟩ : ∃ b3, w.heap.size + 1 = b3 := ⟨_, rfl⟩
  obtain ⟨b4, hb4⟩ : ∃ b4, b3 + 1 = b4 := ⟨_, rfl⟩
  obtain ⟨b6, hb6⟩ : ∃ b6, b4 + 1 = b6 := ⟨_, rfl⟩
  rw [hb3, hb4, hb6] at HA6 ⊢
  rw [hb3, hb4] at HA4
  rw [hb3] at HA3
  have hlt3 : b3 < b4 := by omega
  have hlt4 : b4 < b6 := by omega
  have hlt6 : b6 < z4.heap.size := HA6.out.lt
  have hw3 : w.heap.size < b3 := by omega
  have HQ0 := Lib.hid (H0.out.q.below HB.out)
  have p1 : z4.cell? ⟨b6, 1, none⟩ = some (.slice A2 n2 c2) := HA6.out.cell 1
  have HOF := Lib.hid (rOf_any A2 n2 c2 u0.queue r z4 (lz_wide (Y := fun _ => False) HQ0.out (fun _ _ h => h.elim)) (by have := HS0.out.2; omega))
  have H46 := Lib.hid hb6
  clear hb3 hb4 hb6 AT
  go_wp2_with (first
    | refine wpList_load_at 33 13 (.tmp 3) rfl rfl rfl b3 rfl (rsA r) 2 strR rfl HA3.out ?_
    | (refine HOF.out.mono ?_; rintro e zq ⟨AQ, cQ, rfl, hoq, hbq⟩; have OQ := Lib.hid hoq; have BQ := Lib.hid hbq; clear hoq hbq HOF p1))
  obtain ⟨q, hq⟩ : ∃ q, ofR u0.queue r = q := ⟨_, rfl⟩
  rw [hq] at OQ ⊢
  have HQE := Lib.hid hq
  obtain ⟨n, hn⟩ : ∃ n, q.length = n := ⟨_, rfl⟩
  rw [hn] at OQ ⊢
  have hqN : n ≤ N := by
    rw [← hn, ← hq]
    exact Nat.le_trans (List.length_filter_le _ _) HS0.out.2
  have hlen := hn
  clear hq hn
  have hzq := BQ.out.size
  have HBQ := Lib.hid (HB.out.trans (BQ.out.mono HB.out.size))
  have HLQ := Lib.hid (Lz.of_own OQ.out (fun k hk => by rw [hk]; exact hlt6) : Lz (fun k => k = b6) zq 4 AQ n (rcL q))
  have ST : Hid (WkS zq X0 b6 r q u0 N 0 u0 [] (.slice none 0 0) zq) := WkS.start (HA6.out.under BQ.out hlt6) ((H0.out.wide (Y := fun k => (k = b6 ∨ k + 1 = b6) ∨ X0 k) (fun k hk hkk => by
    rcases hkk with hkk | hkk
    · omega
    · exact hkk)).kept (Mod.of_below HBQ.out _)) HS0.out
  have A3Q := Lib.hid (HA3.out.under BQ.out HA3.out.lt)
  have A4Q := Lib.hid (HA4.out.under BQ.out HA4.out.lt)
  have hbq6 : b6 < zq.heap.size := by omega
  have HXQ : Hid (∀ j, X0 j → j < zq.heap.size) := fun j hj => Nat.lt_of_lt_of_le (HX0.out j hj) (by have := HBQ.out.size; omega)
  clear HA3 HA4 HA6 OQ HQ0 H0
  go_wp2_with fail
  go_loopw [7, 9] (fun v i wr => WkL zq X0 b6 r q u0 N n v i wr) (fun _ i _ => n - (intOf i).toNat)
  case atStart => exact ⟨0, u0, [], none, 0, Nat.zero_le _, rfl, rfl, ST⟩
  case round =>
    obtain ⟨k, u, W, AW, cW, hk, rfl, rfl, HS⟩ := hrel
    obtain ⟨A1, n1, c1, A2, n2, c2, hbox, hrt⟩ := HS.out.box
    have AB := Lib.hid hbox
    have HRT := Lib.hid hrt
    have hlh := hrt.h.rclen
    have hlq := hrt.q.rclen
    have hsz := HS.out.sz
    clear hbox hrt
    have A3R := Lib.hid (A3Q.out.mod HS.out.mod (by omega))
    by_cases hlt : k < n
    · have HLW := HLQ.out.kept HS.out.mod
      obtain ⟨b, o, hkl, hAe, hbw, hr, hb6b⟩ := HLW.rcX hlt
      subst hAe
      obtain ⟨x, hx⟩ : ∃ x, q[k] = x := ⟨_, rfl⟩
      rw [hx] at hr
      have R1 := Lib.hid hr
      have HX := Lib.hid hx
      obtain ⟨fr, hfr⟩ : ∃ fr, freeR u.held x.2.1 r x.2.2 = fr := ⟨_, rfl⟩
      have HFE := Lib.hid hfr
      have hb36 : b3 ≠ b6 := by omega
      have HFR : Hid (∀ Wx, Below wr.heap.size wr Wx → Calls Tryz.prog 54 #[.slice A1 n1 c1, .int .u64 (x.2.1 : Int), .agg (rsA r), .int .i64 x.2.2] Wx (RetB Wx (.bool fr))) := fun Wx hW => by
        have := rFree_any A1 n1 c1 u.held x.2.1 r x.2.2 Wx ((lz_wide (Y := fun _ => False) HRT.out.h (fun _ _ h => h.elim)).below hW) (by omega)
        rw [hfr] at this
        exact this
      clear hr hx hfr HLW
      go_upto_region 5 with fail
      refine wp_region_held_drew (S := Below wr.heap.size wr) (by kernel_rfl) ((Below.refl _ wr).drew) (fun hS => ?_)
      refine tk 0 hS ?_
      refine tk 1 hS ?_
      refine tk 2 hS ?_
      refine tk 3 hS ?_
      refine tk 4 hS ?_
      refine tk 5 hS ?_
      refine tk 6 hS ?_ (hy := by intro wz hz; have p0 : wz.cell? ⟨b6, 0, none⟩ = some (.slice A1 n1 c1) := (AB.out.under hz AB.out.lt).cell 0; have q2 : wz.cell? ⟨b, o + k * 4 + 2, none⟩ = some (.int .u64 (x.2.1 : Int)) := (hz.cell (p := ⟨b, o + k * 4 + 2, none⟩) hbw).trans (R1.out 2 _ rfl); have q3 : wz.cell? ⟨b, o + k * 4 + 3, none⟩ = some (.int .i64 x.2.2) := (hz.cell (p := ⟨b, o + k * 4 + 3, none⟩) hbw).trans (R1.out 3 _ rfl); go_simp <;> with_reducible rfl)
      refine tk 7 hS ?_
      refine tk 8 hS ?_
      refine tk 9 hS ?_
      refine tk 10 hS ?_
      refine tk 11 hS ?_ (hy := by intro wz hz; have p0 : wz.cell? ⟨b6, 0, none⟩ = some (.slice A1 n1 c1) := (AB.out.under hz AB.out.lt).cell 0; have q2 : wz.cell? ⟨b, o + k * 4 + 2, none⟩ = some (.int .u64 (x.2.1 : Int)) := (hz.cell (p := ⟨b, o + k * 4 + 2, none⟩) hbw).trans (R1.out 2 _ rfl); have q3 : wz.cell? ⟨b, o + k * 4 + 3, none⟩ = some (.int .i64 x.2.2) := (hz.cell (p := ⟨b, o + k * 4 + 3, none⟩) hbw).trans (R1.out 3 _ rfl); go_simp <;> with_reducible rfl)
      refine tk (v := .agg (rsA r)) 12 hS ?_ (hy := by intro wz hz; have p0 : wz.cell? ⟨b6, 0, none⟩ = some (.slice A1 n1 c1) := (AB.out.under hz AB.out.lt).cell 0; have q2 : wz.cell? ⟨b, o + k * 4 + 2, none⟩ = some (.int .u64 (x.2.1 : Int)) := (hz.cell (p := ⟨b, o + k * 4 + 2, none⟩) hbw).trans (R1.out 2 _ rfl); have q3 : wz.cell? ⟨b, o + k * 4 + 3, none⟩ = some (.int .i64 x.2.2) := (hz.cell (p := ⟨b, o + k * 4 + 3, none⟩) hbw).trans (R1.out 3 _ rfl); exact exec_load_at 33 (.tmp 3) rfl b3 rfl (rsA r) 2 strR rfl (A3R.out.under hz A3R.out.lt))
      refine tk 13 hS ?_
      refine tk 14 hS ?_
      refine tk 15 hS ?_
      refine tk 16 hS ?_
      refine tk 17 hS ?_ (hy := by intro wz hz; have p0 : wz.cell? ⟨b6, 0, none⟩ = some (.slice A1 n1 c1) := (AB.out.under hz AB.out.lt).cell 0; have q2 : wz.cell? ⟨b, o + k * 4 + 2, none⟩ = some (.int .u64 (x.2.1 : Int)) := (hz.cell (p := ⟨b, o + k * 4 + 2, none⟩) hbw).trans (R1.out 2 _ rfl); have q3 : wz.cell? ⟨b, o + k * 4 + 3, none⟩ = some (.int .i64 x.2.2) := (hz.cell (p := ⟨b, o + k * 4 + 3, none⟩) hbw).trans (R1.out 3 _ rfl); go_simp <;> with_reducible rfl)
      refine wpAnyH_ready (rs := [18]) (by kernel_rfl) (by simp) ?_
      refine AllReadyH.cons rfl (fun K hK => ?_) AllReadyH.nil
      go_simp
      refine (HFR.out _ hS).mono ?_
      rintro e y9 ⟨rfl, hb9⟩
      have hb : True := trivial
      have B9 := Lib.hid (hS.trans (hb9.mono hS.size))
      clear hb9
      refine hK.out _ _ (B9.out) (fun hT => ?_)
      clear hK hb hS
      have hS := hT
      clear hT
      refine tk 19 hS ?_
      refine wpAnyH_done (by kernel_rfl) ?_ _
      obtain ⟨wd, hwd⟩ : ∃ wd, wd = y9 := ⟨_, rfl⟩
      subst hwd
      have BD := Lib.hid hS
      have ABD := Lib.hid (AB.out.under hS AB.out.lt)
      have A3D := Lib.hid (A3R.out.under hS A3R.out.lt)
      have RD : Hid (wd.rangeAt b (o + k * 4) (rcV x)) := fun j v hv => (hS.cell (p := ⟨b, o + k * 4 + j, none⟩) hbw).trans (R1.out j v hv)
      have hbd : b < wd.heap.size := Nat.lt_of_lt_of_le hbw hS.size
      clear hS
      cases fr
      · have HE : Hid (wakeR u0 r = (u, W)) := by
          show _ = _
          unfold wakeR
          rw [HQE.out]
          exact HS.out.fin (.inr ⟨hkl, by rw [HX.out]; exact HFE.out⟩)
        have A4D := Lib.hid ((A4Q.out.mod HS.out.mod (by omega)).under BD.out (A4Q.out.mod HS.out.mod (by omega)).lt)
        have HRTD := Lib.hid (HRT.out.kept (Mod.of_below BD.out _))
        have OWD := Lib.hid (own_mod HS.out.own (Mod.of_below BD.out (fun _ => False)) (fun _ _ h => h))
        have HMD := Lib.hid (HS.out.mod.sub (Mod.of_below BD.out (fun _ => False)) (fun _ hx => hx.elim))
        go_wp2_with (first
          | refine wpList_load_at 28 57 (.tmp 6) rfl rfl rfl b6 rfl _ 2 strT rfl ABD.out ?_
          | (refine wpList_store_at 28 (.tmp 4) (.tmp 57) rfl rfl rfl b4 rfl (rtA A1 A2 n1 c1 n2 c2) (rtA none none 0 0 0 0) 2 rfl strT rfl rfl (rtA_one _ _ _ _ _ _) A4D.out ?_; intro w9 ha9 hg9))
        refine bodyPost_ret (v := .tuple #[.agg (rtA A1 A2 n1 c1 n2 c2), .slice AW k cW]) ?_ rfl ?_
        · exact results_at2 (p := 4) (t := 5) (g := b4) (n := 2) (cs := rtA A1 A2 n1 c1 n2 c2) rfl ha9 strT rfl rfl rfl
        · have e : wakeR u0 r = (u, W) := HE.out
          have hwl := HS.out.wl
          have h46 := H46.out
          have hgm := grown_mod hg9
          rw [e]
          refine ⟨A1, n1, c1, A2, n2, c2, _, rfl, ?_, ?_, ?_⟩
          · refine ((HRTD.out.wide (Y := fun j => j = b4 ∨ (X0 j ∨ (Value.slice AW k cW).ownBlock = some j)) (fun j _ hj => ?_)).kept (hgm.mono fun j _ hj => .inl hj)).wide (fun j _ hj => .inr hj)
            rcases hj with hj | hj | hj
            · exact .inl (.inl (.inr (by omega)))
            · exact .inl (.inr hj)
            · exact .inr hj
          · have h5 := OWD.out.kept hg9 (.inr (fun e => by
              have := HS.out.own.lt b4 e
              omega))
            have h6 := own_base (base' := w.heap.size) h5 (by have := HBQ.out.size; omega)
            show World.ownsRow _ _ _ _ _ W.length (UC W)
            rw [hwl] at h6 ⊢
            exact h6
          · refine ((Mod.below HBQ.out HMD.out (fun j hj => by omega) HBQ.out.size)).grown hg9 (by have := HBQ.out.size; have := HMD.out.size; omega) (fun j hj => by injection hj with hj; omega)
      · obtain ⟨ng, hng⟩ : ∃ ng, (grantR u.held x).length = ng := ⟨_, rfl⟩
        obtain ⟨nd, hnd⟩ : ∃ nd, (dropR r u.queue).length = nd := ⟨_, rfl⟩
        have HGR : Hid (∀ Wx, Below wd.heap.size wd Wx → Calls Tryz.prog 55 #[.slice A1 n1 c1, .agg (rcA x)] Wx (BuN Wx (grantR u.held x) ng)) := fun Wx hW =>
          (rGrant_any A1 n1 c1 u.held x Wx ((lz_wide (Y := fun _ => False) HRT.out.h (fun _ _ h => h.elim)).below (BD.out.trans (hW.mono BD.out.size))) (by omega)).mono fun _ _ h => h.named hng
        have HDR : Hid (∀ Wx, Below wd.heap.size wd Wx → Calls Tryz.prog 77 #[.slice A2 n2 c2, .agg (rsA r)] Wx (BuN Wx (dropR r u.queue) nd)) := fun Wx hW =>
          (rDrop_any A2 n2 c2 u.queue r Wx ((lz_wide (Y := fun _ => False) HRT.out.q (fun _ _ h => h.elim)).below (BD.out.trans (hW.mono BD.out.size))) (by omega)).mono fun _ _ h => h.named hnd
        clear hng hnd
        go_upto_region 7 with fail
        refine wp_region_held_drew (S := fun wz => At wz b3 33 (rsA r) ∧ wz.rangeAt b (o + k * 4) (rcV x)) (by kernel_rfl) ⟨A3D.out, RD.out⟩ (fun hS => ?_)
        refine tk 0 hS ?_
        refine tk 2 hS ?_
        refine tk 3 hS ?_
        refine tk 4 hS ?_
        refine tk (v := .agg (rcA x)) 5 hS ?_ (hy := by intro wz hz; exact exec_load_in 72 (.tmp 41) rfl b (o + k * 4) rfl (rcV x) 4 strrC rfl hz.2)
        refine tk 7 hS ?_
        refine tk (v := .agg (rsA r)) 9 hS ?_ (hy := by intro wz hz; exact exec_load_at 33 (.tmp 3) rfl b3 rfl (rsA r) 2 strR rfl hz.1)
        have C0 := Lib.hid ((Below.refl wd.heap.size wd).drew)
        refine wpAnyH_ready (rs := [1, 8]) (by kernel_rfl) (by simp) ?_
        refine AllReadyH.cons rfl (fun K hK => ?_) (AllReadyH.cons rfl (fun K hK => ?_) AllReadyH.nil)
        · have pf : wd.drew.cell? ⟨b6, 0, none⟩ = some (.slice A1 n1 c1) := (ABD.out.under C0.out ABD.out.lt).cell 0
          go_simp
          clear pf
          refine hK.out _ _ (hS) (fun hT => ?_)
          clear hK hS
          have hS := hT
          clear hT
          refine wpAnyH_ready (rs := [6, 8]) (by kernel_rfl) (by simp) ?_
          refine AllReadyH.cons rfl (fun K hK => ?_) (AllReadyH.cons rfl (fun K hK => ?_) AllReadyH.nil)
          · go_simp
            refine (HGR.out _ C0.out).mono ?_
            rintro e y1 ⟨Ag, cg, rfl, hog, hbg⟩
            have Og := Lib.hid hog
            have C1 := Lib.hid (C0.out.trans (hbg.mono C0.out.size))
            have Zg := Lib.hid C0.out.size
            have Bg := Lib.hid hbg
            clear hog hbg
            refine hK.out _ _ (⟨A3D.out.under C1.out A3D.out.lt, fun j v hv => (C1.out.cell (p := ⟨b, o + k * 4 + j, none⟩) hbd).trans (RD.out j v hv)⟩) (fun hT => ?_)
            clear hK hS
            have hS := hT
            clear hT
            refine wpAnyH_ready (rs := [8]) (by kernel_rfl) (by simp) ?_
            refine AllReadyH.cons rfl (fun K hK => ?_) AllReadyH.nil
            have pf : y1.cell? ⟨b6, 1, none⟩ = some (.slice A2 n2 c2) := (ABD.out.under C1.out ABD.out.lt).cell 1
            go_simp
            clear pf
            refine hK.out _ _ (hS) (fun hT => ?_)
            clear hK hS
            have hS := hT
            clear hT
            refine wpAnyH_ready (rs := [10]) (by kernel_rfl) (by simp) ?_
            refine AllReadyH.cons rfl (fun K hK => ?_) AllReadyH.nil
            go_simp
            refine (HDR.out _ C1.out).mono ?_
            rintro e y2 ⟨Ad, cd, rfl, hod, hbd⟩
            have Od := Lib.hid hod
            have C2 := Lib.hid (C1.out.trans (hbd.mono C1.out.size))
            have Zd := Lib.hid C1.out.size
            have Bd := Lib.hid hbd
            clear hod hbd
            refine hK.out _ _ (⟨A3D.out.under C2.out A3D.out.lt, fun j v hv => (C2.out.cell (p := ⟨b, o + k * 4 + j, none⟩) hbd).trans (RD.out j v hv)⟩) (fun hT => ?_)
            clear hK hS
            have hS := hT
            clear hT
            refine tk 11 hS ?_
            have OG2 := Lib.hid (own_base (own_under Og.out Bd.out (Nat.le_refl _)) Zg.out)
            have OD2 := Lib.hid (own_base (Od.out) Zd.out)
            have BY := C2
            have ABY := Lib.hid (ABD.out.under C2.out ABD.out.lt)
            refine wpAnyH_ready (rs := [12]) (by kernel_rfl) (by simp) ?_
            refine AllReadyH.cons rfl (fun K hK => ?_) AllReadyH.nil
            rw [if_pos (by rfl)]
            refine wp_store_at 28 (.tmp 6) (.tmp 48) rfl rfl b6 rfl (rtA Ag Ad ng cg nd cd) (rtA A1 A2 n1 c1 n2 c2) 2 rfl strT rfl rfl (rtA_one _ _ _ _ _ _) ABY.out ?_
            intro w9 ha9 hg9
            have A69 := Lib.hid ha9
            have G69 := Lib.hid hg9
            have R9 : Hid (w9.rangeAt b (o + k * 4) (rcV x)) := fun j v hv => (World.cell?_of_block (a := ⟨b, o + k * 4 + j, none⟩) (hg9.block b (Nat.lt_of_lt_of_le hbd BY.out.size) (fun e => hb6b (Option.some.inj e)))).trans ((BY.out.cell (p := ⟨b, o + k * 4 + j, none⟩) hbd).trans (RD.out j v hv))
            have A39 := Lib.hid ((A3D.out.under BY.out A3D.out.lt).grown hg9 (fun e => hb36 (Option.some.inj e)))
            clear ha9 hg9
            refine hK.out _ _ (⟨A39.out, R9.out⟩) (fun hT => ?_)
            clear hK hS
            have hS := hT
            clear hT
            refine wpAnyH_done (by kernel_rfl) ?_ _
            clear hS
            have q2 : w9.cell? ⟨b, o + k * 4 + 2, none⟩ = some (.int .u64 (x.2.1 : Int)) := R9.out 2 _ rfl
            have ow9 := (own_mod HS.out.own (Mod.of_below (BD.out.trans (BY.out.mono BD.out.size)) (fun _ => False)) (fun _ _ h => h)).kept G69.out (.inr (fun e => by have := (HS.out.own.lt b6 e).1; omega))
            rw [HS.out.wl] at ow9
            have OWN := Lib.hid (own_under ow9 ((Below.refl _ w9).alloc (Nat.le_refl _) (.cells #[.int .u64 (x.2.1 : Int)] 31)) (Nat.le_refl _))
            have LN := Lib.hid (lies_new w9 (.int .u64 (x.2.1 : Int)) 31)
            have HSZ : Hid (zq.heap.size ≤ (w9.alloc (.cells #[.int .u64 (x.2.1 : Int)] 31)).heap.size) := by have h1 := HS.out.mod.size; have h2 := BD.out.size; have h3 := BY.out.size; have h4 := G69.out.size; show _ ≤ _; simp; omega
            clear ow9
            obtain ⟨i0, hi0, hz0, hz1, hz2⟩ := u_info
            go_wp2_with (at_builtin; refine wpList_app2 _ rfl (.tmp 49) (.tmp 55) 37 rfl zq.heap.size 31 i0 (.int .u64 0) 1 8 Tryz.underlying37 hi0 hz0 hz1 hz2 rfl (by omega) (.slice AW k cW) k (UC W) rfl OWN.out (w9.heap.size + 1) (some ⟨w9.heap.size, 0, none⟩) 1 1 [.int .u64 (x.2.1 : Int)] rfl LN.out (fun u hu => by simp at hu; rw [hu]; rfl) (by omega) (by simp only [maxLen]; omega) (by omega) HSZ.out ?_; intro v5 w5 ho5 hg5 hb5)
            obtain ⟨A5, c5, rfl, _⟩ := own_slice ho5
            have hk1 : (W ++ [x.2.1]).length = k + 1 := by rw [List.length_append, HS.out.wl]; rfl
            have hn := HS.out.next hbq6 HXQ.out hkl (by rw [HX.out]; exact HFE.out) (BD.out.trans (BY.out.mono BD.out.size)) (by rw [HX.out]; exact own_base OG2.out BD.out.size) (own_base OD2.out BD.out.size) A69.out G69.out (.cells #[.int .u64 (x.2.1 : Int)] 31) (v5 := .slice A5 (k + 1) c5) (w5 := w5) (by rw [HX.out, hk1]; exact ho5) hg5 hb5
            rw [HX.out] at hn
            exact ⟨⟨k + 1, _, _, A5, c5, by omega, rfl, by go_num, hn⟩, by simp [intOf]; omega⟩
          · have pf : wd.drew.cell? ⟨b6, 1, none⟩ = some (.slice A2 n2 c2) := (ABD.out.under C0.out ABD.out.lt).cell 1
            go_simp
            clear pf
            refine hK.out _ _ (hS) (fun hT => ?_)
            clear hK hS
            have hS := hT
            clear hT
            refine wpAnyH_ready (rs := [6]) (by kernel_rfl) (by simp) ?_
            refine AllReadyH.cons rfl (fun K hK => ?_) AllReadyH.nil
            go_simp
            refine (HGR.out _ C0.out).mono ?_
            rintro e y4 ⟨Ag, cg, rfl, hog, hbg⟩
            have Og := Lib.hid hog
            have C4 := Lib.hid (C0.out.trans (hbg.mono C0.out.size))
            have Zg := Lib.hid C0.out.size
            have Bg := Lib.hid hbg
            clear hog hbg
            refine hK.out _ _ (⟨A3D.out.under C4.out A3D.out.lt, fun j v hv => (C4.out.cell (p := ⟨b, o + k * 4 + j, none⟩) hbd).trans (RD.out j v hv)⟩) (fun hT => ?_)
            clear hK hS
            have hS := hT
            clear hT
            refine wpAnyH_ready (rs := [10]) (by kernel_rfl) (by simp) ?_
            refine AllReadyH.cons rfl (fun K hK => ?_) AllReadyH.nil
            go_simp
            refine (HDR.out _ C4.out).mono ?_
            rintro e y5 ⟨Ad, cd, rfl, hod, hbd⟩
            have Od := Lib.hid hod
            have C5 := Lib.hid (C4.out.trans (hbd.mono C4.out.size))
            have Zd := Lib.hid C4.out.size
            have Bd := Lib.hid hbd
            clear hod hbd
            refine hK.out _ _ (⟨A3D.out.under C5.out A3D.out.lt, fun j v hv => (C5.out.cell (p := ⟨b, o + k * 4 + j, none⟩) hbd).trans (RD.out j v hv)⟩) (fun hT => ?_)
            clear hK hS
            have hS := hT
            clear hT
            refine tk 11 hS ?_
            have OG2 := Lib.hid (own_base (own_under Og.out Bd.out (Nat.le_refl _)) Zg.out)
            have OD2 := Lib.hid (own_base (Od.out) Zd.out)
            have BY := C5
            have ABY := Lib.hid (ABD.out.under C5.out ABD.out.lt)
            refine wpAnyH_ready (rs := [12]) (by kernel_rfl) (by simp) ?_
            refine AllReadyH.cons rfl (fun K hK => ?_) AllReadyH.nil
            rw [if_pos (by rfl)]
            refine wp_store_at 28 (.tmp 6) (.tmp 48) rfl rfl b6 rfl (rtA Ag Ad ng cg nd cd) (rtA A1 A2 n1 c1 n2 c2) 2 rfl strT rfl rfl (rtA_one _ _ _ _ _ _) ABY.out ?_
            intro w9 ha9 hg9
            have A69 := Lib.hid ha9
            have G69 := Lib.hid hg9
            have R9 : Hid (w9.rangeAt b (o + k * 4) (rcV x)) := fun j v hv => (World.cell?_of_block (a := ⟨b, o + k * 4 + j, none⟩) (hg9.block b (Nat.lt_of_lt_of_le hbd BY.out.size) (fun e => hb6b (Option.some.inj e)))).trans ((BY.out.cell (p := ⟨b, o + k * 4 + j, none⟩) hbd).trans (RD.out j v hv))
            have A39 := Lib.hid ((A3D.out.under BY.out A3D.out.lt).grown hg9 (fun e => hb36 (Option.some.inj e)))
            clear ha9 hg9
            refine hK.out _ _ (⟨A39.out, R9.out⟩) (fun hT => ?_)
            clear hK hS
            have hS := hT
            clear hT
            refine wpAnyH_done (by kernel_rfl) ?_ _
            clear hS
            have q2 : w9.cell? ⟨b, o + k * 4 + 2, none⟩ = some (.int .u64 (x.2.1 : Int)) := R9.out 2 _ rfl
            have ow9 := (own_mod HS.out.own (Mod.of_below (BD.out.trans (BY.out.mono BD.out.size)) (fun _ => False)) (fun _ _ h => h)).kept G69.out (.inr (fun e => by have := (HS.out.own.lt b6 e).1; omega))
            rw [HS.out.wl] at ow9
            have OWN := Lib.hid (own_under ow9 ((Below.refl _ w9).alloc (Nat.le_refl _) (.cells #[.int .u64 (x.2.1 : Int)] 31)) (Nat.le_refl _))
            have LN := Lib.hid (lies_new w9 (.int .u64 (x.2.1 : Int)) 31)
            have HSZ : Hid (zq.heap.size ≤ (w9.alloc (.cells #[.int .u64 (x.2.1 : Int)] 31)).heap.size) := by have h1 := HS.out.mod.size; have h2 := BD.out.size; have h3 := BY.out.size; have h4 := G69.out.size; show _ ≤ _; simp; omega
            clear ow9
            obtain ⟨i0, hi0, hz0, hz1, hz2⟩ := u_info
            go_wp2_with (at_builtin; refine wpList_app2 _ rfl (.tmp 49) (.tmp 55) 37 rfl zq.heap.size 31 i0 (.int .u64 0) 1 8 Tryz.underlying37 hi0 hz0 hz1 hz2 rfl (by omega) (.slice AW k cW) k (UC W) rfl OWN.out (w9.heap.size + 1) (some ⟨w9.heap.size, 0, none⟩) 1 1 [.int .u64 (x.2.1 : Int)] rfl LN.out (fun u hu => by simp at hu; rw [hu]; rfl) (by omega) (by simp only [maxLen]; omega) (by omega) HSZ.out ?_; intro v5 w5 ho5 hg5 hb5)
            obtain ⟨A5, c5, rfl, _⟩ := own_slice ho5
            have hk1 : (W ++ [x.2.1]).length = k + 1 := by rw [List.length_append, HS.out.wl]; rfl
            have hn := HS.out.next hbq6 HXQ.out hkl (by rw [HX.out]; exact HFE.out) (BD.out.trans (BY.out.mono BD.out.size)) (by rw [HX.out]; exact own_base OG2.out BD.out.size) (own_base OD2.out BD.out.size) A69.out G69.out (.cells #[.int .u64 (x.2.1 : Int)] 31) (v5 := .slice A5 (k + 1) c5) (w5 := w5) (by rw [HX.out, hk1]; exact ho5) hg5 hb5
            rw [HX.out] at hn
            exact ⟨⟨k + 1, _, _, A5, c5, by omega, rfl, by go_num, hn⟩, by simp [intOf]; omega⟩
        · have pf : wd.drew.cell? ⟨b6, 1, none⟩ = some (.slice A2 n2 c2) := (ABD.out.under C0.out ABD.out.lt).cell 1
          go_simp
          clear pf
          refine hK.out _ _ (hS) (fun hT => ?_)
          clear hK hS
          have hS := hT
          clear hT
          refine wpAnyH_ready (rs := [1]) (by kernel_rfl) (by simp) ?_
          refine AllReadyH.cons rfl (fun K hK => ?_) AllReadyH.nil
          have pf : wd.drew.cell? ⟨b6, 0, none⟩ = some (.slice A1 n1 c1) := (ABD.out.under C0.out ABD.out.lt).cell 0
          go_simp
          clear pf
          refine hK.out _ _ (hS) (fun hT => ?_)
          clear hK hS
          have hS := hT
          clear hT
          refine wpAnyH_ready (rs := [6]) (by kernel_rfl) (by simp) ?_
          refine AllReadyH.cons rfl (fun K hK => ?_) AllReadyH.nil
          go_simp
          refine (HGR.out _ C0.out).mono ?_
          rintro e y7 ⟨Ag, cg, rfl, hog, hbg⟩
          have Og := Lib.hid hog
          have C7 := Lib.hid (C0.out.trans (hbg.mono C0.out.size))
          have Zg := Lib.hid C0.out.size
          have Bg := Lib.hid hbg
          clear hog hbg
          refine hK.out _ _ (⟨A3D.out.under C7.out A3D.out.lt, fun j v hv => (C7.out.cell (p := ⟨b, o + k * 4 + j, none⟩) hbd).trans (RD.out j v hv)⟩) (fun hT => ?_)
          clear hK hS
          have hS := hT
          clear hT
          refine wpAnyH_ready (rs := [10]) (by kernel_rfl) (by simp) ?_
          refine AllReadyH.cons rfl (fun K hK => ?_) AllReadyH.nil
          go_simp
          refine (HDR.out _ C7.out).mono ?_
          rintro e y8 ⟨Ad, cd, rfl, hod, hbd⟩
          have Od := Lib.hid hod
          have C8 := Lib.hid (C7.out.trans (hbd.mono C7.out.size))
          have Zd := Lib.hid C7.out.size
          have Bd := Lib.hid hbd
          clear hod hbd
          refine hK.out _ _ (⟨A3D.out.under C8.out A3D.out.lt, fun j v hv => (C8.out.cell (p := ⟨b, o + k * 4 + j, none⟩) hbd).trans (RD.out j v hv)⟩) (fun hT => ?_)
          clear hK hS
          have hS := hT
          clear hT
          refine tk 11 hS ?_
          have OG2 := Lib.hid (own_base (own_under Og.out Bd.out (Nat.le_refl _)) Zg.out)
          have OD2 := Lib.hid (own_base (Od.out) Zd.out)
          have BY := C8
          have ABY := Lib.hid (ABD.out.under C8.out ABD.out.lt)
          refine wpAnyH_ready (rs := [12]) (by kernel_rfl) (by simp) ?_
          refine AllReadyH.cons rfl (fun K hK => ?_) AllReadyH.nil
          rw [if_pos (by rfl)]
          refine wp_store_at 28 (.tmp 6) (.tmp 48) rfl rfl b6 rfl (rtA Ag Ad ng cg nd cd) (rtA A1 A2 n1 c1 n2 c2) 2 rfl strT rfl rfl (rtA_one _ _ _ _ _ _) ABY.out ?_
          intro w9 ha9 hg9
          have A69 := Lib.hid ha9
          have G69 := Lib.hid hg9
          have R9 : Hid (w9.rangeAt b (o + k * 4) (rcV x)) := fun j v hv => (World.cell?_of_block (a := ⟨b, o + k * 4 + j, none⟩) (hg9.block b (Nat.lt_of_lt_of_le hbd BY.out.size) (fun e => hb6b (Option.some.inj e)))).trans ((BY.out.cell (p := ⟨b, o + k * 4 + j, none⟩) hbd).trans (RD.out j v hv))
          have A39 := Lib.hid ((A3D.out.under BY.out A3D.out.lt).grown hg9 (fun e => hb36 (Option.some.inj e)))
          clear ha9 hg9
          refine hK.out _ _ (⟨A39.out, R9.out⟩) (fun hT => ?_)
          clear hK hS
          have hS := hT
          clear hT
          refine wpAnyH_done (by kernel_rfl) ?_ _
          clear hS
          have q2 : w9.cell? ⟨b, o + k * 4 + 2, none⟩ = some (.int .u64 (x.2.1 : Int)) := R9.out 2 _ rfl
          have ow9 := (own_mod HS.out.own (Mod.of_below (BD.out.trans (BY.out.mono BD.out.size)) (fun _ => False)) (fun _ _ h => h)).kept G69.out (.inr (fun e => by have := (HS.out.own.lt b6 e).1; omega))
          rw [HS.out.wl] at ow9
          have OWN := Lib.hid (own_under ow9 ((Below.refl _ w9).alloc (Nat.le_refl _) (.cells #[.int .u64 (x.2.1 : Int)] 31)) (Nat.le_refl _))
          have LN := Lib.hid (lies_new w9 (.int .u64 (x.2.1 : Int)) 31)
          have HSZ : Hid (zq.heap.size ≤ (w9.alloc (.cells #[.int .u64 (x.2.1 : Int)] 31)).heap.size) := by have h1 := HS.out.mod.size; have h2 := BD.out.size; have h3 := BY.out.size; have h4 := G69.out.size; show _ ≤ _; simp; omega
          clear ow9
          obtain ⟨i0, hi0, hz0, hz1, hz2⟩ := u_info
          go_wp2_with (at_builtin; refine wpList_app2 _ rfl (.tmp 49) (.tmp 55) 37 rfl zq.heap.size 31 i0 (.int .u64 0) 1 8 Tryz.underlying37 hi0 hz0 hz1 hz2 rfl (by omega) (.slice AW k cW) k (UC W) rfl OWN.out (w9.heap.size + 1) (some ⟨w9.heap.size, 0, none⟩) 1 1 [.int .u64 (x.2.1 : Int)] rfl LN.out (fun u hu => by simp at hu; rw [hu]; rfl) (by omega) (by simp only [maxLen]; omega) (by omega) HSZ.out ?_; intro v5 w5 ho5 hg5 hb5)
          obtain ⟨A5, c5, rfl, _⟩ := own_slice ho5
          have hk1 : (W ++ [x.2.1]).length = k + 1 := by rw [List.length_append, HS.out.wl]; rfl
          have hn := HS.out.next hbq6 HXQ.out hkl (by rw [HX.out]; exact HFE.out) (BD.out.trans (BY.out.mono BD.out.size)) (by rw [HX.out]; exact own_base OG2.out BD.out.size) (own_base OD2.out BD.out.size) A69.out G69.out (.cells #[.int .u64 (x.2.1 : Int)] 31) (v5 := .slice A5 (k + 1) c5) (w5 := w5) (by rw [HX.out, hk1]; exact ho5) hg5 hb5
          rw [HX.out] at hn
          exact ⟨⟨k + 1, _, _, A5, c5, by omega, rfl, by go_num, hn⟩, by simp [intOf]; omega⟩
    · obtain rfl : k = n := by omega
      have HE : Hid (wakeR u0 r = (u, W)) := by
        show _ = _
        unfold wakeR
        rw [HQE.out]
        exact HS.out.fin (.inl hlen.symm)
      go_upto_region 5 with fail
      refine wp_region_held_drew (S := Below wr.heap.size wr) (by kernel_rfl) ((Below.refl _ wr).drew) (fun hS => ?_)
      refine tk 0 hS ?_
      refine tk 1 hS ?_
      refine tk 2 hS ?_
      refine tk 3 hS ?_
      refine tk 4 hS ?_
      refine sk 5 hS ?_
      refine sk 6 hS ?_
      refine sk 7 hS ?_
      refine sk 8 hS ?_
      refine sk 9 hS ?_
      refine sk 10 hS ?_
      refine sk 11 hS ?_
      refine sk 12 hS ?_
      refine sk 13 hS ?_
      refine sk 14 hS ?_
      refine sk 15 hS ?_
      refine sk 16 hS ?_
      refine sk 17 hS ?_
      refine sk 18 hS ?_
      refine tk 19 hS ?_
      refine wpAnyH_done (by kernel_rfl) ?_ _
      have BD := Lib.hid hS
      have ABD := Lib.hid (AB.out.under hS AB.out.lt)
      generalize wr.drew = wd at BD ABD ⊢
      clear hS
      have A4D := Lib.hid ((A4Q.out.mod HS.out.mod (by omega)).under BD.out (A4Q.out.mod HS.out.mod (by omega)).lt)
      have HRTD := Lib.hid (HRT.out.kept (Mod.of_below BD.out _))
      have OWD := Lib.hid (own_mod HS.out.own (Mod.of_below BD.out (fun _ => False)) (fun _ _ h => h))
      have HMD := Lib.hid (HS.out.mod.sub (Mod.of_below BD.out (fun _ => False)) (fun _ hx => hx.elim))
      go_wp2_with (first
        | refine wpList_load_at 28 57 (.tmp 6) rfl rfl rfl b6 rfl _ 2 strT rfl ABD.out ?_
        | (refine wpList_store_at 28 (.tmp 4) (.tmp 57) rfl rfl rfl b4 rfl (rtA A1 A2 n1 c1 n2 c2) (rtA none none 0 0 0 0) 2 rfl strT rfl rfl (rtA_one _ _ _ _ _ _) A4D.out ?_; intro w9 ha9 hg9))
      refine bodyPost_ret (v := .tuple #[.agg (rtA A1 A2 n1 c1 n2 c2), .slice AW k cW]) ?_ rfl ?_
      · exact results_at2 (p := 4) (t := 5) (g := b4) (n := 2) (cs := rtA A1 A2 n1 c1 n2 c2) rfl ha9 strT rfl rfl rfl
      · have e : wakeR u0 r = (u, W) := HE.out
        have hwl := HS.out.wl
        have h46 := H46.out
        have hgm := grown_mod hg9
        rw [e]
        refine ⟨A1, n1, c1, A2, n2, c2, _, rfl, ?_, ?_, ?_⟩
        · refine ((HRTD.out.wide (Y := fun j => j = b4 ∨ (X0 j ∨ (Value.slice AW k cW).ownBlock = some j)) (fun j _ hj => ?_)).kept (hgm.mono fun j _ hj => .inl hj)).wide (fun j _ hj => .inr hj)
          rcases hj with hj | hj | hj
          · exact .inl (.inl (.inr (by omega)))
          · exact .inl (.inr hj)
          · exact .inr hj
        · have h5 := OWD.out.kept hg9 (.inr (fun e => by
            have := HS.out.own.lt b4 e
            omega))
          have h6 := own_base (base' := w.heap.size) h5 (by have := HBQ.out.size; omega)
          show World.ownsRow _ _ _ _ _ W.length (UC W)
          rw [hwl] at h6 ⊢
          exact h6
        · refine ((Mod.below HBQ.out HMD.out (fun j hj => by omega) HBQ.out.size)).grown hg9 (by have := HBQ.out.size; have := HMD.out.size; omega) (fun j hj => by injection hj with hj; omega)
end Go.Proofs.YthbifccankfngaaGreatDoor
