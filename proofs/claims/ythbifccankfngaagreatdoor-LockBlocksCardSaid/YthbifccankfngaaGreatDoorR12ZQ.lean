/-
  The walk of the reference's Release.
  Conditions: at most 400 claims of both kinds together.
-/
import Derived.Test.YthbifccankfngaaGreatDoorR10ZQ
import Derived.Test.YthbifccankfngaaGreatDoorR11ZQ
namespace Go.Proofs.YthbifccankfngaaGreatDoor
open Go.RowKit Go.Shelf
attribute [local go_sem] Oper.semAt_some
set_option maxRecDepth 20000

theorem rt_off {P Q : Nat → Prop} {n j : Nat} (hj : j < n) (h : (P j ∨ j = n) ∨ Q j) : P j ∨ Q j := by
  rcases h with (h | h) | h
  · exact .inl h
  · omega
  · exact .inr h
/-- The box beside what Wake left is written. -/
theorem rk_end {y z w9 : World} {X : Nat → Prop} {p : TR × List Nat} {A3 A4 : Option Addr} {n3 c3 n4 c4 b13 : Nat} {v : Value} (hb : Below y.heap.size y z) (ge : y.heap.size ≤ b13) (ha : At w9 b13 28 (rtA A3 A4 n3 c3 n4 c4)) (hg : z.grownBy w9 (some b13))
    (hrt : RtV (fun k => (X k ∨ k = b13) ∨ v.ownBlock = some k) z A3 n3 A4 n4 p.1) (ho : z.ownsRow y.heap.size 31 1 v p.2.length (UC p.2)) (hv : v.ownBlock ≠ some b13) : RkC y X p A3 n3 c3 A4 n4 c4 b13 v w9 := by
  refine ⟨ge, ha, ?_, ho.kept hg ?_, hb.grown hg hb.size (fun j hj => by injection hj with hj; omega)⟩
  · refine (hrt.kept ((grown_mod hg).mono fun j _ hj => .inl (.inr hj))).wide (fun j _ hj => ?_)
    rcases hj with hj | hj
    · exact .inl (.inl hj)
    · exact .inr hj
  · cases h : v.ownBlock with
    | none => exact .inl rfl
    | some j => exact .inr (fun e => hv (by rw [h, e]))
set_option maxHeartbeats 12800000 in
theorem rRelease_any (A1 A2 : Option Addr) (n1 c1 n2 c2 : Nat) (u : TR) (t : Nat) (w : World) (X0 : Nat → Prop) (hX0 : ∀ j, X0 j → j < w.heap.size) (h : RtV X0 w A1 n1 A2 n2 u) (N : Nat) (hs : u.held.length + u.queue.length ≤ N) (hN : N ≤ 400) :
    Calls Tryz.prog 25 #[.agg (rtA A1 A2 n1 c1 n2 c2), .int .u64 (t : Int)] w (WakR w X0 (releaseR u t)) := by
  have hl1 := h.h.rclen
  have hl2 := h.q.rclen
  have hnn : n1 + n2 ≤ N := by omega
  obtain ⟨b2, hb2⟩ : ∃ b2, w.heap.size = b2 := ⟨_, rfl⟩
  obtain ⟨z, hz⟩ : ∃ z, ((w.alloc (.cells (rtA A1 A2 n1 c1 n2 c2) 28)).alloc (.cells (rtA none none 0 0 0 0) 28)).alloc (.cells (rtA none none 0 0 0 0) 28) = z := ⟨_, rfl⟩
  have hbel : Below w.heap.size w z := hz ▸ (((Below.refl _ w).alloc (Nat.le_refl _) _).alloc (by simp) _).alloc (by simp; omega) _
  have A2Z : Hid (At z b2 28 (rtA A1 A2 n1 c1 n2 c2)) := by
    have := ((At.new w 28 (rtA A1 A2 n1 c1 n2 c2)).alloc (.cells (rtA none none 0 0 0 0) 28)).alloc (.cells (rtA none none 0 0 0 0) 28)
    rw [hz, hb2] at this
    exact this
  have A4Z : Hid (At z (b2 + 1) 28 (rtA none none 0 0 0 0)) := by
    have := (At.new (w.alloc (.cells (rtA A1 A2 n1 c1 n2 c2) 28)) 28 (rtA none none 0 0 0 0)).alloc (.cells (rtA none none 0 0 0 0) 28)
    rw [hz] at this
    simp only [World.size_alloc, hb2] at this
    exact this
  have A6Z : Hid (At z (b2 + 1 + 1) 28 (rtA none none 0 0 0 0)) := by
    have := At.new ((w.alloc (.cells (rtA A1 A2 n1 c1 n2 c2) 28)).alloc (.cells (rtA none none 0 0 0 0) 28)) 28 (rtA none none 0 0 0 0)
    rw [hz] at this
    simp only [World.size_alloc, hb2] at this
    exact this
  have HB := Lib.hid hbel
  have HZ := Lib.hid hz
  have H0 := Lib.hid h
  have HX0 := Lib.hid hX0
  have HS0 := Lib.hid hs
  have HBB := Lib.hid hb2
  clear h hs hX0 hbel
  go_enter Tryz.func25, Tryz.ntmps25
  go_upto_region 2 with fail
  have hzz : ((w.alloc (.cells (rtA A1 A2 n1 c1 n2 c2) 28)).alloc (.cells #[.slice none 0 0, .slice none 0 0] 28)).alloc (.cells #[.slice none 0 0, .slice none 0 0] 28) = z := HZ.out
  try rw [hzz]
  try rw [hb2]
  clear hz hzz
  obtain ⟨b4, hb4⟩ : ∃ b4, b2 + 1 = b4 := ⟨_, rfl⟩
  obtain ⟨b6, hb6e⟩ : ∃ b6, b4 + 1 = b6 := ⟨_, rfl⟩
  rw [hb4] at A4Z A6Z ⊢
  rw [hb6e] at A6Z ⊢
  have hb24 : b2 ≠ b4 := by omega
  have hb26 : b2 ≠ b6 := by omega
  have hb46 : b4 ≠ b6 := by omega
  have HB4 := Lib.hid (show w.heap.size + 1 = b4 ∧ b4 + 1 = b6 by omega)
  have hb6 : b6 < z.heap.size := A6Z.out.lt
  have hw6 : w.heap.size ≤ b6 := by omega
  have hlt2 : b2 < b6 := by omega
  clear hb2 hb4 hb6e
  have HL1 := Lib.hid ((lz_wide (Y := fun k => k = b6) H0.out.h (fun k hk e => by omega)).kept (Mod.of_below HB.out _))
  have ST6 : Hid (GaS z b6 (fun v => #[v, .slice none 0 0]) [] (.slice none 0 0) z) := GaS.start A6Z.out
  go_wp2_with fail
  go_loopw [7] (fun i wr => ∃ (k : Nat) (FM : List Cl) (nM : Nat) (AM : Option Addr) (cM : Nat), k ≤ n1 ∧ i = .int .i64 (k : Int) ∧ Hid (FM.length = nM) ∧ Hid (FM = byT (u.held.take k) t) ∧ Hid (GaS z b6 (fun v => #[v, .slice none 0 0]) FM (.slice AM nM cM) wr)) (fun i _ => n1 - (intOf i).toNat)
  case atStart => exact ⟨0, [], 0, none, 0, Nat.zero_le _, rfl, rfl, rfl, ST6⟩
  case round =>
    obtain ⟨k, FM, nM, AM, cM, hk, rfl, HNM, HFM, HS⟩ := hrel
    have hFn : nM ≤ n1 := by
      rw [← HNM.out, HFM.out]
      exact Nat.le_trans (List.length_filter_le _ _) (by rw [List.length_take]; omega)
    have A2W := Lib.hid (A2Z.out.mod HS.out.mod hb26)
    have p1 : wr.cell? ⟨b2, 0, none⟩ = some (.slice A1 n1 c1) := A2W.out.cell 0
    by_cases hlt : k < n1
    · obtain ⟨b, o, hl, hAe, hbz, hr, hbb6⟩ := HL1.out.rcX hlt
      subst hAe
      have hbw : b < wr.heap.size := Nat.lt_of_lt_of_le hbz HS.out.mod.size
      obtain ⟨x, hx⟩ : ∃ x, u.held[k] = x := ⟨_, rfl⟩
      rw [hx] at hr
      have R1 : Hid (wr.rangeAt b (o + k * 4) (rcV x)) := pl_rangeAt_block hr (HS.out.mod.block b hbz hbb6)
      have q2 : wr.cell? ⟨b, o + k * 4 + 2, none⟩ = some (.int .u64 (x.2.1 : Int)) := R1.out 2 _ rfl
      have HX := Lib.hid hx
      clear hr hx
      obtain ⟨bq, hbq⟩ : ∃ bq, ((x.2.1 : Int) == (t : Int)) = bq := ⟨_, rfl⟩
      have HBQ := Lib.hid (show (x.2.1 == t) = bq by rw [← hbq, nat_beq])
      cases bq
      · go_wp2_with fail
        exact ⟨⟨k + 1, FM, nM, AM, cM, by omega, by go_num, HNM, Lib.hid (by show FM = List.filter _ _; rw [filt_take hl, HX.out, HBQ.out]; exact HFM.out), HS⟩, by simp [intOf]; omega⟩
      · go_upto_region 6 with fail
        have HD : Hid (GaS z b6 (fun v => #[v, .slice none 0 0]) FM (.slice AM nM cM) wr.drew) := HS.out.under ((Below.refl _ wr).drew)
        have OWN : Hid ((wr.drew.alloc (.cells (rcA x) 72)).ownsRow z.heap.size 72 4 (.slice AM nM cM) nM (rcL FM)) := by
          have := own_under HD.out.own ((Below.refl _ wr.drew).alloc (Nat.le_refl _) (.cells (rcA x) 72)) (Nat.le_refl _)
          rw [HNM.out] at this
          exact this
        have LN : Hid (Lies (wr.drew.alloc (.cells (rcA x) 72)) (wr.drew.alloc (.cells (rcA x) 72)).heap.size 4 (some ⟨wr.drew.heap.size, 0, none⟩) 1 (rcL [x])) := lies_rc (At.new wr.drew 72 (rcA x))
        have HSZ : Hid (z.heap.size ≤ (wr.drew.alloc (.cells (rcA x) 72)).heap.size) := by have := HD.out.mod.size; show _ ≤ _; simp at this ⊢; omega
        clear HS hbq p1 q2
        obtain ⟨i0, hi0, hz0, hz1, hz2⟩ := rc_info
        refine wp_region_held_drew (S := fun wz => At wz b2 28 (rtA (some ⟨b, o, none⟩) A2 n1 c1 n2 c2) ∧ wz.rangeAt b (o + k * 4) (rcV x)) (by kernel_rfl) ⟨A2W.out, R1.out⟩ (fun hS => ?_)
        obtain ⟨wd, hwd⟩ : ∃ wd, wr.drew = wd := ⟨_, rfl⟩
        rw [hwd] at hS HD HSZ OWN LN ⊢
        have hbd : b < wd.heap.size := by rw [← hwd]; exact hbw
        clear hwd
        refine tk 0 hS ?_
        refine tk 2 hS ?_
        refine tk 3 hS ?_ (hy := by intro wz hz; have p1 : wz.cell? ⟨b2, 0, none⟩ = some (.slice (some ⟨b, o, none⟩) n1 c1) := hz.1.cell 0; go_simp <;> with_reducible rfl)
        refine tk 4 hS ?_
        refine tk 5 hS ?_
        refine tk (v := .agg (rcA x)) 6 hS ?_ (hy := by intro wz hz; have p1 : wz.cell? ⟨b2, 0, none⟩ = some (.slice (some ⟨b, o, none⟩) n1 c1) := hz.1.cell 0; exact exec_load_in 72 (.tmp 35) rfl b (o + k * 4) rfl (rcV x) 4 strrC rfl hz.2)
        refine wpAnyH_ready (rs := [1, 7]) (by kernel_rfl) (by simp) ?_
        refine AllReadyH.cons rfl (fun K hK => ?_) (AllReadyH.cons rfl (fun K hK => ?_) AllReadyH.nil)
        · have pf : wd.cell? ⟨b6, 0, none⟩ = some (.slice AM nM cM) := HD.out.box.cell 0
          go_simp
          clear pf
          refine hK.out _ _ (hS) (fun hT => ?_)
          clear hK hS
          have hS := hT
          clear hT
          refine wpAnyH_ready (rs := [7]) (by kernel_rfl) (by simp) ?_
          refine AllReadyH.cons rfl (fun K hK => ?_) AllReadyH.nil
          rw [if_pos (by rfl)]
          refine wp_lit1r 37 (.tmp 36) 26 72 4 zcC (rcA x) rfl rfl rfl Tryz.underlying26 (by kernel_rfl) (by omega) (by omega) rfl ?_
          refine hK.out _ _ (⟨hS.1.alloc _, pl_rangeAt_block hS.2 (Below.heap_alloc _ _ _ hbd)⟩) (fun hT => ?_)
          clear hK hS
          have hS := hT
          clear hT
          refine wpAnyH_ready (rs := [8]) (by kernel_rfl) (by simp) ?_
          refine AllReadyH.cons rfl (fun K hK => ?_) AllReadyH.nil
          rw [if_pos (by rfl)]
          refine wp_app2 38 rfl (.tmp 31) (.tmp 37) 26 rfl z.heap.size 72 i0 zcC 4 32 Tryz.underlying26 hi0 hz0 hz1 hz2 rfl (by omega) (.slice AM nM cM) nM (rcL FM) rfl OWN.out _ (some ⟨wd.heap.size, 0, none⟩) 1 1 (rcL [x]) rfl LN.out (rc_one1 [x]) (by omega) (by simp only [maxLen]; omega) (by omega) HSZ.out ?_
          intro v5 w5 ho5 hg5 hb5
          obtain ⟨A5, c5, rfl, _⟩ := own_slice ho5
          have HAP := Lib.hid (HD.out.app (i := 0) (x := x) hb6 (by rw [HNM.out]) ho5 hg5 rfl)
          have hbn : ∀ j, (Value.slice AM nM cM).ownBlock = some j → b2 ≠ j ∧ b ≠ j := fun j hj => by have := (HD.out.own.lt j hj).1; omega
          have q1 : w5.cell? ⟨b6, 0, none⟩ = some (.slice AM nM cM) := HAP.out.1.cell 0
          have f1 : w5.frozen? ⟨b6, 0, none⟩ = false := HAP.out.1.frozen 0
          have hS5 : At w5 b2 28 (rtA (some ⟨b, o, none⟩) A2 n1 c1 n2 c2) ∧ w5.rangeAt b (o + k * 4) (rcV x) := ⟨hS.1.grown hg5 (fun e => (hbn b2 e.symm).1 rfl), pl_rangeAt_block hS.2 (hg5.block b (Nat.lt_of_lt_of_le hbd (by simp)) (fun e => (hbn b e.symm).2 rfl))⟩
          clear ho5 hg5 hb5
          refine hK.out _ _ (hS5) (fun hT => ?_)
          clear hK hS
          have hS := hT
          clear hT
          dsimp only [Act.put]
          refine tk 9 hS ?_
          refine wpAnyH_ready (rs := [10]) (by kernel_rfl) (by simp) ?_
          refine AllReadyH.cons rfl (fun K hK => ?_) AllReadyH.nil
          go_simp
          refine hK.out _ _ (⟨hS5.1.other (p := ⟨b6, 0, none⟩) hb26 _, pl_rangeAt_block hS5.2 (Below.heap_setCell _ _ _ _ hbb6)⟩) (fun hT => ?_)
          clear hK hS
          have hS := hT
          clear hT
          refine wpAnyH_done (by kernel_rfl) ?_ _
          clear hS hS5 hbn
          go_wp2_with fail
          have e5 : (FM ++ [x]).length = nM + 1 := by rw [List.length_append, HNM.out]; rfl
          exact ⟨⟨k + 1, FM ++ [x], nM + 1, A5, c5, by omega, by go_num, Lib.hid e5, Lib.hid (by show FM ++ [x] = List.filter _ _; rw [filt_take hl, HX.out, HBQ.out, HFM.out]; rfl), Lib.hid HAP.out.2⟩, by simp [intOf]; omega⟩
        · rw [if_pos (by rfl)]
          refine wp_lit1r 37 (.tmp 36) 26 72 4 zcC (rcA x) rfl rfl rfl Tryz.underlying26 (by kernel_rfl) (by omega) (by omega) rfl ?_
          refine hK.out _ _ (⟨hS.1.alloc _, pl_rangeAt_block hS.2 (Below.heap_alloc _ _ _ hbd)⟩) (fun hT => ?_)
          clear hK hS
          have hS := hT
          clear hT
          refine wpAnyH_ready (rs := [1]) (by kernel_rfl) (by simp) ?_
          refine AllReadyH.cons rfl (fun K hK => ?_) AllReadyH.nil
          have pf : (wd.alloc (.cells (rcA x) 72)).cell? ⟨b6, 0, none⟩ = some (.slice AM nM cM) := (HD.out.box.alloc _).cell 0
          go_simp
          clear pf
          refine hK.out _ _ (hS) (fun hT => ?_)
          clear hK hS
          have hS := hT
          clear hT
          refine wpAnyH_ready (rs := [8]) (by kernel_rfl) (by simp) ?_
          refine AllReadyH.cons rfl (fun K hK => ?_) AllReadyH.nil
          rw [if_pos (by rfl)]
          refine wp_app2 38 rfl (.tmp 31) (.tmp 37) 26 rfl z.heap.size 72 i0 zcC 4 32 Tryz.underlying26 hi0 hz0 hz1 hz2 rfl (by omega) (.slice AM nM cM) nM (rcL FM) rfl OWN.out _ (some ⟨wd.heap.size, 0, none⟩) 1 1 (rcL [x]) rfl LN.out (rc_one1 [x]) (by omega) (by simp only [maxLen]; omega) (by omega) HSZ.out ?_
          intro v5 w5 ho5 hg5 hb5
          obtain ⟨A5, c5, rfl, _⟩ := own_slice ho5
          have HAP := Lib.hid (HD.out.app (i := 0) (x := x) hb6 (by rw [HNM.out]) ho5 hg5 rfl)
          have hbn : ∀ j, (Value.slice AM nM cM).ownBlock = some j → b2 ≠ j ∧ b ≠ j := fun j hj => by have := (HD.out.own.lt j hj).1; omega
          have q1 : w5.cell? ⟨b6, 0, none⟩ = some (.slice AM nM cM) := HAP.out.1.cell 0
          have f1 : w5.frozen? ⟨b6, 0, none⟩ = false := HAP.out.1.frozen 0
          have hS5 : At w5 b2 28 (rtA (some ⟨b, o, none⟩) A2 n1 c1 n2 c2) ∧ w5.rangeAt b (o + k * 4) (rcV x) := ⟨hS.1.grown hg5 (fun e => (hbn b2 e.symm).1 rfl), pl_rangeAt_block hS.2 (hg5.block b (Nat.lt_of_lt_of_le hbd (by simp)) (fun e => (hbn b e.symm).2 rfl))⟩
          clear ho5 hg5 hb5
          refine hK.out _ _ (hS5) (fun hT => ?_)
          clear hK hS
          have hS := hT
          clear hT
          dsimp only [Act.put]
          refine tk 9 hS ?_
          refine wpAnyH_ready (rs := [10]) (by kernel_rfl) (by simp) ?_
          refine AllReadyH.cons rfl (fun K hK => ?_) AllReadyH.nil
          go_simp
          refine hK.out _ _ (⟨hS5.1.other (p := ⟨b6, 0, none⟩) hb26 _, pl_rangeAt_block hS5.2 (Below.heap_setCell _ _ _ _ hbb6)⟩) (fun hT => ?_)
          clear hK hS
          have hS := hT
          clear hT
          refine wpAnyH_done (by kernel_rfl) ?_ _
          clear hS hS5 hbn
          go_wp2_with fail
          have e5 : (FM ++ [x]).length = nM + 1 := by rw [List.length_append, HNM.out]; rfl
          exact ⟨⟨k + 1, FM ++ [x], nM + 1, A5, c5, by omega, by go_num, Lib.hid e5, Lib.hid (by show FM ++ [x] = List.filter _ _; rw [filt_take hl, HX.out, HBQ.out, HFM.out]; rfl), Lib.hid HAP.out.2⟩, by simp [intOf]; omega⟩
    · obtain rfl : n1 = k := by omega
      have HF1 : Hid (FM = byT u.held t) := by
        show FM = _
        rw [HFM.out, ← hl1, List.take_length]
      have HS1 := HS
      have A2Y := A2W
      have HL2 := Lib.hid (((lz_wide (Y := fun k => k = b6) H0.out.q (fun k hk e => by omega)).kept (Mod.of_below HB.out _)).kept HS.out.mod)
      have hb6y : b6 < wr.heap.size := Nat.lt_of_lt_of_le hb6 HS.out.mod.size
      have hnM : nM ≤ n1 := hFn
      have ST11 : Hid (GaS wr b6 (fun v => #[.slice AM nM cM, v]) [] (.slice none 0 0) wr) := GaS.start HS.out.box
      clear HS HFM A2W hlt hk hFn ST6
      rename World => y1
      go_wp2_with fail
      go_loopw [8] (fun i wr => ∃ (k : Nat) (F : List Cl) (nF : Nat) (AF : Option Addr) (cF : Nat), k ≤ n2 ∧ i = .int .i64 (k : Int) ∧ Hid (F.length = nF) ∧ Hid (F = byT (u.queue.take k) t) ∧ Hid (GaS y1 b6 (fun v => #[.slice AM nM cM, v]) F (.slice AF nF cF) wr)) (fun i _ => n2 - (intOf i).toNat)
      case atStart => exact ⟨0, [], 0, none, 0, Nat.zero_le _, rfl, rfl, rfl, ST11⟩
      case round =>
        obtain ⟨k, F, nF, AF, cF, hk, rfl, HNF, HF, HS⟩ := hrel
        have hFn : nF ≤ n2 := by
          rw [← HNF.out, HF.out]
          exact Nat.le_trans (List.length_filter_le _ _) (by rw [List.length_take]; omega)
        have A2W := Lib.hid (A2Y.out.mod HS.out.mod hb26)
        have p1 : wr.cell? ⟨b2, 1, none⟩ = some (.slice A2 n2 c2) := A2W.out.cell 1
        by_cases hlt : k < n2
        · obtain ⟨b, o, hl, hAe, hbz, hr, hbb6⟩ := HL2.out.rcX hlt
          subst hAe
          have hbw : b < wr.heap.size := Nat.lt_of_lt_of_le hbz HS.out.mod.size
          obtain ⟨x, hx⟩ : ∃ x, u.queue[k] = x := ⟨_, rfl⟩
          rw [hx] at hr
          have R1 : Hid (wr.rangeAt b (o + k * 4) (rcV x)) := pl_rangeAt_block hr (HS.out.mod.block b hbz hbb6)
          have q2 : wr.cell? ⟨b, o + k * 4 + 2, none⟩ = some (.int .u64 (x.2.1 : Int)) := R1.out 2 _ rfl
          have HX := Lib.hid hx
          clear hr hx
          obtain ⟨bq, hbq⟩ : ∃ bq, ((x.2.1 : Int) == (t : Int)) = bq := ⟨_, rfl⟩
          have HBQ := Lib.hid (show (x.2.1 == t) = bq by rw [← hbq, nat_beq])
          cases bq
          · go_wp2_with fail
            exact ⟨⟨k + 1, F, nF, AF, cF, by omega, by go_num, HNF, Lib.hid (by show F = List.filter _ _; rw [filt_take hl, HX.out, HBQ.out]; exact HF.out), HS⟩, by simp [intOf]; omega⟩
          · go_upto_region 11 with fail
            have HD : Hid (GaS y1 b6 (fun v => #[.slice AM nM cM, v]) F (.slice AF nF cF) wr.drew) := HS.out.under ((Below.refl _ wr).drew)
            have OWN : Hid ((wr.drew.alloc (.cells (rcA x) 72)).ownsRow y1.heap.size 72 4 (.slice AF nF cF) nF (rcL F)) := by
              have := own_under HD.out.own ((Below.refl _ wr.drew).alloc (Nat.le_refl _) (.cells (rcA x) 72)) (Nat.le_refl _)
              rw [HNF.out] at this
              exact this
            have LN : Hid (Lies (wr.drew.alloc (.cells (rcA x) 72)) (wr.drew.alloc (.cells (rcA x) 72)).heap.size 4 (some ⟨wr.drew.heap.size, 0, none⟩) 1 (rcL [x])) := lies_rc (At.new wr.drew 72 (rcA x))
            have HSZ : Hid (y1.heap.size ≤ (wr.drew.alloc (.cells (rcA x) 72)).heap.size) := by have := HD.out.mod.size; show _ ≤ _; simp at this ⊢; omega
            clear HS hbq p1 q2
            obtain ⟨i0, hi0, hz0, hz1, hz2⟩ := rc_info
            refine wp_region_held_drew (S := fun wz => At wz b2 28 (rtA A1 (some ⟨b, o, none⟩) n1 c1 n2 c2) ∧ wz.rangeAt b (o + k * 4) (rcV x)) (by kernel_rfl) ⟨A2W.out, R1.out⟩ (fun hS => ?_)
            obtain ⟨wd, hwd⟩ : ∃ wd, wr.drew = wd := ⟨_, rfl⟩
            rw [hwd] at hS HD HSZ OWN LN ⊢
            have hbd : b < wd.heap.size := by rw [← hwd]; exact hbw
            clear hwd
            refine tk 0 hS ?_
            refine tk 2 hS ?_
            refine tk 3 hS ?_ (hy := by intro wz hz; have p1 : wz.cell? ⟨b2, 1, none⟩ = some (.slice (some ⟨b, o, none⟩) n2 c2) := hz.1.cell 1; go_simp <;> with_reducible rfl)
            refine tk 4 hS ?_
            refine tk 5 hS ?_
            refine tk (v := .agg (rcA x)) 6 hS ?_ (hy := by intro wz hz; have p1 : wz.cell? ⟨b2, 1, none⟩ = some (.slice (some ⟨b, o, none⟩) n2 c2) := hz.1.cell 1; exact exec_load_in 72 (.tmp 60) rfl b (o + k * 4) rfl (rcV x) 4 strrC rfl hz.2)
            refine wpAnyH_ready (rs := [1, 7]) (by kernel_rfl) (by simp) ?_
            refine AllReadyH.cons rfl (fun K hK => ?_) (AllReadyH.cons rfl (fun K hK => ?_) AllReadyH.nil)
            · have pf : wd.cell? ⟨b6, 1, none⟩ = some (.slice AF nF cF) := HD.out.box.cell 1
              go_simp
              clear pf
              refine hK.out _ _ (hS) (fun hT => ?_)
              clear hK hS
              have hS := hT
              clear hT
              refine wpAnyH_ready (rs := [7]) (by kernel_rfl) (by simp) ?_
              refine AllReadyH.cons rfl (fun K hK => ?_) AllReadyH.nil
              rw [if_pos (by rfl)]
              refine wp_lit1r 62 (.tmp 61) 26 72 4 zcC (rcA x) rfl rfl rfl Tryz.underlying26 (by kernel_rfl) (by omega) (by omega) rfl ?_
              refine hK.out _ _ (⟨hS.1.alloc _, pl_rangeAt_block hS.2 (Below.heap_alloc _ _ _ hbd)⟩) (fun hT => ?_)
              clear hK hS
              have hS := hT
              clear hT
              refine wpAnyH_ready (rs := [8]) (by kernel_rfl) (by simp) ?_
              refine AllReadyH.cons rfl (fun K hK => ?_) AllReadyH.nil
              rw [if_pos (by rfl)]
              refine wp_app2 63 rfl (.tmp 56) (.tmp 62) 26 rfl y1.heap.size 72 i0 zcC 4 32 Tryz.underlying26 hi0 hz0 hz1 hz2 rfl (by omega) (.slice AF nF cF) nF (rcL F) rfl OWN.out _ (some ⟨wd.heap.size, 0, none⟩) 1 1 (rcL [x]) rfl LN.out (rc_one1 [x]) (by omega) (by simp only [maxLen]; omega) (by omega) HSZ.out ?_
              intro v5 w5 ho5 hg5 hb5
              obtain ⟨A5, c5, rfl, _⟩ := own_slice ho5
              have HAP := Lib.hid (HD.out.app (i := 1) (x := x) hb6y (by rw [HNF.out]) ho5 hg5 rfl)
              have hbn : ∀ j, (Value.slice AF nF cF).ownBlock = some j → b2 ≠ j ∧ b ≠ j := fun j hj => by have := (HD.out.own.lt j hj).1; omega
              have q1 : w5.cell? ⟨b6, 1, none⟩ = some (.slice AF nF cF) := HAP.out.1.cell 1
              have f1 : w5.frozen? ⟨b6, 1, none⟩ = false := HAP.out.1.frozen 1
              have hS5 : At w5 b2 28 (rtA A1 (some ⟨b, o, none⟩) n1 c1 n2 c2) ∧ w5.rangeAt b (o + k * 4) (rcV x) := ⟨hS.1.grown hg5 (fun e => (hbn b2 e.symm).1 rfl), pl_rangeAt_block hS.2 (hg5.block b (Nat.lt_of_lt_of_le hbd (by simp)) (fun e => (hbn b e.symm).2 rfl))⟩
              clear ho5 hg5 hb5
              refine hK.out _ _ (hS5) (fun hT => ?_)
              clear hK hS
              have hS := hT
              clear hT
              dsimp only [Act.put]
              refine tk 9 hS ?_
              refine wpAnyH_ready (rs := [10]) (by kernel_rfl) (by simp) ?_
              refine AllReadyH.cons rfl (fun K hK => ?_) AllReadyH.nil
              go_simp
              refine hK.out _ _ (⟨hS5.1.other (p := ⟨b6, 1, none⟩) hb26 _, pl_rangeAt_block hS5.2 (Below.heap_setCell _ _ _ _ hbb6)⟩) (fun hT => ?_)
              clear hK hS
              have hS := hT
              clear hT
              refine wpAnyH_done (by kernel_rfl) ?_ _
              clear hS hS5 hbn
              go_wp2_with fail
              have e5 : (F ++ [x]).length = nF + 1 := by rw [List.length_append, HNF.out]; rfl
              exact ⟨⟨k + 1, F ++ [x], nF + 1, A5, c5, by omega, by go_num, Lib.hid e5, Lib.hid (by show F ++ [x] = List.filter _ _; rw [filt_take hl, HX.out, HBQ.out, HF.out]; rfl), Lib.hid HAP.out.2⟩, by simp [intOf]; omega⟩
            · rw [if_pos (by rfl)]
              refine wp_lit1r 62 (.tmp 61) 26 72 4 zcC (rcA x) rfl rfl rfl Tryz.underlying26 (by kernel_rfl) (by omega) (by omega) rfl ?_
              refine hK.out _ _ (⟨hS.1.alloc _, pl_rangeAt_block hS.2 (Below.heap_alloc _ _ _ hbd)⟩) (fun hT => ?_)
              clear hK hS
              have hS := hT
              clear hT
              refine wpAnyH_ready (rs := [1]) (by kernel_rfl) (by simp) ?_
              refine AllReadyH.cons rfl (fun K hK => ?_) AllReadyH.nil
              have pf : (wd.alloc (.cells (rcA x) 72)).cell? ⟨b6, 1, none⟩ = some (.slice AF nF cF) := (HD.out.box.alloc _).cell 1
              go_simp
              clear pf
              refine hK.out _ _ (hS) (fun hT => ?_)
              clear hK hS
              have hS := hT
              clear hT
              refine wpAnyH_ready (rs := [8]) (by kernel_rfl) (by simp) ?_
              refine AllReadyH.cons rfl (fun K hK => ?_) AllReadyH.nil
              rw [if_pos (by rfl)]
              refine wp_app2 63 rfl (.tmp 56) (.tmp 62) 26 rfl y1.heap.size 72 i0 zcC 4 32 Tryz.underlying26 hi0 hz0 hz1 hz2 rfl (by omega) (.slice AF nF cF) nF (rcL F) rfl OWN.out _ (some ⟨wd.heap.size, 0, none⟩) 1 1 (rcL [x]) rfl LN.out (rc_one1 [x]) (by omega) (by simp only [maxLen]; omega) (by omega) HSZ.out ?_
              intro v5 w5 ho5 hg5 hb5
              obtain ⟨A5, c5, rfl, _⟩ := own_slice ho5
              have HAP := Lib.hid (HD.out.app (i := 1) (x := x) hb6y (by rw [HNF.out]) ho5 hg5 rfl)
              have hbn : ∀ j, (Value.slice AF nF cF).ownBlock = some j → b2 ≠ j ∧ b ≠ j := fun j hj => by have := (HD.out.own.lt j hj).1; omega
              have q1 : w5.cell? ⟨b6, 1, none⟩ = some (.slice AF nF cF) := HAP.out.1.cell 1
              have f1 : w5.frozen? ⟨b6, 1, none⟩ = false := HAP.out.1.frozen 1
              have hS5 : At w5 b2 28 (rtA A1 (some ⟨b, o, none⟩) n1 c1 n2 c2) ∧ w5.rangeAt b (o + k * 4) (rcV x) := ⟨hS.1.grown hg5 (fun e => (hbn b2 e.symm).1 rfl), pl_rangeAt_block hS.2 (hg5.block b (Nat.lt_of_lt_of_le hbd (by simp)) (fun e => (hbn b e.symm).2 rfl))⟩
              clear ho5 hg5 hb5
              refine hK.out _ _ (hS5) (fun hT => ?_)
              clear hK hS
              have hS := hT
              clear hT
              dsimp only [Act.put]
              refine tk 9 hS ?_
              refine wpAnyH_ready (rs := [10]) (by kernel_rfl) (by simp) ?_
              refine AllReadyH.cons rfl (fun K hK => ?_) AllReadyH.nil
              go_simp
              refine hK.out _ _ (⟨hS5.1.other (p := ⟨b6, 1, none⟩) hb26 _, pl_rangeAt_block hS5.2 (Below.heap_setCell _ _ _ _ hbb6)⟩) (fun hT => ?_)
              clear hK hS
              have hS := hT
              clear hT
              refine wpAnyH_done (by kernel_rfl) ?_ _
              clear hS hS5 hbn
              go_wp2_with fail
              have e5 : (F ++ [x]).length = nF + 1 := by rw [List.length_append, HNF.out]; rfl
              exact ⟨⟨k + 1, F ++ [x], nF + 1, A5, c5, by omega, by go_num, Lib.hid e5, Lib.hid (by show F ++ [x] = List.filter _ _; rw [filt_take hl, HX.out, HBQ.out, HF.out]; rfl), Lib.hid HAP.out.2⟩, by simp [intOf]; omega⟩
        · obtain rfl : n2 = k := by omega
          have HF2 : Hid (F = byT u.queue t) := by
            show F = _
            rw [HF.out, ← hl2, List.take_length]
          have OM : Hid (wr.ownsRow z.heap.size 72 4 (.slice AM nM cM) nM (rcL (byT u.held t))) := by
            have := own_mod HS1.out.own HS.out.mod (fun k hk e => by have := (HS1.out.own.lt k hk).1; omega)
            rw [HNM.out, HF1.out] at this
            exact this
          have OQ : Hid (wr.ownsRow y1.heap.size 72 4 (.slice AF nF cF) nF (rcL (byT u.queue t))) := by
            have := HS.out.own
            rw [HNF.out, HF2.out] at this
            exact this
          have A6Y : Hid (At wr b6 28 (rtA AM AF nM cM nF cF)) := HS.out.box
          have HTH := Lib.hid (rThings_any AM AF nM cM nF cF ⟨byT u.held t, byT u.queue t⟩ wr (Lz.of_own OM.out (fun _ h => h.elim)) (Lz.of_own OQ.out (fun _ h => h.elim)) (by omega) (by omega))
          have hlT := fold_len (byT u.held t ++ byT u.queue t) []
          have hlT2 : (thingsR ⟨byT u.held t, byT u.queue t⟩).length ≤ N := by
            have h1 : (byT u.held t).length ≤ u.held.length := List.length_filter_le _ _
            have h2 : (byT u.queue t).length ≤ u.queue.length := List.length_filter_le _ _
            have h3 := HS0.out
            simp only [List.length_nil, List.length_append] at hlT
            show (List.foldl _ [] (byT u.held t ++ byT u.queue t)).length ≤ N
            omega
          obtain ⟨l, hl⟩ : ∃ l, thingsR ⟨byT u.held t, byT u.queue t⟩ = l := ⟨_, rfl⟩
          have HRE : Hid (releaseR u t = wakes l ⟨withoutR u.held t, withoutR u.queue t⟩) := by show _ = _; rw [← hl]; rfl
          rw [hl] at HTH hlT2
          obtain ⟨nL, hnL⟩ : ∃ nL, l.length = nL := ⟨_, rfl⟩
          have HNL := Lib.hid hnL
          rw [hnL] at hlT2
          have A2Y2 := A2W
          have HBY : Hid (Below w.heap.size w wr) := Mod.below (Mod.below HB.out HS1.out.mod (fun j hj => by omega) HB.out.size) HS.out.mod (fun j hj => by omega) (by have := HS1.out.mod.size; have := HB.out.size; omega)
          have hsz2 := HS.out.mod.size
          have A4Y : Hid (At wr b4 28 (rtA none none 0 0 0 0)) := (A4Z.out.mod HS1.out.mod hb46).mod HS.out.mod hb46
          clear hl hnL hlT HF HF2 HF1 HS HS1 OM OQ HNM HNF A2W A2Y A4Z A2Z HL1 HL2 ST11 hlt hk hFn A6Z HZ
          rename World => y2
          go_upto_region 12 with fail
          go_upto_region 13 with (refine wpList_load_at 28 65 (.tmp 6) rfl rfl rfl b6 rfl (rtA AM AF nM cM nF cF) 2 strT rfl A6Y.out ?_)
          refine HTH.out.mono ?_
          rintro e y3 ⟨AL, cL, rfl, hoL, hbL⟩
          have OL := Lib.hid hoL
          have BL := Lib.hid hbL
          clear hoL hbL
          go_upto_region 13 with fail
          rw [HNL.out] at OL ⊢
          have A2Y3 := Lib.hid (A2Y2.out.under BL.out A2Y2.out.lt)
          have A4Y3 := Lib.hid (A4Y.out.under BL.out A4Y.out.lt)
          have HBY3 : Hid (b2 < y3.heap.size ∧ b4 < y3.heap.size ∧ w.heap.size ≤ y3.heap.size) := ⟨A2Y3.out.lt, A4Y3.out.lt, Nat.le_trans HBY.out.size BL.out.size⟩
          have HB3 := Lib.hid (HBY.out.trans (BL.out.mono HBY.out.size))
          clear HTH A6Y A2Y2 A4Y p1
          obtain ⟨n3, hn3⟩ : ∃ n3, (withoutR u.held t).length = n3 := ⟨_, rfl⟩
          obtain ⟨n4, hn4⟩ : ∃ n4, (withoutR u.queue t).length = n4 := ⟨_, rfl⟩
          have hn34 : n3 ≤ n1 ∧ n4 ≤ n2 := by
            have h1 : (withoutR u.held t).length ≤ u.held.length := List.length_filter_le _ _
            have h2 : (withoutR u.queue t).length ≤ u.queue.length := List.length_filter_le _ _
            omega
          have HWO1 : Hid (∀ Wx, Below y3.heap.size y3 Wx → Calls Tryz.prog 56 #[.slice A1 n1 c1, .int .u64 (t : Int)] Wx (BuN Wx (withoutR u.held t) n3)) := fun Wx hW =>
            (rWithout_any A1 n1 c1 u.held t Wx ((lz_wide (Y := fun _ => False) H0.out.h (fun _ _ h => h.elim)).below (HB3.out.trans (hW.mono HB3.out.size))) (by omega)).mono fun _ _ h => h.named hn3
          have HWO2 : Hid (∀ Wx, Below y3.heap.size y3 Wx → Calls Tryz.prog 56 #[.slice A2 n2 c2, .int .u64 (t : Int)] Wx (BuN Wx (withoutR u.queue t) n4)) := fun Wx hW =>
            (rWithout_any A2 n2 c2 u.queue t Wx ((lz_wide (Y := fun _ => False) H0.out.q (fun _ _ h => h.elim)).below (HB3.out.trans (hW.mono HB3.out.size))) (by omega)).mono fun _ _ h => h.named hn4
          clear hn3 hn4
          go_cut [10] from 67 to 76 (fun s10 wx => ∃ (b10 : Nat) (A3 A4 : Option Addr) (c3 c4 : Nat), s10 = .pointer (some ⟨b10, 0, none⟩) ∧ Hid (R13 y3 A3 A4 n3 c3 n4 c4 (withoutR u.held t) (withoutR u.queue t) b10 wx))
          case first =>
            refine wp_region_held_drew (S := fun wz => At wz b2 28 (rtA A1 A2 n1 c1 n2 c2)) (by kernel_rfl) (A2Y3.out.under ((Below.refl _ y3).drew) A2Y3.out.lt) (fun hS => ?_)
            have C0 := Lib.hid ((Below.refl y3.heap.size y3).drew)
            refine tk 0 hS ?_
            refine tk 1 hS ?_ (hy := by intro wz hz; have p0 : wz.cell? ⟨b2, 0, none⟩ = some (.slice A1 n1 c1) := hz.cell 0; have p1 : wz.cell? ⟨b2, 1, none⟩ = some (.slice A2 n2 c2) := hz.cell 1; go_simp <;> with_reducible rfl)
            refine tk 2 hS ?_
            refine tk 4 hS ?_
            refine tk 5 hS ?_ (hy := by intro wz hz; have p0 : wz.cell? ⟨b2, 0, none⟩ = some (.slice A1 n1 c1) := hz.cell 0; have p1 : wz.cell? ⟨b2, 1, none⟩ = some (.slice A2 n2 c2) := hz.cell 1; go_simp <;> with_reducible rfl)
            refine tk 6 hS ?_
            refine wpAnyH_ready (rs := [3, 9]) (by kernel_rfl) (by simp) ?_
            refine AllReadyH.cons rfl (fun K hK => ?_) (AllReadyH.cons rfl (fun K hK => ?_) AllReadyH.nil)
            · go_simp
              refine (HWO1.out y3.drew C0.out).mono ?_
              rintro e yq1 ⟨A3, c3, rfl, ho, hb⟩
              have O1 := Lib.hid (own_base ho C0.out.size)
              have CB1 := Lib.hid (C0.out.trans (hb.mono C0.out.size))
              have HB1 := Lib.hid hb
              clear ho hb
              refine hK.out _ _ (hS.under HB1.out hS.lt) (fun hT => ?_)
              clear hK hS
              have hS := hT
              clear hT
              refine wpAnyH_ready (rs := [7, 9]) (by kernel_rfl) (by simp) ?_
              refine AllReadyH.cons rfl (fun K hK => ?_) (AllReadyH.cons rfl (fun K hK => ?_) AllReadyH.nil)
              · go_simp
                refine (HWO2.out yq1 CB1.out).mono ?_
                rintro e yq2 ⟨A4, c4, rfl, ho, hb⟩
                have O2 := Lib.hid (own_base ho CB1.out.size)
                have CB2 := Lib.hid (CB1.out.trans (hb.mono CB1.out.size))
                have HB2 := Lib.hid hb
                have O32 := Lib.hid (own_under O1.out hb (Nat.le_refl _))
                clear ho hb
                refine hK.out _ _ (hS.under HB2.out hS.lt) (fun hT => ?_)
                clear hK hS
                have hS := hT
                clear hT
                refine tk 8 hS ?_
                refine wpAnyH_ready (rs := [9]) (by kernel_rfl) (by simp) ?_
                refine AllReadyH.cons rfl (fun K hK => ?_) AllReadyH.nil
                go_simp
                have CB4 := Lib.hid (CB2.out.alloc CB2.out.size (.cells (rtA none none 0 0 0 0) 28))
                have HA4 := Lib.hid (At.new yq2 28 (rtA none none 0 0 0 0))
                have GE4 := Lib.hid (show y3.heap.size ≤ yq2.heap.size from CB2.out.size)
                have O34 := Lib.hid (own_under O32.out ((Below.refl _ yq2).alloc (Nat.le_refl _) (.cells (rtA none none 0 0 0 0) 28)) (Nat.le_refl _))
                have O44 := Lib.hid (own_under O2.out ((Below.refl _ yq2).alloc (Nat.le_refl _) (.cells (rtA none none 0 0 0 0) 28)) (Nat.le_refl _))
                refine hK.out _ _ (hS.alloc _) (fun hT => ?_)
                clear hK hS
                have hS := hT
                clear hT
                refine wpAnyH_ready (rs := [10]) (by kernel_rfl) (by simp) ?_
                refine AllReadyH.cons rfl (fun K hK => ?_) AllReadyH.nil
                rw [if_pos (by rfl)]
                refine wp_store_at 28 (.tmp 10) (.tmp 75) rfl rfl yq2.heap.size rfl (rtA A3 A4 n3 c3 n4 c4) (rtA none none 0 0 0 0) 2 rfl strT rfl rfl (rtA_one _ _ _ _ _ _) HA4.out ?_
                intro w9 ha9 hg9
                have RR := Lib.hid (show R13 y3 A3 A4 n3 c3 n4 c4 (withoutR u.held t) (withoutR u.queue t) yq2.heap.size w9 from ⟨GE4.out, ha9, (O34.out).kept hg9 (.inr (Ne.symm (own_ne O34.out HA4.out (by decide)))), (O44.out).kept hg9 (.inr (Ne.symm (own_ne O44.out HA4.out (by decide)))), CB4.out.grown hg9 CB4.out.size (fun j hj => by injection hj with hj; have := GE4.out; omega)⟩)
                have KA := hS.grown hg9 (fun e => by have := GE4.out; have := HBY3.out; injection e with e; omega)
                clear ha9 hg9
                refine hK.out _ _ (KA) (fun hT => ?_)
                clear hK hS
                have hS := hT
                clear hT
                refine wpAnyH_done (by kernel_rfl) ?_ _
                go_wp2_with fail
                go_meet
                exact ⟨_, A3, A4, c3, c4, rfl, RR⟩
              · go_simp
                have CB5 := Lib.hid (CB1.out.alloc CB1.out.size (.cells (rtA none none 0 0 0 0) 28))
                have HA5 := Lib.hid (At.new yq1 28 (rtA none none 0 0 0 0))
                have GE5 := Lib.hid (show y3.heap.size ≤ yq1.heap.size from CB1.out.size)
                have O35 := Lib.hid (own_under O1.out ((Below.refl _ yq1).alloc (Nat.le_refl _) (.cells (rtA none none 0 0 0 0) 28)) (Nat.le_refl _))
                refine hK.out _ _ (hS.alloc _) (fun hT => ?_)
                clear hK hS
                have hS := hT
                clear hT
                refine wpAnyH_ready (rs := [7]) (by kernel_rfl) (by simp) ?_
                refine AllReadyH.cons rfl (fun K hK => ?_) AllReadyH.nil
                go_simp
                refine (HWO2.out (yq1.alloc (.cells (rtA none none 0 0 0 0) 28)) CB5.out).mono ?_
                rintro e yq6 ⟨A4, c4, rfl, ho, hb⟩
                have O6 := Lib.hid (own_base ho CB5.out.size)
                have CB6 := Lib.hid (CB5.out.trans (hb.mono CB5.out.size))
                have HB6 := Lib.hid hb
                have O36 := Lib.hid (own_under O35.out hb (Nat.le_refl _))
                have HA6 := Lib.hid (HA5.out.under hb HA5.out.lt)
                clear ho hb
                refine hK.out _ _ (hS.under HB6.out hS.lt) (fun hT => ?_)
                clear hK hS
                have hS := hT
                clear hT
                refine tk 8 hS ?_
                refine wpAnyH_ready (rs := [10]) (by kernel_rfl) (by simp) ?_
                refine AllReadyH.cons rfl (fun K hK => ?_) AllReadyH.nil
                rw [if_pos (by rfl)]
                refine wp_store_at 28 (.tmp 10) (.tmp 75) rfl rfl yq1.heap.size rfl (rtA A3 A4 n3 c3 n4 c4) (rtA none none 0 0 0 0) 2 rfl strT rfl rfl (rtA_one _ _ _ _ _ _) HA6.out ?_
                intro w9 ha9 hg9
                have RR := Lib.hid (show R13 y3 A3 A4 n3 c3 n4 c4 (withoutR u.held t) (withoutR u.queue t) yq1.heap.size w9 from ⟨GE5.out, ha9, (O36.out).kept hg9 (.inr (Ne.symm (own_ne O36.out HA6.out (by decide)))), (O6.out).kept hg9 (.inr (Ne.symm (own_ne O6.out HA6.out (by decide)))), CB6.out.grown hg9 CB6.out.size (fun j hj => by injection hj with hj; have := GE5.out; omega)⟩)
                have KA := hS.grown hg9 (fun e => by have := GE5.out; have := HBY3.out; injection e with e; omega)
                clear ha9 hg9
                refine hK.out _ _ (KA) (fun hT => ?_)
                clear hK hS
                have hS := hT
                clear hT
                refine wpAnyH_done (by kernel_rfl) ?_ _
                go_wp2_with fail
                go_meet
                exact ⟨_, A3, A4, c3, c4, rfl, RR⟩
            · go_simp
              have CB8 := Lib.hid (C0.out.alloc C0.out.size (.cells (rtA none none 0 0 0 0) 28))
              have HA8 := Lib.hid (At.new y3.drew 28 (rtA none none 0 0 0 0))
              have GE8 := Lib.hid (show y3.heap.size ≤ y3.drew.heap.size from C0.out.size)
              refine hK.out _ _ (hS.alloc _) (fun hT => ?_)
              clear hK hS
              have hS := hT
              clear hT
              refine wpAnyH_ready (rs := [3]) (by kernel_rfl) (by simp) ?_
              refine AllReadyH.cons rfl (fun K hK => ?_) AllReadyH.nil
              go_simp
              refine (HWO1.out (y3.drew.alloc (.cells (rtA none none 0 0 0 0) 28)) CB8.out).mono ?_
              rintro e yq9 ⟨A3, c3, rfl, ho, hb⟩
              have O9 := Lib.hid (own_base ho CB8.out.size)
              have CB9 := Lib.hid (CB8.out.trans (hb.mono CB8.out.size))
              have HB9 := Lib.hid hb
              have HA9 := Lib.hid (HA8.out.under hb HA8.out.lt)
              clear ho hb
              refine hK.out _ _ (hS.under HB9.out hS.lt) (fun hT => ?_)
              clear hK hS
              have hS := hT
              clear hT
              refine wpAnyH_ready (rs := [7]) (by kernel_rfl) (by simp) ?_
              refine AllReadyH.cons rfl (fun K hK => ?_) AllReadyH.nil
              go_simp
              refine (HWO2.out yq9 CB9.out).mono ?_
              rintro e yq10 ⟨A4, c4, rfl, ho, hb⟩
              have O10 := Lib.hid (own_base ho CB9.out.size)
              have CB10 := Lib.hid (CB9.out.trans (hb.mono CB9.out.size))
              have HB10 := Lib.hid hb
              have O310 := Lib.hid (own_under O9.out hb (Nat.le_refl _))
              have HA10 := Lib.hid (HA9.out.under hb HA9.out.lt)
              clear ho hb
              refine hK.out _ _ (hS.under HB10.out hS.lt) (fun hT => ?_)
              clear hK hS
              have hS := hT
              clear hT
              refine tk 8 hS ?_
              refine wpAnyH_ready (rs := [10]) (by kernel_rfl) (by simp) ?_
              refine AllReadyH.cons rfl (fun K hK => ?_) AllReadyH.nil
              rw [if_pos (by rfl)]
              refine wp_store_at 28 (.tmp 10) (.tmp 75) rfl rfl y3.drew.heap.size rfl (rtA A3 A4 n3 c3 n4 c4) (rtA none none 0 0 0 0) 2 rfl strT rfl rfl (rtA_one _ _ _ _ _ _) HA10.out ?_
              intro w9 ha9 hg9
              have RR := Lib.hid (show R13 y3 A3 A4 n3 c3 n4 c4 (withoutR u.held t) (withoutR u.queue t) y3.drew.heap.size w9 from ⟨GE8.out, ha9, (O310.out).kept hg9 (.inr (Ne.symm (own_ne O310.out HA10.out (by decide)))), (O10.out).kept hg9 (.inr (Ne.symm (own_ne O10.out HA10.out (by decide)))), CB10.out.grown hg9 CB10.out.size (fun j hj => by injection hj with hj; have := GE8.out; omega)⟩)
              have KA := hS.grown hg9 (fun e => by have := GE8.out; have := HBY3.out; injection e with e; omega)
              clear ha9 hg9
              refine hK.out _ _ (KA) (fun hT => ?_)
              clear hK hS
              have hS := hT
              clear hT
              refine wpAnyH_done (by kernel_rfl) ?_ _
              go_wp2_with fail
              go_meet
              exact ⟨_, A3, A4, c3, c4, rfl, RR⟩
          obtain ⟨b10, A3, A4, c3, c4, rfl, HR⟩ := hcut
          rename World => y4
          obtain ⟨XB, hXB⟩ : ∃ XB : Nat → Prop, XB = (fun j => X0 j ∨ j = b4) := ⟨_, rfl⟩
          have HXB3 : Hid (∀ j, XB j → j < y3.heap.size) := fun j hj => by
            rw [hXB] at hj
            rcases hj with hj | hj
            · have := HX0.out j hj; have := HB3.out.size; omega
            · have := HBY3.out; omega
          have HXB := Lib.hid hXB
          clear hXB
          obtain ⟨u0, hu0⟩ : ∃ u0, u0 = (⟨withoutR u.held t, withoutR u.queue t⟩ : TR) := ⟨_, rfl⟩
          have HU0 := Lib.hid hu0
          have hb10 : b10 < y4.heap.size := HR.out.box.lt
          have HB10 := Lib.hid hb10
          have HGE10 : Hid (w.heap.size ≤ b10) := by have h1 := HR.out.ge; have h2 := HBY3.out; show _ ≤ _; omega
          have HBL4 : Hid (b4 < y4.heap.size) := by have h1 := HR.out.below.size; have h2 := HBY3.out; show _ < _; omega
          have hge := HR.out.ge
          have HB4W := Lib.hid (HB3.out.trans (HR.out.below.mono HB3.out.size))
          have ST : Hid (RlT y4 XB b10 l u0 N 0 u0 [] (.slice none 0 0) y4) := by
            have e1 := own_ne HR.out.o3 HR.out.box (by decide)
            have e2 := own_ne HR.out.o4 HR.out.box (by decide)
            have hx3 : ∀ k, ((k = b10 ∨ XB k) ∨ (Value.slice none 0 0).ownBlock = some k) → some k ≠ (Value.slice A3 n3 c3).ownBlock := fun k hk e => by
              rcases hk with (hk | hk) | hk
              · rw [hk] at e; exact e1 e
              · have := (HR.out.o3.lt k e.symm).1; have := HXB3.out k hk; omega
              · cases hk
            have hx4 : ∀ k, ((k = b10 ∨ XB k) ∨ (Value.slice none 0 0).ownBlock = some k) → some k ≠ (Value.slice A4 n4 c4).ownBlock := fun k hk e => by
              rcases hk with (hk | hk) | hk
              · rw [hk] at e; exact e2 e
              · have := (HR.out.o4.lt k e.symm).1; have := HXB3.out k hk; omega
              · cases hk
            refine ⟨Mod.refl _ _, by rw [List.drop_zero, List.nil_append], World.ownsRow_nil _ _ _ _, ⟨A3, n3, c3, A4, n4, c4, HR.out.box, ?_⟩, ?_, Nat.zero_le _⟩
            · rw [hu0]
              exact ⟨lz_own_off HR.out.o3 hx3, lz_own_off HR.out.o4 hx4⟩
            · rw [hu0]
              have h1 : (withoutR u.held t).length ≤ u.held.length := List.length_filter_le _ _
              have h2 : (withoutR u.queue t).length ≤ u.queue.length := List.length_filter_le _ _
              show (withoutR u.held t).length + (withoutR u.queue t).length ≤ N
              omega
          have HLL : Hid (Lz (fun k => k = b10) y4 2 AL nL (rsL l)) := by
            have h1 : Lz (fun _ => False) y3 2 AL nL (rsL l) := Lz.of_own OL.out (fun _ h => h.elim)
            exact (lz_wide (Y := fun k => k = b10) h1 (fun k hk e => by omega)).kept (Mod.of_below HR.out.below _)
          have A4W : Hid (At y4 b4 28 (rtA none none 0 0 0 0)) := A4Y3.out.under HR.out.below A4Y3.out.lt
          have hb410 : b4 ≠ b10 := by have := A4Y3.out.lt; omega
          have HXB4 : Hid (∀ j, XB j → j < y4.heap.size) := fun j hj => by have := HXB3.out j hj; have := HR.out.below.size; omega
          have HRE0 : Hid (releaseR u t = wakes l u0) := by show _ = _; rw [hu0]; exact HRE.out
          clear hu0 HU0 HR OL BL HWO1 HWO2 A2Y3 A4Y3 HBY3 HB3 HRE HBY
          go_wp2_with fail
          go_loopw [11, 12] (fun v i wr => RtL y4 XB b10 l u0 N nL v i wr) (fun _ i _ => nL - (intOf i).toNat)
          case atStart => exact ⟨0, u0, [], 0, none, 0, Nat.zero_le _, rfl, rfl, rfl, ST⟩
          case round =>
            obtain ⟨k, u1, W, nW, AW, cW, hk, rfl, rfl, HNW, HS⟩ := hrel
            obtain ⟨B1, m1, d1, B2, m2, d2, hbox, hrt⟩ := HS.out.box
            have AB := Lib.hid hbox
            have HRT := Lib.hid hrt
            have hlh := hrt.h.rclen
            have hlq := hrt.q.rclen
            have hsz := HS.out.sz
            have hnW : nW ≤ 160000 := by
              have h1 := HS.out.wl
              rw [HNW.out] at h1
              have h2 : N * k ≤ 400 * 400 := Nat.mul_le_mul hN (by omega)
              omega
            clear hbox hrt
            by_cases hlt : k < nL
            · obtain ⟨b, o, hl, hAe, hbw, hr⟩ := (HLL.out.kept HS.out.mod).rs hlt
              subst hAe
              obtain ⟨x, hx⟩ : ∃ x, l[k] = x := ⟨_, rfl⟩
              rw [hx] at hr
              have R1 := Lib.hid hr
              have HX := Lib.hid hx
              obtain ⟨p, hp⟩ : ∃ p, wakeR u1 x = p := ⟨_, rfl⟩
              have HXW : Hid (∀ j, ((j = b10 ∨ XB j) ∨ (Value.slice AW nW cW).ownBlock = some j) → j < wr.heap.size) := fun j hj => by
                have hms := HS.out.mod.size
                rcases hj with (hj | hj) | hj
                · have := HB10.out; omega
                · have := HXB4.out j hj; omega
                · exact (HS.out.own.lt j hj).2
              have HWK : Hid (∀ Wx, Below wr.heap.size wr Wx → Calls Tryz.prog 57 #[.agg (rtA B1 B2 m1 d1 m2 d2), .agg (rsA x)] Wx (WakR Wx (fun j => (j = b10 ∨ XB j) ∨ (Value.slice AW nW cW).ownBlock = some j) p)) := fun Wx hW => by
                rw [← hp]
                exact Wake_any B1 B2 m1 d1 m2 d2 u1 x Wx _ (fun j hj => Nat.lt_of_lt_of_le (HXW.out j hj) hW.size) (HRT.out.kept (Mod.of_below hW _)) N ⟨by omega, by omega⟩ (by omega)
              have HWK2 : Hid (∀ Wx, Below wr.heap.size wr Wx → wr.heap.size < Wx.heap.size → Calls Tryz.prog 57 #[.agg (rtA B1 B2 m1 d1 m2 d2), .agg (rsA x)] Wx (WakR Wx (fun j => ((j = b10 ∨ XB j) ∨ (Value.slice AW nW cW).ownBlock = some j) ∨ j = wr.heap.size) p)) := fun Wx hW hlt => by
                rw [← hp]
                refine Wake_any B1 B2 m1 d1 m2 d2 u1 x Wx _ (fun j hj => ?_) ((HRT.out.wide (Y := fun j => ((j = b10 ∨ XB j) ∨ (Value.slice AW nW cW).ownBlock = some j) ∨ j = wr.heap.size) (fun j hjl hj => ?_)).kept (Mod.of_below hW _)) N ⟨by omega, by omega⟩ (by omega)
                · rcases hj with hj | hj
                  · exact Nat.lt_of_lt_of_le (HXW.out j hj) hW.size
                  · omega
                · rcases hj with hj | hj
                  · exact hj
                  · omega
              have HP := Lib.hid hp
              have HBR10 : Hid (b10 < wr.heap.size) := Nat.lt_of_lt_of_le HB10.out HS.out.mod.size
              clear hr hx hp
              go_upto_region 18 with fail
              go_cut [13, 14] from 82 to 91 (fun s13 s14 wx => ∃ (b13 : Nat) (A3 : Option Addr) (n3 c3 : Nat) (A4 : Option Addr) (n4 c4 : Nat) (A5 : Option Addr) (c5 : Nat), s13 = .pointer (some ⟨b13, 0, none⟩) ∧ s14 = .slice A5 p.2.length c5 ∧ Hid (RkC wr (fun j => (j = b10 ∨ XB j) ∨ (Value.slice AW nW cW).ownBlock = some j) p A3 n3 c3 A4 n4 c4 b13 (.slice A5 p.2.length c5) wx))
              case first =>
                refine wp_region_held_drew (S := fun wz => At wz b10 28 (rtA B1 B2 m1 d1 m2 d2) ∧ wz.rangeAt b (o + k * 2) (encR x)) (by kernel_rfl) ⟨AB.out, R1.out⟩ (fun hS => ?_)
                have C0 := Lib.hid ((Below.refl wr.heap.size wr).drew)
                refine tk (v := .agg (rtA B1 B2 m1 d1 m2 d2)) 0 hS ?_ (hy := by intro wz hz; exact exec_load_at 28 (.tmp 10) rfl b10 rfl (rtA B1 B2 m1 d1 m2 d2) 2 strT rfl hz.1)
                refine tk 1 hS ?_
                refine tk 2 hS ?_
                refine tk 3 hS ?_
                refine tk (v := .agg (rsA x)) 4 hS ?_ (hy := by intro wz hz; exact exec_load_in 33 (.tmp 86) rfl b (o + k * 2) rfl (encR x) 2 strR rfl hz.2)
                refine wpAnyH_ready (rs := [5, 9]) (by kernel_rfl) (by simp) ?_
                refine AllReadyH.cons rfl (fun K hK => ?_) (AllReadyH.cons rfl (fun K hK => ?_) AllReadyH.nil)
                · go_simp
                  refine (HWK.out wr.drew C0.out).mono ?_
                  rintro e y5 ⟨A3, n3, c3, A4, n4, c4, v, rfl, hrt, hov, hbb⟩
                  have RTV := Lib.hid hrt
                  have OV := Lib.hid hov
                  have BB := Lib.hid hbb
                  have HSZQ : Hid (wr.heap.size ≤ wr.drew.heap.size) := C0.out.size
                  have C5 := Lib.hid (C0.out.trans (hbb.mono C0.out.size))
                  clear hrt hov hbb
                  refine hK.out _ _ (⟨hS.1.under BB.out hS.1.lt, pl_rangeAt_block hS.2 ((BB.out).block b (Nat.lt_of_lt_of_le hbw HSZQ.out))⟩) (fun hT => ?_)
                  clear hK hS
                  have hS := hT
                  clear hT
                  refine tk 6 hS ?_
                  refine tk 7 hS ?_
                  refine tk 8 hS ?_
                  refine wpAnyH_ready (rs := [9]) (by kernel_rfl) (by simp) ?_
                  refine AllReadyH.cons rfl (fun K hK => ?_) AllReadyH.nil
                  go_simp
                  have A13 := Lib.hid (At.new y5 28 (rtA none none 0 0 0 0))
                  have GE13 := Lib.hid (show wr.heap.size ≤ y5.heap.size from C5.out.size)
                  have C6 := Lib.hid (C5.out.alloc C5.out.size (.cells (rtA none none 0 0 0 0) 28))
                  have RT6 := Lib.hid ((RTV.out.wide (Y := fun j => (((j = b10 ∨ XB j) ∨ (Value.slice AW nW cW).ownBlock = some j) ∨ j = y5.heap.size) ∨ v.ownBlock = some j) (fun j hjl hj => rt_off (P := fun j => (j = b10 ∨ XB j) ∨ (Value.slice AW nW cW).ownBlock = some j) (Q := fun j => v.ownBlock = some j) hjl hj)).kept (Mod.of_below ((Below.refl _ y5).alloc (Nat.le_refl _) (.cells (rtA none none 0 0 0 0) 28)) _))
                  have OV6 := Lib.hid (own_under (own_base OV.out C0.out.size) ((Below.refl _ y5).alloc (Nat.le_refl _) (.cells (rtA none none 0 0 0 0) 28)) (Nat.le_refl _))
                  have NV := Lib.hid (show v.ownBlock ≠ some y5.heap.size from fun e => by have := (OV.out.lt _ e).2; omega)
                  have RG6 := pl_rangeAt_block hS.2 (Below.heap_alloc y5 (.cells (rtA none none 0 0 0 0) 28) b (Nat.lt_of_lt_of_le hbw C5.out.size))
                  refine hK.out _ _ (⟨hS.1.alloc _, RG6⟩) (fun hT => ?_)
                  clear hK hS
                  have hS := hT
                  clear hT
                  refine wpAnyH_ready (rs := [10]) (by kernel_rfl) (by simp) ?_
                  refine AllReadyH.cons rfl (fun K hK => ?_) AllReadyH.nil
                  rw [if_pos (by rfl)]
                  refine wp_store_at 28 (.tmp 13) (.tmp 89) rfl rfl y5.heap.size rfl (rtA A3 A4 n3 c3 n4 c4) (rtA none none 0 0 0 0) 2 rfl strT rfl rfl (rtA_one _ _ _ _ _ _) A13.out ?_
                  intro w9 ha9 hg9
                  have RK := Lib.hid (show RkC wr (fun j => (j = b10 ∨ XB j) ∨ (Value.slice AW nW cW).ownBlock = some j) p A3 n3 c3 A4 n4 c4 y5.heap.size v w9 from rk_end C6.out GE13.out ha9 hg9 RT6.out OV6.out NV.out)
                  have KA : At w9 b10 28 (rtA B1 B2 m1 d1 m2 d2) ∧ w9.rangeAt b (o + k * 2) (encR x) := ⟨hS.1.grown hg9 (fun e => by injection e with e; have := GE13.out; have := HBR10.out; omega), pl_rangeAt_block hS.2 (hg9.block b (Nat.lt_of_lt_of_le hbw C6.out.size) (fun e => by injection e with e; have := GE13.out; omega))⟩
                  clear ha9 hg9
                  refine hK.out _ _ (KA) (fun hT => ?_)
                  clear hK hS
                  have hS := hT
                  clear hT
                  dsimp only [Act.put]
                  refine tk 11 hS ?_
                  refine wpAnyH_done (by kernel_rfl) ?_ _
                  obtain ⟨A5, c5, rfl, _⟩ := own_slice OV.out
                  go_wp2_with fail
                  go_meet
                  exact ⟨_, A3, n3, c3, A4, n4, c4, A5, c5, rfl, rfl, RK⟩
                · go_simp
                  have A13 := Lib.hid (At.new wr.drew 28 (rtA none none 0 0 0 0))
                  have GE13 := Lib.hid (show wr.heap.size ≤ wr.drew.heap.size from C0.out.size)
                  have C1 := Lib.hid (C0.out.alloc C0.out.size (.cells (rtA none none 0 0 0 0) 28))
                  have RG6 := pl_rangeAt_block hS.2 (Below.heap_alloc wr.drew (.cells (rtA none none 0 0 0 0) 28) b hbw)
                  refine hK.out _ _ (⟨hS.1.alloc _, RG6⟩) (fun hT => ?_)
                  clear hK hS
                  have hS := hT
                  clear hT
                  refine wpAnyH_ready (rs := [5]) (by kernel_rfl) (by simp) ?_
                  refine AllReadyH.cons rfl (fun K hK => ?_) AllReadyH.nil
                  go_simp
                  refine (HWK2.out (wr.drew.alloc (.cells (rtA none none 0 0 0 0) 28)) C1.out (by simp)).mono ?_
                  rintro e y5 ⟨A3, n3, c3, A4, n4, c4, v, rfl, hrt, hov, hbb⟩
                  have RTV := Lib.hid hrt
                  have OV := Lib.hid hov
                  have BB := Lib.hid hbb
                  have HSZQ : Hid (wr.heap.size ≤ (wr.drew.alloc (.cells (rtA none none 0 0 0 0) 28)).heap.size) := C1.out.size
                  have C5 := Lib.hid (C1.out.trans (hbb.mono C1.out.size))
                  clear hrt hov hbb
                  refine hK.out _ _ (⟨hS.1.under BB.out hS.1.lt, pl_rangeAt_block hS.2 ((BB.out).block b (Nat.lt_of_lt_of_le hbw HSZQ.out))⟩) (fun hT => ?_)
                  clear hK hS
                  have hS := hT
                  clear hT
                  have A135 := Lib.hid (A13.out.under BB.out A13.out.lt)
                  have NV := Lib.hid (show v.ownBlock ≠ some wr.drew.heap.size from fun e => by have := (OV.out.lt _ e).1; simp at this; omega)
                  have OV6 := Lib.hid (own_base OV.out C1.out.size)
                  refine tk 6 hS ?_
                  refine tk 7 hS ?_
                  refine tk 8 hS ?_
                  refine wpAnyH_ready (rs := [10]) (by kernel_rfl) (by simp) ?_
                  refine AllReadyH.cons rfl (fun K hK => ?_) AllReadyH.nil
                  rw [if_pos (by rfl)]
                  refine wp_store_at 28 (.tmp 13) (.tmp 89) rfl rfl wr.drew.heap.size rfl (rtA A3 A4 n3 c3 n4 c4) (rtA none none 0 0 0 0) 2 rfl strT rfl rfl (rtA_one _ _ _ _ _ _) A135.out ?_
                  intro w9 ha9 hg9
                  have RK := Lib.hid (show RkC wr (fun j => (j = b10 ∨ XB j) ∨ (Value.slice AW nW cW).ownBlock = some j) p A3 n3 c3 A4 n4 c4 wr.drew.heap.size v w9 from rk_end C5.out GE13.out ha9 hg9 RTV.out OV6.out NV.out)
                  have KA : At w9 b10 28 (rtA B1 B2 m1 d1 m2 d2) ∧ w9.rangeAt b (o + k * 2) (encR x) := ⟨hS.1.grown hg9 (fun e => by injection e with e; have := GE13.out; have := HBR10.out; omega), pl_rangeAt_block hS.2 (hg9.block b (Nat.lt_of_lt_of_le hbw C5.out.size) (fun e => by injection e with e; have := GE13.out; omega))⟩
                  clear ha9 hg9
                  refine hK.out _ _ (KA) (fun hT => ?_)
                  clear hK hS
                  have hS := hT
                  clear hT
                  dsimp only [Act.put]
                  refine tk 11 hS ?_
                  refine wpAnyH_done (by kernel_rfl) ?_ _
                  obtain ⟨A5, c5, rfl, _⟩ := own_slice OV.out
                  go_wp2_with fail
                  go_meet
                  exact ⟨_, A3, n3, c3, A4, n4, c4, A5, c5, rfl, rfl, RK⟩
              obtain ⟨b13, A3, n3, c3, A4, n4, c4, A5, c5, rfl, rfl, HK⟩ := hcut
              rename World => y5
              obtain ⟨m5, hm5⟩ : ∃ m5, p.2.length = m5 := ⟨_, rfl⟩
              have HM5 := Lib.hid hm5
              have hmN : m5 ≤ N := by
                have h1 := (wakeR_tot u1 x).2
                rw [HP.out, hm5] at h1
                omega
              rw [hm5] at HK ⊢
              clear hm5
              have A10Y := Lib.hid (AB.out.under HK.out.below AB.out.lt)
              have HBX := Lib.hid HK.out.box
              have H6 : Hid (∀ w6, y5.grownBy w6 (some b10) → w6.ownsRow y4.heap.size 31 1 (.slice AW nW cW) nW (UC W) ∧ Lies w6 w6.heap.size 1 A5 m5 (UC p.2) ∧ y4.heap.size ≤ w6.heap.size) := fun w6 hg6 => by
                have h1 := own_under HS.out.own HK.out.below (Nat.le_refl _)
                rw [HNW.out] at h1
                have h2 := HK.out.own
                rw [HM5.out] at h2
                have hms := HS.out.mod.size
                have hbs := HK.out.below.size
                have hgs := hg6.size
                have hb10 := HB10.out
                refine ⟨h1.kept hg6 (.inr (fun e => by have := (h1.lt b10 e).1; omega)), Lies.of_own (h2.kept hg6 (.inr (fun e => by have := (h2.lt b10 e).1; omega))), by omega⟩
              clear HWK HWK2 AB
              obtain ⟨i0, hi0, hz0, hz1, hz2⟩ := u_info
              go_wp2_with (first
                | refine wpList_load_at 28 91 (.tmp 13) rfl rfl rfl b13 rfl (rtA A3 A4 n3 c3 n4 c4) 2 strT rfl HBX.out ?_
                | (refine wpList_store_at 28 (.tmp 10) (.tmp 91) rfl rfl rfl b10 rfl (rtA A3 A4 n3 c3 n4 c4) (rtA B1 B2 m1 d1 m2 d2) 2 rfl strT rfl rfl (rtA_one _ _ _ _ _ _) A10Y.out ?_; intro w6 ha6 hg6; have H6w := Lib.hid (H6.out w6 hg6); have HA6 := Lib.hid ha6; have HG6 := Lib.hid hg6; clear ha6 hg6)
                | (at_builtin; refine wpList_app3 rfl (.tmp 92) (.tmp 93) 37 rfl y4.heap.size 31 i0 (.int .u64 0) 1 8 Tryz.underlying37 hi0 hz0 hz1 hz2 rfl (by omega) (.slice AW nW cW) nW (UC W) rfl H6w.out.1 _ A5 m5 c5 (UC p.2) rfl H6w.out.2.1 (UC_one _) (by simp only [maxLen]; omega) (by omega) H6w.out.2.2 ?_; intro v7 w7 ho7 hg7 hb7))
              obtain ⟨A7, c7, rfl, _⟩ := own_slice ho7
              have hn := HS.out.next HB10.out hl (by rw [HX.out]; exact HP.out) HK.out.below HK.out.rt HA6.out HG6.out ho7 (by rw [HNW.out, HM5.out]) hg7 hb7
              exact ⟨⟨k + 1, p.1, W ++ p.2, nW + m5, A7, c7, by omega, rfl, by go_num, Lib.hid (by rw [List.length_append, HNW.out, HM5.out]), Lib.hid hn⟩, by simp [intOf]; omega⟩
            · obtain rfl : nL = k := by omega
              have HE : Hid (releaseR u t = (u1, W)) := by
                show _ = _
                rw [HRE0.out]
                exact HS.out.done HNL.out.symm
              have A4R : Hid (At wr b4 28 (rtA none none 0 0 0 0)) := A4W.out.mod HS.out.mod hb410
              go_wp2_with (first
                | refine wpList_load_at 28 95 (.tmp 10) rfl rfl rfl b10 rfl (rtA B1 B2 m1 d1 m2 d2) 2 strT rfl AB.out ?_
                | (refine wpList_store_at 28 (.tmp 4) (.tmp 95) rfl rfl rfl b4 rfl (rtA B1 B2 m1 d1 m2 d2) (rtA none none 0 0 0 0) 2 rfl strT rfl rfl (rtA_one _ _ _ _ _ _) A4R.out ?_; intro w9 ha9 hg9))
              refine bodyPost_ret (v := .tuple #[.agg (rtA B1 B2 m1 d1 m2 d2), .slice AW nW cW]) ?_ rfl ?_
              · exact results_at2 (p := 4) (t := 5) (g := b4) (n := 2) (cs := rtA B1 B2 m1 d1 m2 d2) rfl ha9 strT rfl rfl rfl
              · have hgm := grown_mod hg9
                have h10 := HB10.out
                have h4w := HB4.out
                have h4y := A4W.out.lt
                have hwy := HB4W.out.size
                have hms := HS.out.mod.size
                have how := HS.out.own
                rw [HNW.out] at how
                rw [HE.out]
                refine ⟨B1, m1, d1, B2, m2, d2, _, rfl, ?_, ?_, ?_⟩
                · refine ((HRT.out.wide (Y := fun j => j = b4 ∨ (X0 j ∨ (Value.slice AW nW cW).ownBlock = some j)) (fun j _ hj => ?_)).kept (hgm.mono fun j _ hj => .inl hj)).wide (fun j _ hj => .inr hj)
                  rcases hj with hj | hj | hj
                  · exact .inl (.inr (by rw [HXB.out]; exact .inr hj))
                  · exact .inl (.inr (by rw [HXB.out]; exact .inl hj))
                  · exact .inr hj
                · have h5 := how.kept hg9 (.inr (fun e => by have := (how.lt b4 e).1; have := HBL4.out; omega))
                  show World.ownsRow _ _ _ _ _ W.length (UC W)
                  rw [HNW.out]
                  exact own_base h5 hwy
                · exact (Mod.below HB4W.out HS.out.mod (fun j hj => by rw [hj]; exact HGE10.out) hwy).grown hg9 (by omega) (fun j hj => by injection hj with hj; omega)
end Go.Proofs.YthbifccankfngaaGreatDoor
