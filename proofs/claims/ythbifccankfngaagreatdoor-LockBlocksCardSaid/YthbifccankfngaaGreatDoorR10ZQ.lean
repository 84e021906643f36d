/-
  The walk of the reference's Cancel.
  Conditions: at most 1000 claims of each kind.
-/
import Derived.Test.YthbifccankfngaaGreatDoorR9ZQ
namespace Go.Proofs.YthbifccankfngaaGreatDoor
open Go.RowKit Go.Shelf
attribute [local go_sem] Oper.semAt_some
set_option maxRecDepth 20000

theorem wIdx_cases (q : List Cl) (t : Nat) : (wIdx q t = -1 ∧ waitR q t = none) ∨ ∃ (i : Nat) (hi : i < q.length), wIdx q t = (i : Int) ∧ waitR q t = some q[i] := by
  unfold wIdx waitR
  cases h : q.findIdx? (fun c => c.2.1 == t) with
  | none =>
    refine .inl ⟨rfl, ?_⟩
    rw [List.findIdx?_eq_none_iff] at h
    rw [List.find?_eq_none]
    intro x hx
    rw [h x hx]
    simp
  | some i =>
    rw [List.findIdx?_eq_some_iff_getElem] at h
    obtain ⟨hi, h1, h2⟩ := h
    refine .inr ⟨i, hi, rfl, ?_⟩
    rw [List.find?_eq_some_iff_getElem]
    exact ⟨h1, i, hi, rfl, fun j hj => by simpa using h2 j hj⟩
set_option maxHeartbeats 12800000 in
theorem rCancel_any (A1 A2 : Option Addr) (n1 c1 n2 c2 : Nat) (u : TR) (t : Nat) (w : World) (X0 : Nat → Prop) (hX0 : ∀ j, X0 j → j < w.heap.size) (h : RtV X0 w A1 n1 A2 n2 u) (N : Nat) (hs : u.held.length ≤ N ∧ u.queue.length ≤ N) (hN : N ≤ 1000) :
    Calls Tryz.prog 27 #[.agg (rtA A1 A2 n1 c1 n2 c2), .int .u64 (t : Int)] w (WakR w X0 (cancelR u t)) := by
  have hl1 := h.h.rclen
  have hl2 := h.q.rclen
  obtain ⟨b2, hb2⟩ : ∃ b2, w.heap.size = b2 := ⟨_, rfl⟩
  obtain ⟨z, hz⟩ : ∃ z, (w.alloc (.cells (rtA A1 A2 n1 c1 n2 c2) 28)).alloc (.cells (rtA none none 0 0 0 0) 28) = z := ⟨_, rfl⟩
  have hbel : Below w.heap.size w z := hz ▸ ((Below.refl _ w).alloc (Nat.le_refl _) _).alloc (by simp) _
  have A2Z : Hid (At z b2 28 (rtA A1 A2 n1 c1 n2 c2)) := by
    have := (At.new w 28 (rtA A1 A2 n1 c1 n2 c2)).alloc (.cells (rtA none none 0 0 0 0) 28)
    rw [hz, hb2] at this
    exact this
  have A4Z : Hid (At z (b2 + 1) 28 (rtA none none 0 0 0 0)) := by
    have := At.new (w.alloc (.cells (rtA A1 A2 n1 c1 n2 c2) 28)) 28 (rtA none none 0 0 0 0)
    rw [hz] at this
    simp only [World.size_alloc, hb2] at this
    exact this
  have HB := Lib.hid hbel
  have HZ := Lib.hid hz
  have H0 := Lib.hid h
  have HX0 := Lib.hid hX0
  have HS0 := Lib.hid hs
  have HBB := Lib.hid hb2
  have HWT := Lib.hid (rWaits_any A1 A2 n1 c1 n2 c2 u.queue t z ((lz_wide (Y := fun _ => False) h.q (fun _ _ h => h.elim)).below hbel) (by omega))
  clear h hs hX0 hbel
  go_enter Tryz.func27, Tryz.ntmps27
  go_upto_region 1 with fail
  have hzz : (w.alloc (.cells (rtA A1 A2 n1 c1 n2 c2) 28)).alloc (.cells #[.slice none 0 0, .slice none 0 0] 28) = z := HZ.out
  try rw [hzz]
  clear hz hb2 hzz
  obtain ⟨b4, hb4⟩ : ∃ b4, b2 + 1 = b4 := ⟨_, rfl⟩
  rw [hb4] at A4Z ⊢
  have hb24 : b2 ≠ b4 := by omega
  have H24 := Lib.hid hb4
  clear hb4
  obtain ⟨ix, hix⟩ : ∃ ix, wIdx u.queue t = ix := ⟨_, rfl⟩
  rw [hix] at HWT
  have HIX := Lib.hid hix
  clear hix
  go_upto_region 2 with (first
    | refine wpList_load_at 28 7 (.tmp 2) rfl rfl rfl b2 rfl (rtA A1 A2 n1 c1 n2 c2) 2 strT rfl A2Z.out ?_
    | (refine HWT.out.mono ?_; rintro e y ⟨rfl, hby0⟩; have BY := Lib.hid hby0; clear hby0))
  have A2Y := Lib.hid (A2Z.out.under BY.out A2Z.out.lt)
  have A4Y := Lib.hid (A4Z.out.under BY.out A4Z.out.lt)
  have HWY := Lib.hid (HB.out.trans (BY.out.mono HB.out.size))
  rcases wIdx_cases u.queue t with ⟨hw1, hw2⟩ | ⟨i, hi, hw1, hw2⟩
  · have HE : Hid (cancelR u t = (u, [])) := by show _ = _; unfold cancelR; rw [hw2]
    rw [HIX.out] at hw1
    subst hw1
    clear hw2 HWT
    go_wp2_with (first
      | refine wpList_load_at 28 12 (.tmp 2) rfl rfl rfl b2 rfl (rtA A1 A2 n1 c1 n2 c2) 2 strT rfl A2Y.out ?_
      | (refine wpList_store_at 28 (.tmp 4) (.tmp 12) rfl rfl rfl b4 rfl (rtA A1 A2 n1 c1 n2 c2) (rtA none none 0 0 0 0) 2 rfl strT rfl rfl (rtA_one _ _ _ _ _ _) A4Y.out ?_; intro w9 ha9 hg9))
    refine bodyPost_ret (v := .tuple #[.agg (rtA A1 A2 n1 c1 n2 c2), .slice none 0 0]) ?_ rfl ?_
    · exact results_at2 (p := 4) (t := 5) (g := b4) (n := 2) (cs := rtA A1 A2 n1 c1 n2 c2) rfl ha9 strT rfl rfl rfl
    · have hgm := grown_mod hg9
      have h24 := H24.out
      have hbb := HBB.out
      rw [HE.out]
      refine ⟨A1, n1, c1, A2, n2, c2, _, rfl, ?_, World.ownsRow_nil _ _ _ _, HWY.out.grown hg9 HWY.out.size (fun j hj => by injection hj with hj; omega)⟩
      have h5 := ((H0.out.wide (Y := fun j => X0 j ∨ j = b4) (fun j hj hjj => by
        rcases hjj with hjj | hjj
        · exact hjj
        · omega)).kept (Mod.of_below HWY.out _)).kept (hgm.mono fun j _ hj => .inr hj)
      refine h5.wide (fun j _ hj => ?_)
      rcases hj with hj | hj
      · exact .inl hj
      · cases hj
  · rw [HIX.out] at hw1
    subst hw1
    obtain ⟨b, o, hkl, hAe, hbw, hr⟩ := H0.out.q.rc (by omega : i < n2)
    subst hAe
    obtain ⟨x, hx⟩ : ∃ x, u.queue[i] = x := ⟨_, rfl⟩
    rw [hx] at hr hw2
    have HE : Hid (cancelR u t = wakeR ⟨u.held, withoutR u.queue t⟩ x.1) := by show _ = _; unfold cancelR; rw [hw2]
    have hby : b < y.heap.size := Nat.lt_of_lt_of_le hbw HWY.out.size
    have RY : Hid (y.rangeAt b (o + i * 4) (encR x.1)) := fun j v hv => (HWY.out.cell (p := ⟨b, o + i * 4 + j, none⟩) hbw).trans (hr j v (by
      match j, hv with
      | 0, hv => exact hv
      | 1, hv => exact hv))
    have hbb4 : b4 ≠ b := by have := HBB.out; have := H24.out; omega
    obtain ⟨n3, hn3⟩ : ∃ n3, (withoutR u.queue t).length = n3 := ⟨_, rfl⟩
    have hn3N : n3 ≤ N := by
      rw [← hn3]
      exact Nat.le_trans (List.length_filter_le _ _) HS0.out.2
    have HWI : Hid (∀ Wx, Below y.heap.size y Wx → Calls Tryz.prog 56 #[.slice (some ⟨b, o, none⟩) n2 c2, .int .u64 (t : Int)] Wx (BuN Wx (withoutR u.queue t) n3)) := fun Wx hW =>
      (rWithout_any (some ⟨b, o, none⟩) n2 c2 u.queue t Wx ((lz_wide (Y := fun _ => False) H0.out.q (fun _ _ h => h.elim)).below (HWY.out.trans (hW.mono HWY.out.size))) (by have := HS0.out.2; omega)).mono fun _ _ h => h.named hn3
    have HWA : Hid (∀ (ya : World) (A3 : Option Addr) (c3 : Nat), Below y.heap.size y ya → ya.ownsRow y.drew.heap.size 72 4 (.slice A3 n3 c3) n3 (rcL (withoutR u.queue t)) → Calls Tryz.prog 57 #[.agg (rtA A1 A3 n1 c1 n3 c3), .agg (rsA x.1)] ya (WakR ya (fun j => X0 j ∨ j = b4) (wakeR ⟨u.held, withoutR u.queue t⟩ x.1))) := fun ya A3 c3 hb ho => by
      have hwa := HWY.out.trans (hb.mono HWY.out.size)
      have h24 := H24.out
      have hbb := HBB.out
      have hyz := A4Y.out.lt
      refine Wake_any A1 A3 n1 c1 n3 c3 ⟨u.held, withoutR u.queue t⟩ x.1 ya (fun j => X0 j ∨ j = b4) (fun j hj => ?_) ⟨?_, ?_⟩ N ⟨HS0.out.1, by show (withoutR u.queue t).length ≤ N; rw [hn3]; exact hn3N⟩ hN
      · rcases hj with hj | hj
        · exact Nat.lt_of_lt_of_le (HX0.out j hj) hwa.size
        · have := hb.size; omega
      · exact (lz_wide (Y := fun j => X0 j ∨ j = b4) H0.out.h (fun j hj hjj => by
          rcases hjj with hjj | hjj
          · exact hjj
          · omega)).kept (Mod.of_below hwa _)
      · exact Lz.of_own ho (fun j hj => by
          rcases hj with hj | hj
          · exact Nat.lt_of_lt_of_le (HX0.out j hj) HWY.out.size
          · rw [hj]; exact hyz)
    have hi2 : i < n2 := by omega
    clear hr hx hw2 hn3 HWT
    go_upto_region 4 with fail
    refine wp_region_held_drew (S := fun wz => At wz b2 28 (rtA A1 (some ⟨b, o, none⟩) n1 c1 n2 c2) ∧ wz.rangeAt b (o + i * 4) (encR x.1)) (by kernel_rfl) ⟨A2Y.out, RY.out⟩ (fun hS => ?_)
    refine tk 0 hS ?_
    refine tk 1 hS ?_ (hy := by intro wz hz; have p0 : wz.cell? ⟨b2, 0, none⟩ = some (.slice A1 n1 c1) := hz.1.cell 0; have p1 : wz.cell? ⟨b2, 1, none⟩ = some (.slice (some ⟨b, o, none⟩) n2 c2) := hz.1.cell 1; go_simp <;> with_reducible rfl)
    refine tk 2 hS ?_
    refine tk 3 hS ?_ (hy := by intro wz hz; have p0 : wz.cell? ⟨b2, 0, none⟩ = some (.slice A1 n1 c1) := hz.1.cell 0; have p1 : wz.cell? ⟨b2, 1, none⟩ = some (.slice (some ⟨b, o, none⟩) n2 c2) := hz.1.cell 1; go_simp <;> with_reducible rfl)
    refine tk 4 hS ?_
    refine tk 7 hS ?_
    refine tk 8 hS ?_ (hy := by intro wz hz; have p0 : wz.cell? ⟨b2, 0, none⟩ = some (.slice A1 n1 c1) := hz.1.cell 0; have p1 : wz.cell? ⟨b2, 1, none⟩ = some (.slice (some ⟨b, o, none⟩) n2 c2) := hz.1.cell 1; go_simp <;> with_reducible rfl)
    refine tk 9 hS ?_
    refine tk 10 hS ?_
    refine tk 11 hS ?_
    refine tk (v := .agg (rsA x.1)) 12 hS ?_ (hy := by intro wz hz; have p0 : wz.cell? ⟨b2, 0, none⟩ = some (.slice A1 n1 c1) := hz.1.cell 0; have p1 : wz.cell? ⟨b2, 1, none⟩ = some (.slice (some ⟨b, o, none⟩) n2 c2) := hz.1.cell 1; exact exec_load_in 33 (.tmp 24) rfl b (o + i * 4) rfl (encR x.1) 2 strR rfl hz.2)
    refine wpAnyH_ready (rs := [5]) (by kernel_rfl) (by simp) ?_
    refine AllReadyH.cons rfl (fun K hK => ?_) AllReadyH.nil
    go_simp
    refine (HWI.out _ ((Below.refl y.heap.size y).drew)).mono ?_
    rintro e ya ⟨A3, c3, rfl, ho3, hb3⟩
    have O3 := Lib.hid ho3
    have CA := Lib.hid (((Below.refl y.heap.size y).drew).trans hb3)
    clear ho3 hb3
    refine hK.out _ _ (⟨A2Y.out.under CA.out A2Y.out.lt, fun j v hv => (CA.out.cell (p := ⟨b, o + i * 4 + j, none⟩) hby).trans (RY.out j v hv)⟩) (fun hT => ?_)
    clear hK hS
    have hS := hT
    clear hT
    refine tk 6 hS ?_
    have HWK := Lib.hid (HWA.out ya A3 c3 CA.out O3.out)
    refine wpAnyH_ready (rs := [13]) (by kernel_rfl) (by simp) ?_
    refine AllReadyH.cons rfl (fun K hK => ?_) AllReadyH.nil
    go_simp
    refine HWK.out.mono ?_
    rintro e yb ⟨A5, n5, c5, A6, n6, c6, v, rfl, hrt, hov, hbb2⟩
    have RTV := Lib.hid hrt
    have OV := Lib.hid hov
    have CBB := Lib.hid hbb2
    have CB := Lib.hid (CA.out.trans (hbb2.mono CA.out.size))
    clear hrt hov hbb2
    refine hK.out _ _ (⟨A2Y.out.under CB.out A2Y.out.lt, fun j v hv => (CB.out.cell (p := ⟨b, o + i * 4 + j, none⟩) hby).trans (RY.out j v hv)⟩) (fun hT => ?_)
    clear hK hS
    have hS := hT
    clear hT
    refine tk 14 hS ?_
    refine tk 15 hS ?_
    have A4B := Lib.hid (A4Y.out.under CB.out A4Y.out.lt)
    refine wpAnyH_ready (rs := [16]) (by kernel_rfl) (by simp) ?_
    refine AllReadyH.cons rfl (fun K hK => ?_) AllReadyH.nil
    rw [if_pos (by rfl)]
    refine wp_store_at 28 (.tmp 4) (.tmp 27) rfl rfl b4 rfl (rtA A5 A6 n5 c5 n6 c6) (rtA none none 0 0 0 0) 2 rfl strT rfl rfl (rtA_one _ _ _ _ _ _) A4B.out ?_
    intro w9 ha9 hg9
    have A49 := Lib.hid ha9
    have G49 := Lib.hid hg9
    have A29 := Lib.hid ((A2Y.out.under CB.out A2Y.out.lt).grown hg9 (fun e => hb24 (Option.some.inj e)))
    have R9 : Hid (w9.rangeAt b (o + i * 4) (encR x.1)) := fun j v hv => (World.cell?_of_block (a := ⟨b, o + i * 4 + j, none⟩) (hg9.block b (Nat.lt_of_lt_of_le hby CB.out.size) (fun e => hbb4 (Option.some.inj e).symm))).trans ((CB.out.cell (p := ⟨b, o + i * 4 + j, none⟩) hby).trans (RY.out j v hv))
    clear ha9 hg9
    refine hK.out _ _ (⟨A29.out, R9.out⟩) (fun hT => ?_)
    clear hK hS
    have hS := hT
    clear hT
    refine tk 17 hS ?_
    refine wpAnyH_done (by kernel_rfl) ?_ _
    clear hS
    go_wp2_with fail
    refine bodyPost_ret (v := .tuple #[.agg (rtA A5 A6 n5 c5 n6 c6), v]) ?_ rfl ?_
    · exact results_at2 (p := 4) (t := 5) (g := b4) (n := 2) (cs := rtA A5 A6 n5 c5 n6 c6) rfl A49.out strT rfl rfl rfl
    · have hgm := grown_mod G49.out
      have h24 := H24.out
      have hbb := HBB.out
      have hwy := HWY.out.trans (CB.out.mono HWY.out.size)
      have hyz := A4Y.out.lt
      have hca := CA.out.size
      rw [HE.out]
      refine ⟨A5, n5, c5, A6, n6, c6, v, rfl, ?_, ?_, hwy.grown G49.out hwy.size (fun j hj => by injection hj with hj; omega)⟩
      · refine ((RTV.out.wide (Y := fun j => j = b4 ∨ (X0 j ∨ v.ownBlock = some j)) (fun j _ hj => ?_)).kept (hgm.mono fun j _ hj => .inl hj)).wide (fun j _ hj => .inr hj)
        rcases hj with hj | hj | hj
        · exact .inl (.inr hj)
        · exact .inl (.inl hj)
        · exact .inr hj
      · have h5 := OV.out.kept G49.out (.inr (fun e => by
          have := (OV.out.lt b4 e).1
          omega))
        exact own_base h5 (by have := HWY.out.size; omega)
end Go.Proofs.YthbifccankfngaaGreatDoor
