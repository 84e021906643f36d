/-
  The reference's put.
  Conditions: at most 100000 resources.
-/
import Derived.Test.YthbifccankfngaaGreatDoorR5ZQ
namespace Go.Proofs.YthbifccankfngaaGreatDoor
open Go.RowKit Go.Shelf
attribute [local go_sem] Oper.semAt_some
set_option maxRecDepth 20000

/-- Resources gathered: begun at w. -/
structure BuT (w : World) (F : List Rs) (v : Value) (z : World) : Prop where
  below : Below w.heap.size w z
  own : z.ownsRow w.heap.size 33 2 v F.length (rsL F)
theorem BuT.app {w z w5 : World} {F : List Rs} {v v5 : Value} {x : Rs} {N : Nat} (h : BuT w F v z) (ho : w5.ownsRow w.heap.size 33 2 v5 N (rsL F ++ rsL [x])) (hN : N = (F ++ [x]).length)
    (hg : (z.alloc (.cells (rsA x) 33)).grownBy w5 v.ownBlock) : BuT w (F ++ [x]) v5 w5 := by
  subst hN
  have hg2 : z.grownBy w5 v.ownBlock := (World.grownBy_alloc z _ _).andThen hg (fun j hj => .inr hj)
  refine ⟨below_own h.below h.own hg2 (Nat.le_refl _) h.below.size, ?_⟩
  rw [rsL_append]
  exact ho
theorem BuT.under {w z z' : World} {F : List Rs} {v : Value} (h : BuT w F v z) (hb : Below z.heap.size z z') : BuT w F v z' := ⟨h.below.trans (hb.mono h.below.size), own_under h.own hb (Nat.le_refl _)⟩
/-- Resources handed back, in a row of the call's own. -/
def PuR (w : World) (L : List Rs) (e : Ending) (w' : World) : Prop := ∃ A c, e = .returned (.slice A L.length c) ∧ w'.ownsRow w.heap.size 33 2 (.slice A L.length c) L.length (rsL L) ∧ Below w.heap.size w w'
theorem PuR.from {w z : World} {L : List Rs} {e : Ending} {w' : World} (hb : Below w.heap.size w z) (h : PuR z L e w') : PuR w L e w' := by
  obtain ⟨A, c, h1, h2, h3⟩ := h
  exact ⟨A, c, h1, own_base h2 hb.size, hb.trans (h3.mono hb.size)⟩
def PuL (w : World) (r : Rs) (l : List Rs) (n : Nat) (v m i : Value) (z : World) : Prop :=
  ∃ (k : Nat) (F : List Rs) (A : Option Addr) (c : Nat) (d : Bool), k ≤ n ∧ v = .slice A F.length c ∧ m = .bool d ∧ i = .int .i64 (k : Int) ∧ F.length ≤ 2 * k ∧ Hid (putF r false l = F ++ putF r d (l.drop k)) ∧ Hid (BuT w F (.slice A F.length c) z)
set_option maxHeartbeats 12800000 in
theorem rPut_any (A : Option Addr) (n c : Nat) (l : List Rs) (r : Rs) (w : World) (h : Lz (fun _ => False) w 2 A n (rsL l)) (hn : n ≤ 100000) :
    Calls Tryz.prog 58 #[.slice A n c, .agg (rsA r)] w (PuR w (putR l r)) := by
  have hlen : l.length = n := by have := h.len; rw [rsL_length] at this; omega
  obtain ⟨b3, hb3⟩ : ∃ b3, w.heap.size = b3 := ⟨_, rfl⟩
  have HB := Lib.hid (show Below w.heap.size w (w.alloc (.cells (rsA r) 33)) from (Below.refl _ w).alloc (Nat.le_refl _) _)
  have A3 := Lib.hid (At.new w 33 (rsA r))
  rw [hb3] at A3
  have HL := Lib.hid (h.below HB.out)
  clear h
  go_enter Tryz.func58, Tryz.ntmps58
  go_upto_region 1 with fail
  generalize w.alloc (.cells (rsA r) 33) = z0 at HB A3 HL ⊢
  have ST : Hid (BuT z0 [] (.slice none 0 0) z0) := ⟨Below.refl _ z0, World.ownsRow_nil _ _ 33 2⟩
  have hbz : b3 < z0.heap.size := A3.out.lt
  clear hb3
  go_wp2_with fail
  go_loopw [5, 6, 7] (fun v m i wr => PuL z0 r l n v m i wr) (fun _ _ i _ => n - (intOf i).toNat)
  case atStart => exact ⟨0, [], none, 0, false, Nat.zero_le _, rfl, rfl, rfl, Nat.zero_le _, Lib.hid rfl, ST⟩
  case round =>
    obtain ⟨k, F, AF, cF, d, hk, rfl, rfl, rfl, hFn, HP0, HS⟩ := hrel
    obtain ⟨nF, hnF⟩ : ∃ nF, F.length = nF := ⟨_, rfl⟩
    have HNF := Lib.hid hnF
    rw [hnF] at hFn HS ⊢
    clear hnF
    have A3R := Lib.hid (A3.out.under HS.out.below hbz)
    by_cases hlt : k < n
    · obtain ⟨b, o, hl, rfl, hb, hr⟩ := HL.out.rs hlt
      have hbw : b < wr.heap.size := Nat.lt_of_lt_of_le hb HS.out.below.size
      obtain ⟨x, hx⟩ : ∃ x, l[k] = x := ⟨_, rfl⟩
      have htk : l.drop k = x :: l.drop (k + 1) := by rw [List.drop_eq_getElem_cons hl, hx]
      rw [hx] at hr
      have RZ := Lib.hid hr
      have R1 : Hid (wr.rangeAt b (o + k * 2) (encR x)) := fun j v hv => (HS.out.below.cell (p := ⟨b, o + k * 2 + j, none⟩) hb).trans (hr j v hv)
      have HP1 : Hid (putF r false l = F ++ (if !(d || x == r) && ltR r x then r :: x :: putF r true (l.drop (k + 1)) else x :: putF r (d || x == r) (l.drop (k + 1)))) := by
        show _ = _
        rw [HP0.out, htk, putF]
      clear hr hx htk HP0
      obtain ⟨bq, hbq⟩ : ∃ bq, (x == r) = bq := ⟨_, rfl⟩
      rw [hbq] at HP1
      have HBQ := Lib.hid hbq
      clear hbq
      unfold ltR at HP1
      obtain ⟨lt1, hl1⟩ : ∃ lt1, decide (r.1 < x.1) = lt1 := ⟨_, rfl⟩
      obtain ⟨eq1, he1⟩ : ∃ eq1, (r.1 == x.1) = eq1 := ⟨_, rfl⟩
      obtain ⟨lt2, hl2⟩ : ∃ lt2, decide (r.2 < x.2) = lt2 := ⟨_, rfl⟩
      rw [hl1, he1, hl2] at HP1
      go_upto_region 6 with fail
      cases bq
      · cases d
        · refine wp_region_held_drew (S := Below wr.heap.size wr) (by kernel_rfl) ((Below.refl _ wr).drew) (fun hS => ?_)
          refine tk 0 hS ?_
          refine tk 1 hS ?_
          refine tk 2 hS ?_
          refine tk (v := .agg (rsA x)) 3 hS ?_ (hy := by intro wz hz; exact exec_load_in 33 (.tmp 16) rfl b (o + k * 2) rfl (encR x) 2 strR rfl (fun j v hv => (hz.cell (p := ⟨b, o + k * 2 + j, none⟩) hbw).trans (R1.out j v hv)))
          refine tk (v := .agg (rsA r)) 4 hS ?_ (hy := by intro wz hz; exact exec_load_at 33 (.tmp 3) rfl b3 rfl (rsA r) 2 strR rfl (A3R.out.under hz A3R.out.lt))
          refine tk (v := .bool false) 5 hS ?_ (hy := by intro wz hz; exact exec_eqRb (.tmp 17) (.tmp 18) rfl x r _ HBQ.out rfl rfl)
          refine wpAnyH_done (by kernel_rfl) ?_ _
          have HD1 := Lib.hid (HS.out.under hS)
          have A3D := Lib.hid (A3R.out.under hS A3R.out.lt)
          have R2 : Hid (wr.drew.rangeAt b (o + k * 2) (encR x)) := fun j v hv => (hS.cell (p := ⟨b, o + k * 2 + j, none⟩) hbw).trans (R1.out j v hv)
          have hbd : b < wr.drew.heap.size := Nat.lt_of_lt_of_le hbw hS.size
          generalize wr.drew = we at HD1 A3D R2 hbd ⊢
          clear hS
          go_upto_region 8 with fail
          cases lt1
          · cases eq1
            · have HP : Hid (putF r false l = F ++ [x] ++ putF r false (l.drop (k + 1))) := by show _ = _; rw [HP1.out]; simp
              refine wp_region_held_drew (S := Below we.heap.size we) (by kernel_rfl) ((Below.refl _ we).drew) (fun hS => ?_)
              refine tk 0 hS ?_
              refine tk 1 hS ?_
              refine tk 2 hS ?_
              refine tk 3 hS ?_
              refine tk 4 hS ?_ (hy := by intro wz hz; have q0 : wz.cell? ⟨b, o + k * 2, none⟩ = some (.int .i64 x.1) := (hz.cell (p := ⟨b, o + k * 2, none⟩) hbd).trans (R2.out 0 _ rfl); have q1 : wz.cell? ⟨b, o + k * 2 + 1, none⟩ = some (.int .u64 (x.2 : Int)) := (hz.cell (p := ⟨b, o + k * 2 + 1, none⟩) hbd).trans (R2.out 1 _ rfl); have r0 : wz.cell? ⟨b3, 0, none⟩ = some (.int .i64 r.1) := (A3D.out.under hz A3D.out.lt).cell 0; have r1 : wz.cell? ⟨b3, 1, none⟩ = some (.int .u64 (r.2 : Int)) := (A3D.out.under hz A3D.out.lt).cell 1; go_simp <;> with_reducible rfl)
              refine tk 5 hS ?_
              refine tk 6 hS ?_
              refine tk 7 hS ?_
              refine tk 8 hS ?_
              refine tk 9 hS ?_ (hy := by intro wz hz; have q0 : wz.cell? ⟨b, o + k * 2, none⟩ = some (.int .i64 x.1) := (hz.cell (p := ⟨b, o + k * 2, none⟩) hbd).trans (R2.out 0 _ rfl); have q1 : wz.cell? ⟨b, o + k * 2 + 1, none⟩ = some (.int .u64 (x.2 : Int)) := (hz.cell (p := ⟨b, o + k * 2 + 1, none⟩) hbd).trans (R2.out 1 _ rfl); have r0 : wz.cell? ⟨b3, 0, none⟩ = some (.int .i64 r.1) := (A3D.out.under hz A3D.out.lt).cell 0; have r1 : wz.cell? ⟨b3, 1, none⟩ = some (.int .u64 (r.2 : Int)) := (A3D.out.under hz A3D.out.lt).cell 1; go_simp <;> with_reducible rfl)
              refine tk 10 hS ?_
              refine tk 11 hS ?_
              refine tk 12 hS ?_
              refine tk 13 hS ?_ (hy := by intro wz hz; have q0 : wz.cell? ⟨b, o + k * 2, none⟩ = some (.int .i64 x.1) := (hz.cell (p := ⟨b, o + k * 2, none⟩) hbd).trans (R2.out 0 _ rfl); have q1 : wz.cell? ⟨b, o + k * 2 + 1, none⟩ = some (.int .u64 (x.2 : Int)) := (hz.cell (p := ⟨b, o + k * 2 + 1, none⟩) hbd).trans (R2.out 1 _ rfl); have r0 : wz.cell? ⟨b3, 0, none⟩ = some (.int .i64 r.1) := (A3D.out.under hz A3D.out.lt).cell 0; have r1 : wz.cell? ⟨b3, 1, none⟩ = some (.int .u64 (r.2 : Int)) := (A3D.out.under hz A3D.out.lt).cell 1; go_simp <;> with_reducible rfl)
              refine tk 14 hS ?_
              refine tk 15 hS ?_
              refine tk 16 hS ?_
              refine tk 17 hS ?_
              refine tk 18 hS ?_ (hy := by intro wz hz; have q0 : wz.cell? ⟨b, o + k * 2, none⟩ = some (.int .i64 x.1) := (hz.cell (p := ⟨b, o + k * 2, none⟩) hbd).trans (R2.out 0 _ rfl); have q1 : wz.cell? ⟨b, o + k * 2 + 1, none⟩ = some (.int .u64 (x.2 : Int)) := (hz.cell (p := ⟨b, o + k * 2 + 1, none⟩) hbd).trans (R2.out 1 _ rfl); have r0 : wz.cell? ⟨b3, 0, none⟩ = some (.int .i64 r.1) := (A3D.out.under hz A3D.out.lt).cell 0; have r1 : wz.cell? ⟨b3, 1, none⟩ = some (.int .u64 (r.2 : Int)) := (A3D.out.under hz A3D.out.lt).cell 1; go_simp <;> with_reducible rfl)
              refine tk 19 hS ?_
              refine tk 20 hS ?_
              refine sk 21 hS ?_
              refine sk 22 hS ?_
              refine sk 23 hS ?_
              refine sk 24 hS ?_
              refine sk 25 hS ?_
              refine sk 26 hS ?_
              refine sk 27 hS ?_
              refine sk 28 hS ?_
              refine tk 29 hS ?_
              refine tk 30 hS ?_
              refine tk 31 hS ?_
              refine wpAnyH_done (by kernel_rfl) ?_ _
              have HD := Lib.hid (HD1.out.under hS)
              have A3E := Lib.hid (A3D.out.under hS A3D.out.lt)
              have R3 : Hid (we.drew.rangeAt b (o + k * 2) (encR x)) := fun j v hv => (hS.cell (p := ⟨b, o + k * 2 + j, none⟩) hbd).trans (R2.out j v hv)
              have hbe : b < we.drew.heap.size := Nat.lt_of_lt_of_le hbd hS.size
              generalize we.drew = wd at HD A3E R3 hbe ⊢
              clear hS
              have OWN := Lib.hid (own_under HD.out.own ((Below.refl _ wd).alloc (Nat.le_refl _) (.cells (rsA x) 33)) (Nat.le_refl _))
              have LN := Lib.hid (lies_rs (At.new wd 33 (rsA x)))
              have HSZ : Hid (z0.heap.size ≤ (wd.alloc (.cells (rsA x) 33)).heap.size) := by have := HD.out.below.size; show _ ≤ _; simp; omega
              rw [HNF.out] at OWN
              obtain ⟨i0, hi0, hz0, hz1, hz2⟩ := r_info
              go_wp2_with (first
                          | refine wpList_load_in 33 60 (.tmp 59) rfl rfl rfl b (o + k * 2) rfl (encR x) 2 strR rfl R3.out ?_
                          | refine wpList_lit1r rfl 61 (.tmp 60) 40 33 2 (rsV (0, 0)) (rsA x) rfl rfl rfl Tryz.underlying40 (by kernel_rfl) (by omega) (by omega) rfl ?_
                          | (at_builtin; refine wpList_app _ rfl (.tmp 56) (.tmp 61) 40 rfl z0.heap.size 33 i0 (rsV (0, 0)) 2 16 Tryz.underlying40 hi0 hz0 hz1 hz2 rfl (by omega) (.slice AF nF cF) nF (rsL F) rfl OWN.out _ (some ⟨wd.heap.size, 0, none⟩) 1 1 (rsL [x]) rfl LN.out (rs_one1 x) (by simp only [maxLen]; omega) (by omega) HSZ.out ?_; intro v5 w5 ho5 hg5))
              obtain ⟨A5, c5, rfl, _⟩ := own_slice ho5
              have hl5 : nF + 1 = (F ++ [x]).length := by rw [List.length_append, HNF.out]; rfl
              have hB := HD.out.app (x := x) ho5 hl5 hg5
              rw [hl5] at hB ⊢
              exact ⟨⟨k + 1, F ++ [x], A5, c5, false, by omega, rfl, rfl, by go_num, by omega, HP.out, hB⟩, by simp [intOf]; omega⟩
            · cases lt2
              · have HP : Hid (putF r false l = F ++ [x] ++ putF r false (l.drop (k + 1))) := by show _ = _; rw [HP1.out]; simp
                refine wp_region_held_drew (S := Below we.heap.size we) (by kernel_rfl) ((Below.refl _ we).drew) (fun hS => ?_)
                refine tk 0 hS ?_
                refine tk 1 hS ?_
                refine tk 2 hS ?_
                refine tk 3 hS ?_
                refine tk 4 hS ?_ (hy := by intro wz hz; have q0 : wz.cell? ⟨b, o + k * 2, none⟩ = some (.int .i64 x.1) := (hz.cell (p := ⟨b, o + k * 2, none⟩) hbd).trans (R2.out 0 _ rfl); have q1 : wz.cell? ⟨b, o + k * 2 + 1, none⟩ = some (.int .u64 (x.2 : Int)) := (hz.cell (p := ⟨b, o + k * 2 + 1, none⟩) hbd).trans (R2.out 1 _ rfl); have r0 : wz.cell? ⟨b3, 0, none⟩ = some (.int .i64 r.1) := (A3D.out.under hz A3D.out.lt).cell 0; have r1 : wz.cell? ⟨b3, 1, none⟩ = some (.int .u64 (r.2 : Int)) := (A3D.out.under hz A3D.out.lt).cell 1; go_simp <;> with_reducible rfl)
                refine tk 5 hS ?_
                refine tk 6 hS ?_
                refine tk 7 hS ?_
                refine tk 8 hS ?_
                refine tk 9 hS ?_ (hy := by intro wz hz; have q0 : wz.cell? ⟨b, o + k * 2, none⟩ = some (.int .i64 x.1) := (hz.cell (p := ⟨b, o + k * 2, none⟩) hbd).trans (R2.out 0 _ rfl); have q1 : wz.cell? ⟨b, o + k * 2 + 1, none⟩ = some (.int .u64 (x.2 : Int)) := (hz.cell (p := ⟨b, o + k * 2 + 1, none⟩) hbd).trans (R2.out 1 _ rfl); have r0 : wz.cell? ⟨b3, 0, none⟩ = some (.int .i64 r.1) := (A3D.out.under hz A3D.out.lt).cell 0; have r1 : wz.cell? ⟨b3, 1, none⟩ = some (.int .u64 (r.2 : Int)) := (A3D.out.under hz A3D.out.lt).cell 1; go_simp <;> with_reducible rfl)
                refine tk 10 hS ?_
                refine tk 11 hS ?_
                refine tk 12 hS ?_
                refine tk 13 hS ?_ (hy := by intro wz hz; have q0 : wz.cell? ⟨b, o + k * 2, none⟩ = some (.int .i64 x.1) := (hz.cell (p := ⟨b, o + k * 2, none⟩) hbd).trans (R2.out 0 _ rfl); have q1 : wz.cell? ⟨b, o + k * 2 + 1, none⟩ = some (.int .u64 (x.2 : Int)) := (hz.cell (p := ⟨b, o + k * 2 + 1, none⟩) hbd).trans (R2.out 1 _ rfl); have r0 : wz.cell? ⟨b3, 0, none⟩ = some (.int .i64 r.1) := (A3D.out.under hz A3D.out.lt).cell 0; have r1 : wz.cell? ⟨b3, 1, none⟩ = some (.int .u64 (r.2 : Int)) := (A3D.out.under hz A3D.out.lt).cell 1; go_simp <;> with_reducible rfl)
                refine tk 14 hS ?_
                refine tk 15 hS ?_
                refine tk 16 hS ?_
                refine tk 17 hS ?_
                refine tk 18 hS ?_ (hy := by intro wz hz; have q0 : wz.cell? ⟨b, o + k * 2, none⟩ = some (.int .i64 x.1) := (hz.cell (p := ⟨b, o + k * 2, none⟩) hbd).trans (R2.out 0 _ rfl); have q1 : wz.cell? ⟨b, o + k * 2 + 1, none⟩ = some (.int .u64 (x.2 : Int)) := (hz.cell (p := ⟨b, o + k * 2 + 1, none⟩) hbd).trans (R2.out 1 _ rfl); have r0 : wz.cell? ⟨b3, 0, none⟩ = some (.int .i64 r.1) := (A3D.out.under hz A3D.out.lt).cell 0; have r1 : wz.cell? ⟨b3, 1, none⟩ = some (.int .u64 (r.2 : Int)) := (A3D.out.under hz A3D.out.lt).cell 1; go_simp <;> with_reducible rfl)
                refine tk 19 hS ?_
                refine tk 20 hS ?_
                refine tk 21 hS ?_
                refine tk 22 hS ?_ (hy := by intro wz hz; have q0 : wz.cell? ⟨b, o + k * 2, none⟩ = some (.int .i64 x.1) := (hz.cell (p := ⟨b, o + k * 2, none⟩) hbd).trans (R2.out 0 _ rfl); have q1 : wz.cell? ⟨b, o + k * 2 + 1, none⟩ = some (.int .u64 (x.2 : Int)) := (hz.cell (p := ⟨b, o + k * 2 + 1, none⟩) hbd).trans (R2.out 1 _ rfl); have r0 : wz.cell? ⟨b3, 0, none⟩ = some (.int .i64 r.1) := (A3D.out.under hz A3D.out.lt).cell 0; have r1 : wz.cell? ⟨b3, 1, none⟩ = some (.int .u64 (r.2 : Int)) := (A3D.out.under hz A3D.out.lt).cell 1; go_simp <;> with_reducible rfl)
                refine tk 23 hS ?_
                refine tk 24 hS ?_
                refine tk 25 hS ?_
                refine tk 26 hS ?_
                refine tk 27 hS ?_ (hy := by intro wz hz; have q0 : wz.cell? ⟨b, o + k * 2, none⟩ = some (.int .i64 x.1) := (hz.cell (p := ⟨b, o + k * 2, none⟩) hbd).trans (R2.out 0 _ rfl); have q1 : wz.cell? ⟨b, o + k * 2 + 1, none⟩ = some (.int .u64 (x.2 : Int)) := (hz.cell (p := ⟨b, o + k * 2 + 1, none⟩) hbd).trans (R2.out 1 _ rfl); have r0 : wz.cell? ⟨b3, 0, none⟩ = some (.int .i64 r.1) := (A3D.out.under hz A3D.out.lt).cell 0; have r1 : wz.cell? ⟨b3, 1, none⟩ = some (.int .u64 (r.2 : Int)) := (A3D.out.under hz A3D.out.lt).cell 1; go_simp <;> with_reducible rfl)
                refine tk 28 hS ?_
                refine tk 29 hS ?_
                refine tk 30 hS ?_
                refine tk 31 hS ?_
                refine wpAnyH_done (by kernel_rfl) ?_ _
                have HD := Lib.hid (HD1.out.under hS)
                have A3E := Lib.hid (A3D.out.under hS A3D.out.lt)
                have R3 : Hid (we.drew.rangeAt b (o + k * 2) (encR x)) := fun j v hv => (hS.cell (p := ⟨b, o + k * 2 + j, none⟩) hbd).trans (R2.out j v hv)
                have hbe : b < we.drew.heap.size := Nat.lt_of_lt_of_le hbd hS.size
                generalize we.drew = wd at HD A3E R3 hbe ⊢
                clear hS
                have OWN := Lib.hid (own_under HD.out.own ((Below.refl _ wd).alloc (Nat.le_refl _) (.cells (rsA x) 33)) (Nat.le_refl _))
                have LN := Lib.hid (lies_rs (At.new wd 33 (rsA x)))
                have HSZ : Hid (z0.heap.size ≤ (wd.alloc (.cells (rsA x) 33)).heap.size) := by have := HD.out.below.size; show _ ≤ _; simp; omega
                rw [HNF.out] at OWN
                obtain ⟨i0, hi0, hz0, hz1, hz2⟩ := r_info
                go_wp2_with (first
                            | refine wpList_load_in 33 60 (.tmp 59) rfl rfl rfl b (o + k * 2) rfl (encR x) 2 strR rfl R3.out ?_
                            | refine wpList_lit1r rfl 61 (.tmp 60) 40 33 2 (rsV (0, 0)) (rsA x) rfl rfl rfl Tryz.underlying40 (by kernel_rfl) (by omega) (by omega) rfl ?_
                            | (at_builtin; refine wpList_app _ rfl (.tmp 56) (.tmp 61) 40 rfl z0.heap.size 33 i0 (rsV (0, 0)) 2 16 Tryz.underlying40 hi0 hz0 hz1 hz2 rfl (by omega) (.slice AF nF cF) nF (rsL F) rfl OWN.out _ (some ⟨wd.heap.size, 0, none⟩) 1 1 (rsL [x]) rfl LN.out (rs_one1 x) (by simp only [maxLen]; omega) (by omega) HSZ.out ?_; intro v5 w5 ho5 hg5))
                obtain ⟨A5, c5, rfl, _⟩ := own_slice ho5
                have hl5 : nF + 1 = (F ++ [x]).length := by rw [List.length_append, HNF.out]; rfl
                have hB := HD.out.app (x := x) ho5 hl5 hg5
                rw [hl5] at hB ⊢
                exact ⟨⟨k + 1, F ++ [x], A5, c5, false, by omega, rfl, rfl, by go_num, by omega, HP.out, hB⟩, by simp [intOf]; omega⟩
              · have HP : Hid (putF r false l = F ++ [r] ++ [x] ++ putF r true (l.drop (k + 1))) := by show _ = _; rw [HP1.out]; simp
                refine wp_region_held_drew (S := Below we.heap.size we) (by kernel_rfl) ((Below.refl _ we).drew) (fun hS => ?_)
                refine tk 0 hS ?_
                refine tk 1 hS ?_
                refine tk 2 hS ?_
                refine tk 3 hS ?_
                refine tk 4 hS ?_ (hy := by intro wz hz; have q0 : wz.cell? ⟨b, o + k * 2, none⟩ = some (.int .i64 x.1) := (hz.cell (p := ⟨b, o + k * 2, none⟩) hbd).trans (R2.out 0 _ rfl); have q1 : wz.cell? ⟨b, o + k * 2 + 1, none⟩ = some (.int .u64 (x.2 : Int)) := (hz.cell (p := ⟨b, o + k * 2 + 1, none⟩) hbd).trans (R2.out 1 _ rfl); have r0 : wz.cell? ⟨b3, 0, none⟩ = some (.int .i64 r.1) := (A3D.out.under hz A3D.out.lt).cell 0; have r1 : wz.cell? ⟨b3, 1, none⟩ = some (.int .u64 (r.2 : Int)) := (A3D.out.under hz A3D.out.lt).cell 1; go_simp <;> with_reducible rfl)
                refine tk 5 hS ?_
                refine tk 6 hS ?_
                refine tk 7 hS ?_
                refine tk 8 hS ?_
                refine tk 9 hS ?_ (hy := by intro wz hz; have q0 : wz.cell? ⟨b, o + k * 2, none⟩ = some (.int .i64 x.1) := (hz.cell (p := ⟨b, o + k * 2, none⟩) hbd).trans (R2.out 0 _ rfl); have q1 : wz.cell? ⟨b, o + k * 2 + 1, none⟩ = some (.int .u64 (x.2 : Int)) := (hz.cell (p := ⟨b, o + k * 2 + 1, none⟩) hbd).trans (R2.out 1 _ rfl); have r0 : wz.cell? ⟨b3, 0, none⟩ = some (.int .i64 r.1) := (A3D.out.under hz A3D.out.lt).cell 0; have r1 : wz.cell? ⟨b3, 1, none⟩ = some (.int .u64 (r.2 : Int)) := (A3D.out.under hz A3D.out.lt).cell 1; go_simp <;> with_reducible rfl)
                refine tk 10 hS ?_
                refine tk 11 hS ?_
                refine tk 12 hS ?_
                refine tk 13 hS ?_ (hy := by intro wz hz; have q0 : wz.cell? ⟨b, o + k * 2, none⟩ = some (.int .i64 x.1) := (hz.cell (p := ⟨b, o + k * 2, none⟩) hbd).trans (R2.out 0 _ rfl); have q1 : wz.cell? ⟨b, o + k * 2 + 1, none⟩ = some (.int .u64 (x.2 : Int)) := (hz.cell (p := ⟨b, o + k * 2 + 1, none⟩) hbd).trans (R2.out 1 _ rfl); have r0 : wz.cell? ⟨b3, 0, none⟩ = some (.int .i64 r.1) := (A3D.out.under hz A3D.out.lt).cell 0; have r1 : wz.cell? ⟨b3, 1, none⟩ = some (.int .u64 (r.2 : Int)) := (A3D.out.under hz A3D.out.lt).cell 1; go_simp <;> with_reducible rfl)
                refine tk 14 hS ?_
                refine tk 15 hS ?_
                refine tk 16 hS ?_
                refine tk 17 hS ?_
                refine tk 18 hS ?_ (hy := by intro wz hz; have q0 : wz.cell? ⟨b, o + k * 2, none⟩ = some (.int .i64 x.1) := (hz.cell (p := ⟨b, o + k * 2, none⟩) hbd).trans (R2.out 0 _ rfl); have q1 : wz.cell? ⟨b, o + k * 2 + 1, none⟩ = some (.int .u64 (x.2 : Int)) := (hz.cell (p := ⟨b, o + k * 2 + 1, none⟩) hbd).trans (R2.out 1 _ rfl); have r0 : wz.cell? ⟨b3, 0, none⟩ = some (.int .i64 r.1) := (A3D.out.under hz A3D.out.lt).cell 0; have r1 : wz.cell? ⟨b3, 1, none⟩ = some (.int .u64 (r.2 : Int)) := (A3D.out.under hz A3D.out.lt).cell 1; go_simp <;> with_reducible rfl)
                refine tk 19 hS ?_
                refine tk 20 hS ?_
                refine tk 21 hS ?_
                refine tk 22 hS ?_ (hy := by intro wz hz; have q0 : wz.cell? ⟨b, o + k * 2, none⟩ = some (.int .i64 x.1) := (hz.cell (p := ⟨b, o + k * 2, none⟩) hbd).trans (R2.out 0 _ rfl); have q1 : wz.cell? ⟨b, o + k * 2 + 1, none⟩ = some (.int .u64 (x.2 : Int)) := (hz.cell (p := ⟨b, o + k * 2 + 1, none⟩) hbd).trans (R2.out 1 _ rfl); have r0 : wz.cell? ⟨b3, 0, none⟩ = some (.int .i64 r.1) := (A3D.out.under hz A3D.out.lt).cell 0; have r1 : wz.cell? ⟨b3, 1, none⟩ = some (.int .u64 (r.2 : Int)) := (A3D.out.under hz A3D.out.lt).cell 1; go_simp <;> with_reducible rfl)
                refine tk 23 hS ?_
                refine tk 24 hS ?_
                refine tk 25 hS ?_
                refine tk 26 hS ?_
                refine tk 27 hS ?_ (hy := by intro wz hz; have q0 : wz.cell? ⟨b, o + k * 2, none⟩ = some (.int .i64 x.1) := (hz.cell (p := ⟨b, o + k * 2, none⟩) hbd).trans (R2.out 0 _ rfl); have q1 : wz.cell? ⟨b, o + k * 2 + 1, none⟩ = some (.int .u64 (x.2 : Int)) := (hz.cell (p := ⟨b, o + k * 2 + 1, none⟩) hbd).trans (R2.out 1 _ rfl); have r0 : wz.cell? ⟨b3, 0, none⟩ = some (.int .i64 r.1) := (A3D.out.under hz A3D.out.lt).cell 0; have r1 : wz.cell? ⟨b3, 1, none⟩ = some (.int .u64 (r.2 : Int)) := (A3D.out.under hz A3D.out.lt).cell 1; go_simp <;> with_reducible rfl)
                refine tk 28 hS ?_
                refine tk 29 hS ?_
                refine tk 30 hS ?_
                refine tk 31 hS ?_
                refine wpAnyH_done (by kernel_rfl) ?_ _
                have HD := Lib.hid (HD1.out.under hS)
                have A3E := Lib.hid (A3D.out.under hS A3D.out.lt)
                have R3 : Hid (we.drew.rangeAt b (o + k * 2) (encR x)) := fun j v hv => (hS.cell (p := ⟨b, o + k * 2 + j, none⟩) hbd).trans (R2.out j v hv)
                have hbe : b < we.drew.heap.size := Nat.lt_of_lt_of_le hbd hS.size
                generalize we.drew = wd at HD A3E R3 hbe ⊢
                clear hS
                have OWN := Lib.hid (own_under HD.out.own ((Below.refl _ wd).alloc (Nat.le_refl _) (.cells (rsA r) 33)) (Nat.le_refl _))
                have LN := Lib.hid (lies_rs (At.new wd 33 (rsA r)))
                have HSZ : Hid (z0.heap.size ≤ (wd.alloc (.cells (rsA r) 33)).heap.size) := by have := HD.out.below.size; show _ ≤ _; simp; omega
                rw [HNF.out] at OWN
                obtain ⟨i0, hi0, hz0, hz1, hz2⟩ := r_info
                go_upto_region 10 with (first
                            | refine wpList_load_at 33 53 (.tmp 3) rfl rfl rfl b3 rfl (rsA r) 2 strR rfl A3E.out ?_
                            | refine wpList_lit1r rfl 54 (.tmp 53) 40 33 2 (rsV (0, 0)) (rsA r) rfl rfl rfl Tryz.underlying40 (by kernel_rfl) (by omega) (by omega) rfl ?_
                            | (at_builtin; refine wpList_app _ rfl (.tmp 52) (.tmp 54) 40 rfl z0.heap.size 33 i0 (rsV (0, 0)) 2 16 Tryz.underlying40 hi0 hz0 hz1 hz2 rfl (by omega) (.slice AF nF cF) nF (rsL F) rfl OWN.out _ (some ⟨wd.heap.size, 0, none⟩) 1 1 (rsL [r]) rfl LN.out (rs_one1 r) (by simp only [maxLen]; omega) (by omega) HSZ.out ?_; intro v5 w5 ho5 hg5))
                obtain ⟨A5, c5, rfl, _⟩ := own_slice ho5
                have hl5 : nF + 1 = (F ++ [r]).length := by rw [List.length_append, HNF.out]; rfl
                have hB := HD.out.app (x := r) ho5 hl5 hg5
                have HD5 : Hid (BuT z0 (F ++ [r]) (.slice A5 (nF + 1) c5) w5) := hB
                clear hB ho5 hg5 OWN LN HSZ
                have hbz2 : b < z0.heap.size := hb
                have R5 : Hid (w5.rangeAt b (o + k * 2) (encR x)) := fun j v hv => (HD5.out.below.cell (p := ⟨b, o + k * 2 + j, none⟩) hb).trans (RZ.out j v hv)
                have OWN5 := Lib.hid (own_under HD5.out.own ((Below.refl _ w5).alloc (Nat.le_refl _) (.cells (rsA x) 33)) (Nat.le_refl _))
                have LN5 := Lib.hid (lies_rs (At.new w5 33 (rsA x)))
                have HSZ5 : Hid (z0.heap.size ≤ (w5.alloc (.cells (rsA x) 33)).heap.size) := by have := HD5.out.below.size; show _ ≤ _; simp; omega
                have hl6 : nF + 1 + 1 = (F ++ [r] ++ [x]).length := by rw [List.length_append, ← hl5]; rfl
                rw [← hl5] at OWN5
                go_wp2_with (first
                            | refine wpList_load_in 33 60 (.tmp 59) rfl rfl rfl b (o + k * 2) rfl (encR x) 2 strR rfl R5.out ?_
                            | refine wpList_lit1r rfl 61 (.tmp 60) 40 33 2 (rsV (0, 0)) (rsA x) rfl rfl rfl Tryz.underlying40 (by kernel_rfl) (by omega) (by omega) rfl ?_
                            | (at_builtin; refine wpList_app _ rfl (.tmp 56) (.tmp 61) 40 rfl z0.heap.size 33 i0 (rsV (0, 0)) 2 16 Tryz.underlying40 hi0 hz0 hz1 hz2 rfl (by omega) (.slice A5 (nF + 1) c5) (nF + 1) (rsL (F ++ [r])) rfl OWN5.out _ (some ⟨w5.heap.size, 0, none⟩) 1 1 (rsL [x]) rfl LN5.out (rs_one1 x) (by simp only [maxLen]; omega) (by omega) HSZ5.out ?_; intro v6 w6 ho6 hg6))
                obtain ⟨A6, c6, rfl, _⟩ := own_slice ho6
                have hB := HD5.out.app (x := x) ho6 hl6 hg6
                rw [hl6] at hB ⊢
                exact ⟨⟨k + 1, F ++ [r] ++ [x], A6, c6, true, by omega, rfl, rfl, by go_num, by omega, HP.out, hB⟩, by simp [intOf]; omega⟩
          · have HP : Hid (putF r false l = F ++ [r] ++ [x] ++ putF r true (l.drop (k + 1))) := by show _ = _; rw [HP1.out]; simp
            refine wp_region_held_drew (S := Below we.heap.size we) (by kernel_rfl) ((Below.refl _ we).drew) (fun hS => ?_)
            refine tk 0 hS ?_
            refine tk 1 hS ?_
            refine tk 2 hS ?_
            refine tk 3 hS ?_
            refine tk 4 hS ?_ (hy := by intro wz hz; have q0 : wz.cell? ⟨b, o + k * 2, none⟩ = some (.int .i64 x.1) := (hz.cell (p := ⟨b, o + k * 2, none⟩) hbd).trans (R2.out 0 _ rfl); have q1 : wz.cell? ⟨b, o + k * 2 + 1, none⟩ = some (.int .u64 (x.2 : Int)) := (hz.cell (p := ⟨b, o + k * 2 + 1, none⟩) hbd).trans (R2.out 1 _ rfl); have r0 : wz.cell? ⟨b3, 0, none⟩ = some (.int .i64 r.1) := (A3D.out.under hz A3D.out.lt).cell 0; have r1 : wz.cell? ⟨b3, 1, none⟩ = some (.int .u64 (r.2 : Int)) := (A3D.out.under hz A3D.out.lt).cell 1; go_simp <;> with_reducible rfl)
            refine tk 5 hS ?_
            refine tk 6 hS ?_
            refine tk 7 hS ?_
            refine tk 8 hS ?_
            refine tk 9 hS ?_ (hy := by intro wz hz; have q0 : wz.cell? ⟨b, o + k * 2, none⟩ = some (.int .i64 x.1) := (hz.cell (p := ⟨b, o + k * 2, none⟩) hbd).trans (R2.out 0 _ rfl); have q1 : wz.cell? ⟨b, o + k * 2 + 1, none⟩ = some (.int .u64 (x.2 : Int)) := (hz.cell (p := ⟨b, o + k * 2 + 1, none⟩) hbd).trans (R2.out 1 _ rfl); have r0 : wz.cell? ⟨b3, 0, none⟩ = some (.int .i64 r.1) := (A3D.out.under hz A3D.out.lt).cell 0; have r1 : wz.cell? ⟨b3, 1, none⟩ = some (.int .u64 (r.2 : Int)) := (A3D.out.under hz A3D.out.lt).cell 1; go_simp <;> with_reducible rfl)
            refine tk 10 hS ?_
            refine tk 11 hS ?_
            refine sk 12 hS ?_
            refine sk 13 hS ?_
            refine sk 14 hS ?_
            refine sk 15 hS ?_
            refine sk 16 hS ?_
            refine sk 17 hS ?_
            refine sk 18 hS ?_
            refine sk 19 hS ?_
            refine sk 20 hS ?_
            refine sk 21 hS ?_
            refine sk 22 hS ?_
            refine sk 23 hS ?_
            refine sk 24 hS ?_
            refine sk 25 hS ?_
            refine sk 26 hS ?_
            refine sk 27 hS ?_
            refine sk 28 hS ?_
            refine sk 29 hS ?_
            refine tk 30 hS ?_
            refine tk 31 hS ?_
            refine wpAnyH_done (by kernel_rfl) ?_ _
            have HD := Lib.hid (HD1.out.under hS)
            have A3E := Lib.hid (A3D.out.under hS A3D.out.lt)
            have R3 : Hid (we.drew.rangeAt b (o + k * 2) (encR x)) := fun j v hv => (hS.cell (p := ⟨b, o + k * 2 + j, none⟩) hbd).trans (R2.out j v hv)
            have hbe : b < we.drew.heap.size := Nat.lt_of_lt_of_le hbd hS.size
            generalize we.drew = wd at HD A3E R3 hbe ⊢
            clear hS
            have OWN := Lib.hid (own_under HD.out.own ((Below.refl _ wd).alloc (Nat.le_refl _) (.cells (rsA r) 33)) (Nat.le_refl _))
            have LN := Lib.hid (lies_rs (At.new wd 33 (rsA r)))
            have HSZ : Hid (z0.heap.size ≤ (wd.alloc (.cells (rsA r) 33)).heap.size) := by have := HD.out.below.size; show _ ≤ _; simp; omega
            rw [HNF.out] at OWN
            obtain ⟨i0, hi0, hz0, hz1, hz2⟩ := r_info
            go_upto_region 10 with (first
                        | refine wpList_load_at 33 53 (.tmp 3) rfl rfl rfl b3 rfl (rsA r) 2 strR rfl A3E.out ?_
                        | refine wpList_lit1r rfl 54 (.tmp 53) 40 33 2 (rsV (0, 0)) (rsA r) rfl rfl rfl Tryz.underlying40 (by kernel_rfl) (by omega) (by omega) rfl ?_
                        | (at_builtin; refine wpList_app _ rfl (.tmp 52) (.tmp 54) 40 rfl z0.heap.size 33 i0 (rsV (0, 0)) 2 16 Tryz.underlying40 hi0 hz0 hz1 hz2 rfl (by omega) (.slice AF nF cF) nF (rsL F) rfl OWN.out _ (some ⟨wd.heap.size, 0, none⟩) 1 1 (rsL [r]) rfl LN.out (rs_one1 r) (by simp only [maxLen]; omega) (by omega) HSZ.out ?_; intro v5 w5 ho5 hg5))
            obtain ⟨A5, c5, rfl, _⟩ := own_slice ho5
            have hl5 : nF + 1 = (F ++ [r]).length := by rw [List.length_append, HNF.out]; rfl
            have hB := HD.out.app (x := r) ho5 hl5 hg5
            have HD5 : Hid (BuT z0 (F ++ [r]) (.slice A5 (nF + 1) c5) w5) := hB
            clear hB ho5 hg5 OWN LN HSZ
            have hbz2 : b < z0.heap.size := hb
            have R5 : Hid (w5.rangeAt b (o + k * 2) (encR x)) := fun j v hv => (HD5.out.below.cell (p := ⟨b, o + k * 2 + j, none⟩) hb).trans (RZ.out j v hv)
            have OWN5 := Lib.hid (own_under HD5.out.own ((Below.refl _ w5).alloc (Nat.le_refl _) (.cells (rsA x) 33)) (Nat.le_refl _))
            have LN5 := Lib.hid (lies_rs (At.new w5 33 (rsA x)))
            have HSZ5 : Hid (z0.heap.size ≤ (w5.alloc (.cells (rsA x) 33)).heap.size) := by have := HD5.out.below.size; show _ ≤ _; simp; omega
            have hl6 : nF + 1 + 1 = (F ++ [r] ++ [x]).length := by rw [List.length_append, ← hl5]; rfl
            rw [← hl5] at OWN5
            go_wp2_with (first
                        | refine wpList_load_in 33 60 (.tmp 59) rfl rfl rfl b (o + k * 2) rfl (encR x) 2 strR rfl R5.out ?_
                        | refine wpList_lit1r rfl 61 (.tmp 60) 40 33 2 (rsV (0, 0)) (rsA x) rfl rfl rfl Tryz.underlying40 (by kernel_rfl) (by omega) (by omega) rfl ?_
                        | (at_builtin; refine wpList_app _ rfl (.tmp 56) (.tmp 61) 40 rfl z0.heap.size 33 i0 (rsV (0, 0)) 2 16 Tryz.underlying40 hi0 hz0 hz1 hz2 rfl (by omega) (.slice A5 (nF + 1) c5) (nF + 1) (rsL (F ++ [r])) rfl OWN5.out _ (some ⟨w5.heap.size, 0, none⟩) 1 1 (rsL [x]) rfl LN5.out (rs_one1 x) (by simp only [maxLen]; omega) (by omega) HSZ5.out ?_; intro v6 w6 ho6 hg6))
            obtain ⟨A6, c6, rfl, _⟩ := own_slice ho6
            have hB := HD5.out.app (x := x) ho6 hl6 hg6
            rw [hl6] at hB ⊢
            exact ⟨⟨k + 1, F ++ [r] ++ [x], A6, c6, true, by omega, rfl, rfl, by go_num, by omega, HP.out, hB⟩, by simp [intOf]; omega⟩
        · have HP : Hid (putF r false l = F ++ [x] ++ putF r true (l.drop (k + 1))) := by show _ = _; rw [HP1.out]; simp
          refine wp_region_held_drew (S := Below wr.heap.size wr) (by kernel_rfl) ((Below.refl _ wr).drew) (fun hS => ?_)
          refine tk 0 hS ?_
          refine tk 1 hS ?_
          refine tk 2 hS ?_
          refine tk (v := .agg (rsA x)) 3 hS ?_ (hy := by intro wz hz; exact exec_load_in 33 (.tmp 16) rfl b (o + k * 2) rfl (encR x) 2 strR rfl (fun j v hv => (hz.cell (p := ⟨b, o + k * 2 + j, none⟩) hbw).trans (R1.out j v hv)))
          refine tk (v := .agg (rsA r)) 4 hS ?_ (hy := by intro wz hz; exact exec_load_at 33 (.tmp 3) rfl b3 rfl (rsA r) 2 strR rfl (A3R.out.under hz A3R.out.lt))
          refine tk (v := .bool false) 5 hS ?_ (hy := by intro wz hz; exact exec_eqRb (.tmp 17) (.tmp 18) rfl x r _ HBQ.out rfl rfl)
          refine wpAnyH_done (by kernel_rfl) ?_ _
          have HD1 := Lib.hid (HS.out.under hS)
          have A3D := Lib.hid (A3R.out.under hS A3R.out.lt)
          have R2 : Hid (wr.drew.rangeAt b (o + k * 2) (encR x)) := fun j v hv => (hS.cell (p := ⟨b, o + k * 2 + j, none⟩) hbw).trans (R1.out j v hv)
          have hbd : b < wr.drew.heap.size := Nat.lt_of_lt_of_le hbw hS.size
          generalize wr.drew = we at HD1 A3D R2 hbd ⊢
          clear hS
          go_upto_region 8 with fail
          refine wp_region_held_drew (S := Below we.heap.size we) (by kernel_rfl) ((Below.refl _ we).drew) (fun hS => ?_)
          refine tk 0 hS ?_
          refine tk 1 hS ?_
          refine tk 2 hS ?_
          refine sk 3 hS ?_
          refine sk 4 hS ?_
          refine sk 5 hS ?_
          refine sk 6 hS ?_
          refine sk 7 hS ?_
          refine sk 8 hS ?_
          refine sk 9 hS ?_
          refine sk 10 hS ?_
          refine sk 11 hS ?_
          refine sk 12 hS ?_
          refine sk 13 hS ?_
          refine sk 14 hS ?_
          refine sk 15 hS ?_
          refine sk 16 hS ?_
          refine sk 17 hS ?_
          refine sk 18 hS ?_
          refine sk 19 hS ?_
          refine sk 20 hS ?_
          refine sk 21 hS ?_
          refine sk 22 hS ?_
          refine sk 23 hS ?_
          refine sk 24 hS ?_
          refine sk 25 hS ?_
          refine sk 26 hS ?_
          refine sk 27 hS ?_
          refine sk 28 hS ?_
          refine sk 29 hS ?_
          refine sk 30 hS ?_
          refine tk 31 hS ?_
          refine wpAnyH_done (by kernel_rfl) ?_ _
          have HD := Lib.hid (HD1.out.under hS)
          have A3E := Lib.hid (A3D.out.under hS A3D.out.lt)
          have R3 : Hid (we.drew.rangeAt b (o + k * 2) (encR x)) := fun j v hv => (hS.cell (p := ⟨b, o + k * 2 + j, none⟩) hbd).trans (R2.out j v hv)
          have hbe : b < we.drew.heap.size := Nat.lt_of_lt_of_le hbd hS.size
          generalize we.drew = wd at HD A3E R3 hbe ⊢
          clear hS
          have OWN := Lib.hid (own_under HD.out.own ((Below.refl _ wd).alloc (Nat.le_refl _) (.cells (rsA x) 33)) (Nat.le_refl _))
          have LN := Lib.hid (lies_rs (At.new wd 33 (rsA x)))
          have HSZ : Hid (z0.heap.size ≤ (wd.alloc (.cells (rsA x) 33)).heap.size) := by have := HD.out.below.size; show _ ≤ _; simp; omega
          rw [HNF.out] at OWN
          obtain ⟨i0, hi0, hz0, hz1, hz2⟩ := r_info
          go_wp2_with (first
                      | refine wpList_load_in 33 60 (.tmp 59) rfl rfl rfl b (o + k * 2) rfl (encR x) 2 strR rfl R3.out ?_
                      | refine wpList_lit1r rfl 61 (.tmp 60) 40 33 2 (rsV (0, 0)) (rsA x) rfl rfl rfl Tryz.underlying40 (by kernel_rfl) (by omega) (by omega) rfl ?_
                      | (at_builtin; refine wpList_app _ rfl (.tmp 56) (.tmp 61) 40 rfl z0.heap.size 33 i0 (rsV (0, 0)) 2 16 Tryz.underlying40 hi0 hz0 hz1 hz2 rfl (by omega) (.slice AF nF cF) nF (rsL F) rfl OWN.out _ (some ⟨wd.heap.size, 0, none⟩) 1 1 (rsL [x]) rfl LN.out (rs_one1 x) (by simp only [maxLen]; omega) (by omega) HSZ.out ?_; intro v5 w5 ho5 hg5))
          obtain ⟨A5, c5, rfl, _⟩ := own_slice ho5
          have hl5 : nF + 1 = (F ++ [x]).length := by rw [List.length_append, HNF.out]; rfl
          have hB := HD.out.app (x := x) ho5 hl5 hg5
          rw [hl5] at hB ⊢
          exact ⟨⟨k + 1, F ++ [x], A5, c5, true, by omega, rfl, rfl, by go_num, by omega, HP.out, hB⟩, by simp [intOf]; omega⟩
      · have HP : Hid (putF r false l = F ++ [x] ++ putF r true (l.drop (k + 1))) := by show _ = _; rw [HP1.out]; simp
        refine wp_region_held_drew (S := Below wr.heap.size wr) (by kernel_rfl) ((Below.refl _ wr).drew) (fun hS => ?_)
        refine tk 0 hS ?_
        refine tk 1 hS ?_
        refine tk 2 hS ?_
        refine tk (v := .agg (rsA x)) 3 hS ?_ (hy := by intro wz hz; exact exec_load_in 33 (.tmp 16) rfl b (o + k * 2) rfl (encR x) 2 strR rfl (fun j v hv => (hz.cell (p := ⟨b, o + k * 2 + j, none⟩) hbw).trans (R1.out j v hv)))
        refine tk (v := .agg (rsA r)) 4 hS ?_ (hy := by intro wz hz; exact exec_load_at 33 (.tmp 3) rfl b3 rfl (rsA r) 2 strR rfl (A3R.out.under hz A3R.out.lt))
        refine tk (v := .bool true) 5 hS ?_ (hy := by intro wz hz; exact exec_eqRb (.tmp 17) (.tmp 18) rfl x r _ HBQ.out rfl rfl)
        refine wpAnyH_done (by kernel_rfl) ?_ _
        have HD1 := Lib.hid (HS.out.under hS)
        have A3D := Lib.hid (A3R.out.under hS A3R.out.lt)
        have R2 : Hid (wr.drew.rangeAt b (o + k * 2) (encR x)) := fun j v hv => (hS.cell (p := ⟨b, o + k * 2 + j, none⟩) hbw).trans (R1.out j v hv)
        have hbd : b < wr.drew.heap.size := Nat.lt_of_lt_of_le hbw hS.size
        generalize wr.drew = we at HD1 A3D R2 hbd ⊢
        clear hS
        go_upto_region 8 with fail
        refine wp_region_held_drew (S := Below we.heap.size we) (by kernel_rfl) ((Below.refl _ we).drew) (fun hS => ?_)
        refine tk 0 hS ?_
        refine tk 1 hS ?_
        refine tk 2 hS ?_
        refine sk 3 hS ?_
        refine sk 4 hS ?_
        refine sk 5 hS ?_
        refine sk 6 hS ?_
        refine sk 7 hS ?_
        refine sk 8 hS ?_
        refine sk 9 hS ?_
        refine sk 10 hS ?_
        refine sk 11 hS ?_
        refine sk 12 hS ?_
        refine sk 13 hS ?_
        refine sk 14 hS ?_
        refine sk 15 hS ?_
        refine sk 16 hS ?_
        refine sk 17 hS ?_
        refine sk 18 hS ?_
        refine sk 19 hS ?_
        refine sk 20 hS ?_
        refine sk 21 hS ?_
        refine sk 22 hS ?_
        refine sk 23 hS ?_
        refine sk 24 hS ?_
        refine sk 25 hS ?_
        refine sk 26 hS ?_
        refine sk 27 hS ?_
        refine sk 28 hS ?_
        refine sk 29 hS ?_
        refine sk 30 hS ?_
        refine tk 31 hS ?_
        refine wpAnyH_done (by kernel_rfl) ?_ _
        have HD := Lib.hid (HD1.out.under hS)
        have A3E := Lib.hid (A3D.out.under hS A3D.out.lt)
        have R3 : Hid (we.drew.rangeAt b (o + k * 2) (encR x)) := fun j v hv => (hS.cell (p := ⟨b, o + k * 2 + j, none⟩) hbd).trans (R2.out j v hv)
        have hbe : b < we.drew.heap.size := Nat.lt_of_lt_of_le hbd hS.size
        generalize we.drew = wd at HD A3E R3 hbe ⊢
        clear hS
        have OWN := Lib.hid (own_under HD.out.own ((Below.refl _ wd).alloc (Nat.le_refl _) (.cells (rsA x) 33)) (Nat.le_refl _))
        have LN := Lib.hid (lies_rs (At.new wd 33 (rsA x)))
        have HSZ : Hid (z0.heap.size ≤ (wd.alloc (.cells (rsA x) 33)).heap.size) := by have := HD.out.below.size; show _ ≤ _; simp; omega
        rw [HNF.out] at OWN
        obtain ⟨i0, hi0, hz0, hz1, hz2⟩ := r_info
        go_wp2_with (first
                    | refine wpList_load_in 33 60 (.tmp 59) rfl rfl rfl b (o + k * 2) rfl (encR x) 2 strR rfl R3.out ?_
                    | refine wpList_lit1r rfl 61 (.tmp 60) 40 33 2 (rsV (0, 0)) (rsA x) rfl rfl rfl Tryz.underlying40 (by kernel_rfl) (by omega) (by omega) rfl ?_
                    | (at_builtin; refine wpList_app _ rfl (.tmp 56) (.tmp 61) 40 rfl z0.heap.size 33 i0 (rsV (0, 0)) 2 16 Tryz.underlying40 hi0 hz0 hz1 hz2 rfl (by omega) (.slice AF nF cF) nF (rsL F) rfl OWN.out _ (some ⟨wd.heap.size, 0, none⟩) 1 1 (rsL [x]) rfl LN.out (rs_one1 x) (by simp only [maxLen]; omega) (by omega) HSZ.out ?_; intro v5 w5 ho5 hg5))
        obtain ⟨A5, c5, rfl, _⟩ := own_slice ho5
        have hl5 : nF + 1 = (F ++ [x]).length := by rw [List.length_append, HNF.out]; rfl
        have hB := HD.out.app (x := x) ho5 hl5 hg5
        rw [hl5] at hB ⊢
        exact ⟨⟨k + 1, F ++ [x], A5, c5, true, by omega, rfl, rfl, by go_num, by omega, HP.out, hB⟩, by simp [intOf]; omega⟩
    · obtain rfl : k = n := by omega
      have hD : l.drop k = [] := by rw [← hlen, List.drop_length]
      rw [hD] at HP0
      clear hD
      cases d
      · have HE : Hid (putR l r = F ++ [r]) := HP0.out
        have A3E := A3R
        obtain ⟨wd, hwd⟩ : ∃ wd, wd = wr := ⟨_, rfl⟩
        subst hwd
        have HD := HS
        have OWN := Lib.hid (own_under HD.out.own ((Below.refl _ wd).alloc (Nat.le_refl _) (.cells (rsA r) 33)) (Nat.le_refl _))
        have LN := Lib.hid (lies_rs (At.new wd 33 (rsA r)))
        have HSZ : Hid (z0.heap.size ≤ (wd.alloc (.cells (rsA r) 33)).heap.size) := by have := HD.out.below.size; show _ ≤ _; simp; omega
        rw [HNF.out] at OWN
        obtain ⟨i0, hi0, hz0, hz1, hz2⟩ := r_info
        go_wp2_with (first
                    | refine wpList_load_at 33 66 (.tmp 3) rfl rfl rfl b3 rfl (rsA r) 2 strR rfl A3E.out ?_
                    | refine wpList_lit1r rfl 67 (.tmp 66) 40 33 2 (rsV (0, 0)) (rsA r) rfl rfl rfl Tryz.underlying40 (by kernel_rfl) (by omega) (by omega) rfl ?_
                    | (at_builtin; refine wpList_app _ rfl (.tmp 65) (.tmp 67) 40 rfl z0.heap.size 33 i0 (rsV (0, 0)) 2 16 Tryz.underlying40 hi0 hz0 hz1 hz2 rfl (by omega) (.slice AF nF cF) nF (rsL F) rfl OWN.out _ (some ⟨wd.heap.size, 0, none⟩) 1 1 (rsL [r]) rfl LN.out (rs_one1 r) (by simp only [maxLen]; omega) (by omega) HSZ.out ?_; intro v5 w5 ho5 hg5))
        obtain ⟨A5, c5, rfl, _⟩ := own_slice ho5
        have hl5 : nF + 1 = (F ++ [r]).length := by rw [List.length_append, HNF.out]; rfl
        have hB := HD.out.app (x := r) ho5 hl5 hg5
        rw [hl5] at hB ⊢
        go_ret
        refine PuR.from HB.out ⟨A5, c5, ?_, ?_, hB.below⟩
        · rw [HE.out]
          rfl
        · rw [HE.out]
          exact hB.own
      · have HE : Hid (putR l r = F) := by
          have h1 : putR l r = F ++ [] := HP0.out
          show _ = _
          rw [h1, List.append_nil]
        go_wp2_with fail
        go_ret
        refine PuR.from HB.out ⟨AF, cF, ?_, ?_, HS.out.below⟩
        · rw [HE.out]
          show _ = Ending.returned (.slice AF F.length cF)
          rw [HNF.out]
          rfl
        · rw [HE.out]
          have := HS.out.own
          rw [HNF.out] at this
          show World.ownsRow _ _ _ _ (.slice AF F.length cF) F.length (rsL F)
          rw [HNF.out]
          exact this
end Go.Proofs.YthbifccankfngaaGreatDoor
