/-
  The reference's put.
  Conditions: at most 100000 resources.
-/
import Derived.Test.YthbifccankfngaaGreatDoorR5Q
namespace Go.Proofs.YthbifccankfngaaGreatDoor
open Go.RowKit Go.Shelf
attribute [local go_sem] Oper.semAt_some
set_option maxRecDepth 20000

/-- Resources gathered: begun at w. -/
structure BuT (w : World) (F : List Rs) (v : Value) (z : World) : Prop where
  below : Below w.heap.size w z
  own : z.ownsRow w.heap.size 33 2 v F.length (rsL F)
theorem BuT.app {w z w5 : World} {F : List Rs} {v v5 : Value} {x : Rs} {N : Nat} (h : BuT w F v z) (ho : w5.ownsRow w.heap.size 33 2 v5 N (rsL F ++ rsL [x])) (hN : N = (F ++ [x]).length)
    (hg : (z.alloc (.cells (rsA x) 33)).grownBy w5 v.ownBlock) : BuT w (F ++ [x]) v5 w5 := by
  subst hN
  have hg2 : z.grownBy w5 v.ownBlock := (World.grownBy_alloc z _ _).andThen hg (fun j hj => .inr hj)
  refine ⟨below_own h.below h.own hg2 (Nat.le_refl _) h.below.size, ?_⟩
  rw [rsL_append]
  exact ho
theorem BuT.under {w z z' : World} {F : List Rs} {v : Value} (h : BuT w F v z) (hb : Below z.heap.size z z') : BuT w F v z' := ⟨h.below.trans (hb.mono h.below.size), own_under h.own hb (Nat.le_refl _)⟩
/-- Resources handed back, in a row of the call's own. -/
def PuR (w : World) (L : List Rs) (e : Ending) (w' : World) : Prop := ∃ A c, e = .returned (.slice A L.length c) ∧ w'.ownsRow w.heap.size 33 2 (.slice A L.length c) L.length (rsL L) ∧ Below w.heap.size w w'
theorem PuR.from {w z : World} {L : List Rs} {e : Ending} {w' : World} (hb : Below w.heap.size w z) (h : PuR z L e w') : PuR w L e w' := by
  obtain ⟨A, c, h1, h2, h3⟩ := h
  exact ⟨A, c, h1, own_base h2 hb.size, hb.trans (h3.mono hb.size)⟩
def PuL (w : World) (r : Rs) (l : List Rs) (n : Nat) (v m i : Value) (z : World) : Prop :=
  ∃ (k : Nat) (F : List Rs) (A : Option Addr) (c : Nat) (d : Bool), k ≤ n ∧ v = .slice A F.length c ∧ m = .bool d ∧ i = .int .i64 (k : Int) ∧ F.length ≤ 2 * k ∧ Hid (putF r false l = F ++ putF r d (l.drop k)) ∧ Hid (BuT w F (.slice A F.length c) z)
set_option maxHeartbeats 12800000 in
theorem rPut_any (A : Option Addr) (n c : Nat) (l : List Rs) (r : Rs) (w : World) (h : Lz (fun _ => False) w 2 A n (rsL l)) (hn : n ≤ 100000) :
    Calls Tryz.prog 58 #[.slice A n c, .agg (rsA r)] w (PuR w (putR l r)) := by
  have hlen : l.length = n := by have := h.len; rw [rsL_length] at this; omega
  obtain ⟨b3, hb3⟩ : ∃ b3, w.heap.size = b3 := ⟨_, rfl⟩
  have HB := Lib.hid (show Below w.heap.size w (w.alloc (.cells (rsA r) 33)) from (Below.refl _ w).alloc (Nat.le_refl _) _)
  have A3 := Lib.hid (At.new w 33 (rsA r))
  rw [hb3] at A3
  have HL := Lib.hid (h.below HB.out)
  clear h
  go_enter Tryz.func58, Tryz.ntmps58
  go_upto_region 1 with fail
  generalize w.alloc (.cells (rsA r) 33) = z0 at HB A3 HL ⊢
  have ST : Hid (BuT z0 [] (.slice none 0 0) z0) := ⟨Below.refl _ z0, World.ownsRow_nil _ _ 33 2⟩
  have hbz : b3 < z0.heap.size := A3.out.lt
  clear hb3
  go_wp2_with fail
  go_loopw [5, 6, 7] (fun v m i wr => PuL z0 r l n v m i wr) (fun _ _ i _ => n - (intOf i).toNat)
  case atStart => exact ⟨0, [], none, 0, false, Nat.zero_le _, rfl, rfl, rfl, Nat.zero_le _, Lib.hid rfl, ST⟩
  case round =>
    obtain ⟨k, F, AF, cF, d, hk, rfl, rfl, rfl, hFn, HP0, HS⟩ := hrel
    obtain ⟨nF, hnF⟩ : ∃ nF, F.length = nF := ⟨_, rfl⟩
    have HNF := Lib.hid hnF
    rw [hnF] at hFn HS ⊢
    clear hnF
    have A3R := Lib.hid (A3.out.under HS.out.below hbz)
    by_cases hlt : k < n
    · obtain ⟨b, o, hl, rfl, hb, hr⟩ := HL.out.rs hlt
      have hbw : b < wr.heap.size := Nat.lt_of_lt_of_le hb HS.out.below.size
      obtain ⟨x, hx⟩ : ∃ x, l[k] = x := ⟨_, rfl⟩
      have htk : l.drop k = x :: l.drop (k + 1) := by rw [List.drop_eq_getElem_cons hl, hx]
      rw [hx] at hr
      have RZ := Lib.hid hr
      have R1 : Hid (wr.rangeAt b (o + k * 2) (encR x)) := fun j v hv => (HS.out.below.cell (p := ⟨b, o + k * 2 + j, none⟩) hb).trans (hr j v hv)
      have HP1 : Hid (putF r false l = F ++ (if !(d || x == r) && ltR r x then r :: x :: putF r true (l.drop (k + 1)) else x :: putF r (d || x == r) (l.drop (k + 1)))) := by
        show _ = _
        rw [HP0.out, htk, putF]
      clear hr hx htk HP0
      obtain ⟨bq, hbq⟩ : ∃ bq, (x == r) = bq := ⟨_, rfl⟩
      rw [hbq] at HP1
      have HBQ := Lib.hid hbq
      clear hbq
      unfold ltR at HP1
      obtain ⟨lt1, hl1⟩ : ∃ lt1, decide (r.1 < x.1) = lt1 := ⟨_, rfl⟩
      obtain ⟨eq1, he1⟩ : ∃ eq1, (r.1 == x.1) = eq1 := ⟨_, rfl⟩
      obtain ⟨lt2, hl2⟩ : ∃ lt2, decide (r.2 < x.2) = lt2 := ⟨_, rfl⟩
      rw [hl1, he1, hl2] at HP1
      go_upto_region 6 with fail
      cases bq
      · cases d
        · refine wp_region_held_drew (S := Below wr.heap.size wr) (by kernel_rfl) ((Below.refl _ wr).drew) (fun hS => ?_)
          refine takeH (i := 0) (d := 14) (v := ?vp61x0) rfl (by kernel_rfl) (by kernel_rfl) (by kernel_rfl) (fun _ _ _ h => h) rfl (by rfl) ?yp61x0 hS ?rp61x0
          case yp61x0 => (intro wz hz; go_simp <;> with_reducible rfl)
          simp only [List.setIfInBounds_toArray, List.set_cons_zero, List.set_cons_succ]
          refine takeH (i := 1) (d := 15) (v := ?vp61x1) rfl (by kernel_rfl) (by kernel_rfl) (by kernel_rfl) (fun _ _ _ h => h) rfl (by rfl) ?yp61x1 hS ?rp61x1
          case yp61x1 => (intro wz hz; go_simp <;> with_reducible rfl)
          simp only [List.setIfInBounds_toArray, List.set_cons_zero, List.set_cons_succ]
          refine takeH (i := 2) (d := 16) (v := ?vp61x2) rfl (by kernel_rfl) (by kernel_rfl) (by kernel_rfl) (fun _ _ _ h => h) rfl (by rfl) ?yp61x2 hS ?rp61x2
          case yp61x2 => (intro wz hz; go_simp <;> with_reducible rfl)
          simp only [List.setIfInBounds_toArray, List.set_cons_zero, List.set_cons_succ]
          refine takeH (i := 3) (d := 17) (v := .agg (rsA x)) rfl (by kernel_rfl) (by kernel_rfl) (by kernel_rfl) (fun _ _ _ h => h) rfl (by rfl) ?yp61x3 hS ?rp61x3
          case yp61x3 => (intro wz hz; exact exec_load_in 33 (.tmp 16) rfl b (o + k * 2) rfl (encR x) 2 strR rfl (fun j v hv => (hz.cell (p := ⟨b, o + k * 2 + j, none⟩) hbw).trans (R1.out j v hv)))
          simp only [List.setIfInBounds_toArray, List.set_cons_zero, List.set_cons_succ]
          refine takeH (i := 4) (d := 18) (v := .agg (rsA r)) rfl (by kernel_rfl) (by kernel_rfl) (by kernel_rfl) (fun _ _ _ h => h) rfl (by rfl) ?yp61x4 hS ?rp61x4
          case yp61x4 => (intro wz hz; exact exec_load_at 33 (.tmp 3) rfl b3 rfl (rsA r) 2 strR rfl (A3R.out.under hz A3R.out.lt))
          simp only [List.setIfInBounds_toArray, List.set_cons_zero, List.set_cons_succ]
          refine takeH (i := 5) (d := 19) (v := .bool false) rfl (by kernel_rfl) (by kernel_rfl) (by kernel_rfl) (fun _ _ _ h => h) rfl (by rfl) ?yp61x5 hS ?rp61x5
          case yp61x5 => (intro wz hz; exact exec_eqRb (.tmp 17) (.tmp 18) rfl x r _ HBQ.out rfl rfl)
          simp only [List.setIfInBounds_toArray, List.set_cons_zero, List.set_cons_succ]
          refine wpAnyH_done (by kernel_rfl) ?_ _
          have HD1 := Lib.hid (HS.out.under hS)
          have A3D := Lib.hid (A3R.out.under hS A3R.out.lt)
          have R2 : Hid (wr.drew.rangeAt b (o + k * 2) (encR x)) := fun j v hv => (hS.cell (p := ⟨b, o + k * 2 + j, none⟩) hbw).trans (R1.out j v hv)
          have hbd : b < wr.drew.heap.size := Nat.lt_of_lt_of_le hbw hS.size
          generalize wr.drew = we at HD1 A3D R2 hbd ⊢
          clear hS
          go_upto_region 8 with fail
          cases lt1
          · cases eq1
            · have HP : Hid (putF r false l = F ++ [x] ++ putF r false (l.drop (k + 1))) := by show _ = _; rw [HP1.out]; simp
              refine wp_region_held_drew (S := Below we.heap.size we) (by kernel_rfl) ((Below.refl _ we).drew) (fun hS => ?_)
              refine takeH (i := 0) (d := 20) (v := ?vp82y0) rfl (by kernel_rfl) (by kernel_rfl) (by kernel_rfl) (fun _ _ _ h => h) rfl (by rfl) ?yp82y0 hS ?rp82y0
              case yp82y0 => (intro wz hz; have q0 : wz.cell? ⟨b, o + k * 2, none⟩ = some (.int .i64 x.1) := (hz.cell (p := ⟨b, o + k * 2, none⟩) hbd).trans (R2.out 0 _ rfl); have q1 : wz.cell? ⟨b, o + k * 2 + 1, none⟩ = some (.int .u64 (x.2 : Int)) := (hz.cell (p := ⟨b, o + k * 2 + 1, none⟩) hbd).trans (R2.out 1 _ rfl); have r0 : wz.cell? ⟨b3, 0, none⟩ = some (.int .i64 r.1) := (A3D.out.under hz A3D.out.lt).cell 0; have r1 : wz.cell? ⟨b3, 1, none⟩ = some (.int .u64 (r.2 : Int)) := (A3D.out.under hz A3D.out.lt).cell 1; go_simp <;> with_reducible rfl)
              simp only [List.setIfInBounds_toArray, List.set_cons_zero, List.set_cons_succ]
              refine takeH (i := 1) (d := 21) (v := ?vp82y1) rfl (by kernel_rfl) (by kernel_rfl) (by kernel_rfl) (fun _ _ _ h => h) rfl (by rfl) ?yp82y1 hS ?rp82y1
              case yp82y1 => (intro wz hz; have q0 : wz.cell? ⟨b, o + k * 2, none⟩ = some (.int .i64 x.1) := (hz.cell (p := ⟨b, o + k * 2, none⟩) hbd).trans (R2.out 0 _ rfl); have q1 : wz.cell? ⟨b, o + k * 2 + 1, none⟩ = some (.int .u64 (x.2 : Int)) := (hz.cell (p := ⟨b, o + k * 2 + 1, none⟩) hbd).trans (R2.out 1 _ rfl); have r0 : wz.cell? ⟨b3, 0, none⟩ = some (.int .i64 r.1) := (A3D.out.under hz A3D.out.lt).cell 0; have r1 : wz.cell? ⟨b3, 1, none⟩ = some (.int .u64 (r.2 : Int)) := (A3D.out.under hz A3D.out.lt).cell 1; go_simp <;> with_reducible rfl)
              simp only [List.setIfInBounds_toArray, List.set_cons_zero, List.set_cons_succ]
              refine takeH (i := 2) (d := 22) (v := ?vp82y2) rfl (by kernel_rfl) (by kernel_rfl) (by kernel_rfl) (fun _ _ _ h => h) rfl (by rfl) ?yp82y2 hS ?rp82y2
              case yp82y2 => (intro wz hz; have q0 : wz.cell? ⟨b, o + k * 2, none⟩ = some (.int .i64 x.1) := (hz.cell (p := ⟨b, o + k * 2, none⟩) hbd).trans (R2.out 0 _ rfl); have q1 : wz.cell? ⟨b, o + k * 2 + 1, none⟩ = some (.int .u64 (x.2 : Int)) := (hz.cell (p := ⟨b, o + k * 2 + 1, none⟩) hbd).trans (R2.out 1 _ rfl); have r0 : wz.cell? ⟨b3, 0, none⟩ = some (.int .i64 r.1) := (A3D.out.under hz A3D.out.lt).cell 0; have r1 : wz.cell? ⟨b3, 1, none⟩ = some (.int .u64 (r.2 : Int)) := (A3D.out.under hz A3D.out.lt).cell 1; go_simp <;> with_reducible rfl)
              simp only [List.setIfInBounds_toArray, List.set_cons_zero, List.set_cons_succ]
              refine takeH (i := 3) (d := 23) (v := ?vp82y3) rfl (by kernel_rfl) (by kernel_rfl) (by kernel_rfl) (fun _ _ _ h => h) rfl (by rfl) ?yp82y3 hS ?rp82y3
              case yp82y3 => (intro wz hz; have q0 : wz.cell? ⟨b, o + k * 2, none⟩ = some (.int .i64 x.1) := (hz.cell (p := ⟨b, o + k * 2, none⟩) hbd).trans (R2.out 0 _ rfl); have q1 : wz.cell? ⟨b, o + k * 2 + 1, none⟩ = some (.int .u64 (x.2 : Int)) := (hz.cell (p := ⟨b, o + k * 2 + 1, none⟩) hbd).trans (R2.out 1 _ rfl); have r0 : wz.cell? ⟨b3, 0, none⟩ = some (.int .i64 r.1) := (A3D.out.under hz A3D.out.lt).cell 0; have r1 : wz.cell? ⟨b3, 1, none⟩ = some (.int .u64 (r.2 : Int)) := (A3D.out.under hz A3D.out.lt).cell 1; go_simp <;> with_reducible rfl)
              simp only [List.setIfInBounds_toArray, List.set_cons_zero, List.set_cons_succ]
              refine takeH (i := 4) (d := 24) (v := ?vp82y4) rfl (by kernel_rfl) (by kernel_rfl) (by kernel_rfl) (fun _ _ _ h => h) rfl (by rfl) ?yp82y4 hS ?rp82y4
              case yp82y4 => (intro wz hz; have q0 : wz.cell? ⟨b, o + k * 2, none⟩ = some (.int .i64 x.1) := (hz.cell (p := ⟨b, o + k * 2, none⟩) hbd).trans (R2.out 0 _ rfl); have q1 : wz.cell? ⟨b, o + k * 2 + 1, none⟩ = some (.int .u64 (x.2 : Int)) := (hz.cell (p := ⟨b, o + k * 2 + 1, none⟩) hbd).trans (R2.out 1 _ rfl); have r0 : wz.cell? ⟨b3, 0, none⟩ = some (.int .i64 r.1) := (A3D.out.under hz A3D.out.lt).cell 0; have r1 : wz.cell? ⟨b3, 1, none⟩ = some (.int .u64 (r.2 : Int)) := (A3D.out.under hz A3D.out.lt).cell 1; go_simp <;> with_reducible rfl)
              simp only [List.setIfInBounds_toArray, List.set_cons_zero, List.set_cons_succ]
              refine takeH (i := 5) (d := 25) (v := ?vp82y5) rfl (by kernel_rfl) (by kernel_rfl) (by kernel_rfl) (fun _ _ _ h => h) rfl (by rfl) ?yp82y5 hS ?rp82y5
              case yp82y5 => (intro wz hz; have q0 : wz.cell? ⟨b, o + k * 2, none⟩ = some (.int .i64 x.1) := (hz.cell (p := ⟨b, o + k * 2, none⟩) hbd).trans (R2.out 0 _ rfl); have q1 : wz.cell? ⟨b, o + k * 2 + 1, none⟩ = some (.int .u64 (x.2 : Int)) := (hz.cell (p := ⟨b, o + k * 2 + 1, none⟩) hbd).trans (R2.out 1 _ rfl); have r0 : wz.cell? ⟨b3, 0, none⟩ = some (.int .i64 r.1) := (A3D.out.under hz A3D.out.lt).cell 0; have r1 : wz.cell? ⟨b3, 1, none⟩ = some (.int .u64 (r.2 : Int)) := (A3D.out.under hz A3D.out.lt).cell 1; go_simp <;> with_reducible rfl)
              simp only [List.setIfInBounds_toArray, List.set_cons_zero, List.set_cons_succ]
              refine takeH (i := 6) (d := 26) (v := ?vp82y6) rfl (by kernel_rfl) (by kernel_rfl) (by kernel_rfl) (fun _ _ _ h => h) rfl (by rfl) ?yp82y6 hS ?rp82y6
              case yp82y6 => (intro wz hz; have q0 : wz.cell? ⟨b, o + k * 2, none⟩ = some (.int .i64 x.1) := (hz.cell (p := ⟨b, o + k * 2, none⟩) hbd).trans (R2.out 0 _ rfl); have q1 : wz.cell? ⟨b, o + k * 2 + 1, none⟩ = some (.int .u64 (x.2 : Int)) := (hz.cell (p := ⟨b, o + k * 2 + 1, none⟩) hbd).trans (R2.out 1 _ rfl); have r0 : wz.cell? ⟨b3, 0, none⟩ = some (.int .i64 r.1) := (A3D.out.under hz A3D.out.lt).cell 0; have r1 : wz.cell? ⟨b3, 1, none⟩ = some (.int .u64 (r.2 : Int)) := (A3D.out.under hz A3D.out.lt).cell 1; go_simp <;> with_reducible rfl)
              simp only [List.setIfInBounds_toArray, List.set_cons_zero, List.set_cons_succ]
              refine takeH (i := 7) (d := 27) (v := ?vp82y7) rfl (by kernel_rfl) (by kernel_rfl) (by kernel_rfl) (fun _ _ _ h => h) rfl (by rfl) ?yp82y7 hS ?rp82y7
              case yp82y7 => (intro wz hz; have q0 : wz.cell? ⟨b, o + k * 2, none⟩ = some (.int .i64 x.1) := (hz.cell (p := ⟨b, o + k * 2, none⟩) hbd).trans (R2.out 0 _ rfl); have q1 : wz.cell? ⟨b, o + k * 2 + 1, none⟩ = some (.int .u64 (x.2 : Int)) := (hz.cell (p := ⟨b, o + k * 2 + 1, none⟩) hbd).trans (R2.out 1 _ rfl); have r0 : wz.cell? ⟨b3, 0, none⟩ = some (.int .i64 r.1) := (A3D.out.under hz A3D.out.lt).cell 0; have r1 : wz.cell? ⟨b3, 1, none⟩ = some (.int .u64 (r.2 : Int)) := (A3D.out.under hz A3D.out.lt).cell 1; go_simp <;> with_reducible rfl)
              simp only [List.setIfInBounds_toArray, List.set_cons_zero, List.set_cons_succ]
              refine takeH (i := 8) (d := 28) (v := ?vp82y8) rfl (by kernel_rfl) (by kernel_rfl) (by kernel_rfl) (fun _ _ _ h => h) rfl (by rfl) ?yp82y8 hS ?rp82y8
              case yp82y8 => (intro wz hz; have q0 : wz.cell? ⟨b, o + k * 2, none⟩ = some (.int .i64 x.1) := (hz.cell (p := ⟨b, o + k * 2, none⟩) hbd).trans (R2.out 0 _ rfl); have q1 : wz.cell? ⟨b, o + k * 2 + 1, none⟩ = some (.int .u64 (x.2 : Int)) := (hz.cell (p := ⟨b, o + k * 2 + 1, none⟩) hbd).trans (R2.out 1 _ rfl); have r0 : wz.cell? ⟨b3, 0, none⟩ = some (.int .i64 r.1) := (A3D.out.under hz A3D.out.lt).cell 0; have r1 : wz.cell? ⟨b3, 1, none⟩ = some (.int .u64 (r.2 : Int)) := (A3D.out.under hz A3D.out.lt).cell 1; go_simp <;> with_reducible rfl)
              simp only [List.setIfInBounds_toArray, List.set_cons_zero, List.set_cons_succ]
              refine takeH (i := 9) (d := 29) (v := ?vp82y9) rfl (by kernel_rfl) (by kernel_rfl) (by kernel_rfl) (fun _ _ _ h => h) rfl (by rfl) ?yp82y9 hS ?rp82y9
              case yp82y9 => (intro wz hz; have q0 : wz.cell? ⟨b, o + k * 2, none⟩ = some (.int .i64 x.1) := (hz.cell (p := ⟨b, o + k * 2, none⟩) hbd).trans (R2.out 0 _ rfl); have q1 : wz.cell? ⟨b, o + k * 2 + 1, none⟩ = some (.int .u64 (x.2 : Int)) := (hz.cell (p := ⟨b, o + k * 2 + 1, none⟩) hbd).trans (R2.out 1 _ rfl); have r0 : wz.cell? ⟨b3, 0, none⟩ = some (.int .i64 r.1) := (A3D.out.under hz A3D.out.lt).cell 0; have r1 : wz.cell? ⟨b3, 1, none⟩ = some (.int .u64 (r.2 : Int)) := (A3D.out.under hz A3D.out.lt).cell 1; go_simp <;> with_reducible rfl)
              simp only [List.setIfInBounds_toArray, List.set_cons_zero, List.set_cons_succ]
              refine takeH (i := 10) (d := 30) (v := ?vp82y10) rfl (by kernel_rfl) (by kernel_rfl) (by kernel_rfl) (fun _ _ _ h => h) rfl (by rfl) ?yp82y10 hS ?rp82y10
              case yp82y10 => (intro wz hz; have q0 : wz.cell? ⟨b, o + k * 2, none⟩ = some (.int .i64 x.1) := (hz.cell (p := ⟨b, o + k * 2, none⟩) hbd).trans (R2.out 0 _ rfl); have q1 : wz.cell? ⟨b, o + k * 2 + 1, none⟩ = some (.int .u64 (x.2 : Int)) := (hz.cell (p := ⟨b, o + k * 2 + 1, none⟩) hbd).trans (R2.out 1 _ rfl); have r0 : wz.cell? ⟨b3, 0, none⟩ = some (.int .i64 r.1) := (A3D.out.under hz A3D.out.lt).cell 0; have r1 : wz.cell? ⟨b3, 1, none⟩ = some (.int .u64 (r.2 : Int)) := (A3D.out.under hz A3D.out.lt).cell 1; go_simp <;> with_reducible rfl)
              simp only [List.setIfInBounds_toArray, List.set_cons_zero, List.set_cons_succ]
              refine takeH (i := 11) (d := 31) (v := ?vp82y11) rfl (by kernel_rfl) (by kernel_rfl) (by kernel_rfl) (fun _ _ _ h => h) rfl (by rfl) ?yp82y11 hS ?rp82y11
              case yp82y11 => (intro wz hz; have q0 : wz.cell? ⟨b, o + k * 2, none⟩ = some (.int .i64 x.1) := (hz.cell (p := ⟨b, o + k * 2, none⟩) hbd).trans (R2.out 0 _ rfl); have q1 : wz.cell? ⟨b, o + k * 2 + 1, none⟩ = some (.int .u64 (x.2 : Int)) := (hz.cell (p := ⟨b, o + k * 2 + 1, none⟩) hbd).trans (R2.out 1 _ rfl); have r0 : wz.cell? ⟨b3, 0, none⟩ = some (.int .i64 r.1) := (A3D.out.under hz A3D.out.lt).cell 0; have r1 : wz.cell? ⟨b3, 1, none⟩ = some (.int .u64 (r.2 : Int)) := (A3D.out.under hz A3D.out.lt).cell 1; go_simp <;> with_reducible rfl)
              simp only [List.setIfInBounds_toArray, List.set_cons_zero, List.set_cons_succ]
              refine takeH (i := 12) (d := 32) (v := ?vp82y12) rfl (by kernel_rfl) (by kernel_rfl) (by kernel_rfl) (fun _ _ _ h => h) rfl (by rfl) ?yp82y12 hS ?rp82y12
              case yp82y12 => (intro wz hz; have q0 : wz.cell? ⟨b, o + k * 2, none⟩ = some (.int .i64 x.1) := (hz.cell (p := ⟨b, o + k * 2, none⟩) hbd).trans (R2.out 0 _ rfl); have q1 : wz.cell? ⟨b, o + k * 2 + 1, none⟩ = some (.int .u64 (x.2 : Int)) := (hz.cell (p := ⟨b, o + k * 2 + 1, none⟩) hbd).trans (R2.out 1 _ rfl); have r0 : wz.cell? ⟨b3, 0, none⟩ = some (.int .i64 r.1) := (A3D.out.under hz A3D.out.lt).cell 0; have r1 : wz.cell? ⟨b3, 1, none⟩ = some (.int .u64 (r.2 : Int)) := (A3D.out.under hz A3D.out.lt).cell 1; go_simp <;> with_reducible rfl)
              simp only [List.setIfInBounds_toArray, List.set_cons_zero, List.set_cons_succ]
              refine takeH (i := 13) (d := 33) (v := ?vp82y13) rfl (by kernel_rfl) (by kernel_rfl) (by kernel_rfl) (fun _ _ _ h => h) rfl (by rfl) ?yp82y13 hS ?rp82y13
              case yp82y13 => (intro wz hz; have q0 : wz.cell? ⟨b, o + k * 2, none⟩ = some (.int .i64 x.1) := (hz.cell (p := ⟨b, o + k * 2, none⟩) hbd).trans (R2.out 0 _ rfl); have q1 : wz.cell? ⟨b, o + k * 2 + 1, none⟩ = some (.int .u64 (x.2 : Int)) := (hz.cell (p := ⟨b, o + k * 2 + 1, none⟩) hbd).trans (R2.out 1 _ rfl); have r0 : wz.cell? ⟨b3, 0, none⟩ = some (.int .i64 r.1) := (A3D.out.under hz A3D.out.lt).cell 0; have r1 : wz.cell? ⟨b3, 1, none⟩ = some (.int .u64 (r.2 : Int)) := (A3D.out.under hz A3D.out.lt).cell 1; go_simp <;> with_reducible rfl)
              simp only [List.setIfInBounds_toArray, List.set_cons_zero, List.set_cons_succ]
              refine takeH (i := 14) (d := 34) (v := ?vp82y14) rfl (by kernel_rfl) (by kernel_rfl) (by kernel_rfl) (fun _ _ _ h => h) rfl (by rfl) ?yp82y14 hS ?rp82y14
              case yp82y14 => (intro wz hz; have q0 : wz.cell? ⟨b, o + k * 2, none⟩ = some (.int .i64 x.1) := (hz.cell (p := ⟨b, o + k * 2, none⟩) hbd).trans (R2.out 0 _ rfl); have q1 : wz.cell? ⟨b, o + k * 2 + 1, none⟩ = some (.int .u64 (x.2 : Int)) := (hz.cell (p := ⟨b, o + k * 2 + 1, none⟩) hbd).trans (R2.out 1 _ rfl); have r0 : wz.cell? ⟨b3, 0, none⟩ = some (.int .i64 r.1) := (A3D.out.under hz A3D.out.lt).cell 0; have r1 : wz.cell? ⟨b3, 1, none⟩ = some (.int .u64 (r.2 : Int)) := (A3D.out.under hz A3D.out.lt).cell 1; go_simp <;> with_reducible rfl)
              simp only [List.setIfInBounds_toArray, List.set_cons_zero, List.set_cons_succ]
              refine takeH (i := 15) (d := 35) (v := ?vp82y15) rfl (by kernel_rfl) (by kernel_rfl) (by kernel_rfl) (fun _ _ _ h => h) rfl (by rfl) ?yp82y15 hS ?rp82y15
              case yp82y15 => (intro wz hz; have q0 : wz.cell? ⟨b, o + k * 2, none⟩ = some (.int .i64 x.1) := (hz.cell (p := ⟨b, o + k * 2, none⟩) hbd).trans (R2.out 0 _ rfl); have q1 : wz.cell? ⟨b, o + k * 2 + 1, none⟩ = some (.int .u64 (x.2 : Int)) := (hz.cell (p := ⟨b, o + k * 2 + 1, none⟩) hbd).trans (R2.out 1 _ rfl); have r0 : wz.cell? ⟨b3, 0, none⟩ = some (.int .i64 r.1) := (A3D.out.under hz A3D.out.lt).cell 0; have r1 : wz.cell? ⟨b3, 1, none⟩ = some (.int .u64 (r.2 : Int)) := (A3D.out.under hz A3D.out.lt).cell 1; go_simp <;> with_reducible rfl)
              simp only [List.setIfInBounds_toArray, List.set_cons_zero, List.set_cons_succ]
              refine takeH (i := 16) (d := 36) (v := ?vp82y16) rfl (by kernel_rfl) (by kernel_rfl) (by kernel_rfl) (fun _ _ _ h => h) rfl (by rfl) ?yp82y16 hS ?rp82y16
              case yp82y16 => (intro wz hz; have q0 : wz.cell? ⟨b, o + k * 2, none⟩ = some (.int .i64 x.1) := (hz.cell (p := ⟨b, o + k * 2, none⟩) hbd).trans (R2.out 0 _ rfl); have q1 : wz.cell? ⟨b, o + k * 2 + 1, none⟩ = some (.int .u64 (x.2 : Int)) := (hz.cell (p := ⟨b, o + k * 2 + 1, none⟩) hbd).trans (R2.out 1 _ rfl); have r0 : wz.cell? ⟨b3, 0, none⟩ = some (.int .i64 r.1) := (A3D.out.under hz A3D.out.lt).cell 0; have r1 : wz.cell? ⟨b3, 1, none⟩ = some (.int .u64 (r.2 : Int)) := (A3D.out.under hz A3D.out.lt).cell 1; go_simp <;> with_reducible rfl)
              simp only [List.setIfInBounds_toArray, List.set_cons_zero, List.set_cons_succ]
              refine takeH (i := 17) (d := 37) (v := ?vp82y17) rfl (by kernel_rfl) (by kernel_rfl) (by kernel_rfl) (fun _ _ _ h => h) rfl (by rfl) ?yp82y17 hS ?rp82y17
              case yp82y17 => (intro wz hz; have q0 : wz.cell? ⟨b, o + k * 2, none⟩ = some (.int .i64 x.1) := (hz.cell (p := ⟨b, o + k * 2, none⟩) hbd).trans (R2.out 0 _ rfl); have q1 : wz.cell? ⟨b, o + k * 2 + 1, none⟩ = some (.int .u64 (x.2 : Int)) := (hz.cell (p := ⟨b, o + k * 2 + 1, none⟩) hbd).trans (R2.out 1 _ rfl); have r0 : wz.cell? ⟨b3, 0, none⟩ = some (.int .i64 r.1) := (A3D.out.under hz A3D.out.lt).cell 0; have r1 : wz.cell? ⟨b3, 1, none⟩ = some (.int .u64 (r.2 : Int)) := (A3D.out.under hz A3D.out.lt).cell 1; go_simp <;> with_reducible rfl)
              simp only [List.setIfInBounds_toArray, List.set_cons_zero, List.set_cons_succ]
              refine takeH (i := 18) (d := 38) (v := ?vp82y18) rfl (by kernel_rfl) (by kernel_rfl) (by kernel_rfl) (fun _ _ _ h => h) rfl (by rfl) ?yp82y18 hS ?rp82y18
              case yp82y18 => (intro wz hz; have q0 : wz.cell? ⟨b, o + k * 2, none⟩ = some (.int .i64 x.1) := (hz.cell (p := ⟨b, o + k * 2, none⟩) hbd).trans (R2.out 0 _ rfl); have q1 : wz.cell? ⟨b, o + k * 2 + 1, none⟩ = some (.int .u64 (x.2 : Int)) := (hz.cell (p := ⟨b, o + k * 2 + 1, none⟩) hbd).trans (R2.out 1 _ rfl); have r0 : wz.cell? ⟨b3, 0, none⟩ = some (.int .i64 r.1) := (A3D.out.under hz A3D.out.lt).cell 0; have r1 : wz.cell? ⟨b3, 1, none⟩ = some (.int .u64 (r.2 : Int)) := (A3D.out.under hz A3D.out.lt).cell 1; go_simp <;> with_reducible rfl)
              simp only [List.setIfInBounds_toArray, List.set_cons_zero, List.set_cons_succ]
              refine takeH (i := 19) (d := 39) (v := ?vp82y19) rfl (by kernel_rfl) (by kernel_rfl) (by kernel_rfl) (fun _ _ _ h => h) rfl (by rfl) ?yp82y19 hS ?rp82y19
              case yp82y19 => (intro wz hz; have q0 : wz.cell? ⟨b, o + k * 2, none⟩ = some (.int .i64 x.1) := (hz.cell (p := ⟨b, o + k * 2, none⟩) hbd).trans (R2.out 0 _ rfl); have q1 : wz.cell? ⟨b, o + k * 2 + 1, none⟩ = some (.int .u64 (x.2 : Int)) := (hz.cell (p := ⟨b, o + k * 2 + 1, none⟩) hbd).trans (R2.out 1 _ rfl); have r0 : wz.cell? ⟨b3, 0, none⟩ = some (.int .i64 r.1) := (A3D.out.under hz A3D.out.lt).cell 0; have r1 : wz.cell? ⟨b3, 1, none⟩ = some (.int .u64 (r.2 : Int)) := (A3D.out.under hz A3D.out.lt).cell 1; go_simp <;> with_reducible rfl)
              simp only [List.setIfInBounds_toArray, List.set_cons_zero, List.set_cons_succ]
              refine takeH (i := 20) (d := 40) (v := ?vp82y20) rfl (by kernel_rfl) (by kernel_rfl) (by kernel_rfl) (fun _ _ _ h => h) rfl (by rfl) ?yp82y20 hS ?rp82y20
              case yp82y20 => (intro wz hz; have q0 : wz.cell? ⟨b, o + k * 2, none⟩ = some (.int .i64 x.1) := (hz.cell (p := ⟨b, o + k * 2, none⟩) hbd).trans (R2.out 0 _ rfl); have q1 : wz.cell? ⟨b, o + k * 2 + 1, none⟩ = some (.int .u64 (x.2 : Int)) := (hz.cell (p := ⟨b, o + k * 2 + 1, none⟩) hbd).trans (R2.out 1 _ rfl); have r0 : wz.cell? ⟨b3, 0, none⟩ = some (.int .i64 r.1) := (A3D.out.under hz A3D.out.lt).cell 0; have r1 : wz.cell? ⟨b3, 1, none⟩ = some (.int .u64 (r.2 : Int)) := (A3D.out.under hz A3D.out.lt).cell 1; go_simp <;> with_reducible rfl)
              simp only [List.setIfInBounds_toArray, List.set_cons_zero, List.set_cons_succ]
              refine skipH (i := 21) (d := 41) rfl (by kernel_rfl) (by kernel_rfl) (by kernel_rfl) (fun _ _ _ h => h) rfl (by rfl) hS ?_
              simp only [List.setIfInBounds_toArray, List.set_cons_zero, List.set_cons_succ]
              refine skipH (i := 22) (d := 42) rfl (by kernel_rfl) (by kernel_rfl) (by kernel_rfl) (fun _ _ _ h => h) rfl (by rfl) hS ?_
              simp only [List.setIfInBounds_toArray, List.set_cons_zero, List.set_cons_succ]
              refine skipH (i := 23) (d := 43) rfl (by kernel_rfl) (by kernel_rfl) (by kernel_rfl) (fun _ _ _ h => h) rfl (by rfl) hS ?_
              simp only [List.setIfInBounds_toArray, List.set_cons_zero, List.set_cons_succ]
              refine skipH (i := 24) (d := 44) rfl (by kernel_rfl) (by kernel_rfl) (by kernel_rfl) (fun _ _ _ h => h) rfl (by rfl) hS ?_
              simp only [List.setIfInBounds_toArray, List.set_cons_zero, List.set_cons_succ]
              refine skipH (i := 25) (d := 45) rfl (by kernel_rfl) (by kernel_rfl) (by kernel_rfl) (fun _ _ _ h => h) rfl (by rfl) hS ?_
              simp only [List.setIfInBounds_toArray, List.set_cons_zero, List.set_cons_succ]
              refine skipH (i := 26) (d := 46) rfl (by kernel_rfl) (by kernel_rfl) (by kernel_rfl) (fun _ _ _ h => h) rfl (by rfl) hS ?_
              simp only [List.setIfInBounds_toArray, List.set_cons_zero, List.set_cons_succ]
              refine skipH (i := 27) (d := 47) rfl (by kernel_rfl) (by kernel_rfl) (by kernel_rfl) (fun _ _ _ h => h) rfl (by rfl) hS ?_
              simp only [List.setIfInBounds_toArray, List.set_cons_zero, List.set_cons_succ]
              refine skipH (i := 28) (d := 48) rfl (by kernel_rfl) (by kernel_rfl) (by kernel_rfl) (fun _ _ _ h => h) rfl (by rfl) hS ?_
              simp only [List.setIfInBounds_toArray, List.set_cons_zero, List.set_cons_succ]
              refine takeH (i := 29) (d := 49) (v := ?vp82y29) rfl (by kernel_rfl) (by kernel_rfl) (by kernel_rfl) (fun _ _ _ h => h) rfl (by rfl) ?yp82y29 hS ?rp82y29
              case yp82y29 => (intro wz hz; have q0 : wz.cell? ⟨b, o + k * 2, none⟩ = some (.int .i64 x.1) := (hz.cell (p := ⟨b, o + k * 2, none⟩) hbd).trans (R2.out 0 _ rfl); have q1 : wz.cell? ⟨b, o + k * 2 + 1, none⟩ = some (.int .u64 (x.2 : Int)) := (hz.cell (p := ⟨b, o + k * 2 + 1, none⟩) hbd).trans (R2.out 1 _ rfl); have r0 : wz.cell? ⟨b3, 0, none⟩ = some (.int .i64 r.1) := (A3D.out.under hz A3D.out.lt).cell 0; have r1 : wz.cell? ⟨b3, 1, none⟩ = some (.int .u64 (r.2 : Int)) := (A3D.out.under hz A3D.out.lt).cell 1; go_simp <;> with_reducible rfl)
              simp only [List.setIfInBounds_toArray, List.set_cons_zero, List.set_cons_succ]
              refine takeH (i := 30) (d := 50) (v := ?vp82y30) rfl (by kernel_rfl) (by kernel_rfl) (by kernel_rfl) (fun _ _ _ h => h) rfl (by rfl) ?yp82y30 hS ?rp82y30
              case yp82y30 => (intro wz hz; have q0 : wz.cell? ⟨b, o + k * 2, none⟩ = some (.int .i64 x.1) := (hz.cell (p := ⟨b, o + k * 2, none⟩) hbd).trans (R2.out 0 _ rfl); have q1 : wz.cell? ⟨b, o + k * 2 + 1, none⟩ = some (.int .u64 (x.2 : Int)) := (hz.cell (p := ⟨b, o + k * 2 + 1, none⟩) hbd).trans (R2.out 1 _ rfl); have r0 : wz.cell? ⟨b3, 0, none⟩ = some (.int .i64 r.1) := (A3D.out.under hz A3D.out.lt).cell 0; have r1 : wz.cell? ⟨b3, 1, none⟩ = some (.int .u64 (r.2 : Int)) := (A3D.out.under hz A3D.out.lt).cell 1; go_simp <;> with_reducible rfl)
              simp only [List.setIfInBounds_toArray, List.set_cons_zero, List.set_cons_succ]
              refine takeH (i := 31) (d := 51) (v := ?vp82y31) rfl (by kernel_rfl) (by kernel_rfl) (by kernel_rfl) (fun _ _ _ h => h) rfl (by rfl) ?yp82y31 hS ?rp82y31
              case yp82y31 => (intro wz hz; have q0 : wz.cell? ⟨b, o + k * 2, none⟩ = some (.int .i64 x.1) := (hz.cell (p := ⟨b, o + k * 2, none⟩) hbd).trans (R2.out 0 _ rfl); have q1 : wz.cell? ⟨b, o + k * 2 + 1, none⟩ = some (.int .u64 (x.2 : Int)) := (hz.cell (p := ⟨b, o + k * 2 + 1, none⟩) hbd).trans (R2.out 1 _ rfl); have r0 : wz.cell? ⟨b3, 0, none⟩ = some (.int .i64 r.1) := (A3D.out.under hz A3D.out.lt).cell 0; have r1 : wz.cell? ⟨b3, 1, none⟩ = some (.int .u64 (r.2 : Int)) := (A3D.out.under hz A3D.out.lt).cell 1; go_simp <;> with_reducible rfl)
              simp only [List.setIfInBounds_toArray, List.set_cons_zero, List.set_cons_succ]
              refine wpAnyH_done (by kernel_rfl) ?_ _
              have HD := Lib.hid (HD1.out.under hS)
              have A3E := Lib.hid (A3D.out.under hS A3D.out.lt)
              have R3 : Hid (we.drew.rangeAt b (o + k * 2) (encR x)) := fun j v hv => (hS.cell (p := ⟨b, o + k * 2 + j, none⟩) hbd).trans (R2.out j v hv)
              have hbe : b < we.drew.heap.size := Nat.lt_of_lt_of_le hbd hS.size
              generalize we.drew = wd at HD A3E R3 hbe ⊢
              clear hS
              have OWN := Lib.hid (own_under HD.out.own ((Below.refl _ wd).alloc (Nat.le_refl _) (.cells (rsA x) 33)) (Nat.le_refl _))
              have LN := Lib.hid (lies_rs (At.new wd 33 (rsA x)))
              have HSZ : Hid (z0.heap.size ≤ (wd.alloc (.cells (rsA x) 33)).heap.size) := by have := HD.out.below.size; show _ ≤ _; simp; omega
              rw [HNF.out] at OWN
              obtain ⟨i0, hi0, hz0, hz1, hz2⟩ := r_info
              go_wp2_with (first
                          | refine wpList_load_in 33 60 (.tmp 59) rfl rfl rfl b (o + k * 2) rfl (encR x) 2 strR rfl R3.out ?_
                          | refine wpList_lit1r rfl 61 (.tmp 60) 40 33 2 (rsV (0, 0)) (rsA x) rfl rfl rfl Tryz.underlying40 (by kernel_rfl) (by omega) (by omega) rfl ?_
                          | (at_builtin; refine wpList_app _ rfl (.tmp 56) (.tmp 61) 40 rfl z0.heap.size 33 i0 (rsV (0, 0)) 2 16 Tryz.underlying40 hi0 hz0 hz1 hz2 rfl (by omega) (.slice AF nF cF) nF (rsL F) rfl OWN.out _ (some ⟨wd.heap.size, 0, none⟩) 1 1 (rsL [x]) rfl LN.out (rs_one1 x) (by simp only [maxLen]; omega) (by omega) HSZ.out ?_; intro v5 w5 ho5 hg5))
              obtain ⟨A5, c5, rfl, _⟩ := own_slice ho5
              have hl5 : nF + 1 = (F ++ [x]).length := by rw [List.length_append, HNF.out]; rfl
              have hB := HD.out.app (x := x) ho5 hl5 hg5
              rw [hl5] at hB ⊢
              exact ⟨⟨k + 1, F ++ [x], A5, c5, false, by omega, rfl, rfl, by go_num, by omega, HP.out, hB⟩, by simp [intOf]; omega⟩
            · cases lt2
              · have HP : Hid (putF r false l = F ++ [x] ++ putF r false (l.drop (k + 1))) := by show _ = _; rw [HP1.out]; simp
                refine wp_region_held_drew (S := Below we.heap.size we) (by kernel_rfl) ((Below.refl _ we).drew) (fun hS => ?_)
                refine takeH (i := 0) (d := 20) (v := ?vp83y0) rfl (by kernel_rfl) (by kernel_rfl) (by kernel_rfl) (fun _ _ _ h => h) rfl (by rfl) ?yp83y0 hS ?rp83y0
                case yp83y0 => (intro wz hz; have q0 : wz.cell? ⟨b, o + k * 2, none⟩ = some (.int .i64 x.1) := (hz.cell (p := ⟨b, o + k * 2, none⟩) hbd).trans (R2.out 0 _ rfl); have q1 : wz.cell? ⟨b, o + k * 2 + 1, none⟩ = some (.int .u64 (x.2 : Int)) := (hz.cell (p := ⟨b, o + k * 2 + 1, none⟩) hbd).trans (R2.out 1 _ rfl); have r0 : wz.cell? ⟨b3, 0, none⟩ = some (.int .i64 r.1) := (A3D.out.under hz A3D.out.lt).cell 0; have r1 : wz.cell? ⟨b3, 1, none⟩ = some (.int .u64 (r.2 : Int)) := (A3D.out.under hz A3D.out.lt).cell 1; go_simp <;> with_reducible rfl)
                simp only [List.setIfInBounds_toArray, List.set_cons_zero, List.set_cons_succ]
                refine takeH (i := 1) (d := 21) (v := ?vp83y1) rfl (by kernel_rfl) (by kernel_rfl) (by kernel_rfl) (fun _ _ _ h => h) rfl (by rfl) ?yp83y1 hS ?rp83y1
                case yp83y1 => (intro wz hz; have q0 : wz.cell? ⟨b, o + k * 2, none⟩ = some (.int .i64 x.1) := (hz.cell (p := ⟨b, o + k * 2, none⟩) hbd).trans (R2.out 0 _ rfl); have q1 : wz.cell? ⟨b, o + k * 2 + 1, none⟩ = some (.int .u64 (x.2 : Int)) := (hz.cell (p := ⟨b, o + k * 2 + 1, none⟩) hbd).trans (R2.out 1 _ rfl); have r0 : wz.cell? ⟨b3, 0, none⟩ = some (.int .i64 r.1) := (A3D.out.under hz A3D.out.lt).cell 0; have r1 : wz.cell? ⟨b3, 1, none⟩ = some (.int .u64 (r.2 : Int)) := (A3D.out.under hz A3D.out.lt).cell 1; go_simp <;> with_reducible rfl)
                simp only [List.setIfInBounds_toArray, List.set_cons_zero, List.set_cons_succ]
                refine takeH (i := 2) (d := 22) (v := ?vp83y2) rfl (by kernel_rfl) (by kernel_rfl) (by kernel_rfl) (fun _ _ _ h => h) rfl (by rfl) ?yp83y2 hS ?rp83y2
                case yp83y2 => (intro wz hz; have q0 : wz.cell? ⟨b, o + k * 2, none⟩ = some (.int .i64 x.1) := (hz.cell (p := ⟨b, o + k * 2, none⟩) hbd).trans (R2.out 0 _ rfl); have q1 : wz.cell? ⟨b, o + k * 2 + 1, none⟩ = some (.int .u64 (x.2 : Int)) := (hz.cell (p := ⟨b, o + k * 2 + 1, none⟩) hbd).trans (R2.out 1 _ rfl); have r0 : wz.cell? ⟨b3, 0, none⟩ = some (.int .i64 r.1) := (A3D.out.under hz A3D.out.lt).cell 0; have r1 : wz.cell? ⟨b3, 1, none⟩ = some (.int .u64 (r.2 : Int)) := (A3D.out.under hz A3D.out.lt).cell 1; go_simp <;> with_reducible rfl)
                simp only [List.setIfInBounds_toArray, List.set_cons_zero, List.set_cons_succ]
                refine takeH (i := 3) (d := 23) (v := ?vp83y3) rfl (by kernel_rfl) (by kernel_rfl) (by kernel_rfl) (fun _ _ _ h => h) rfl (by rfl) ?yp83y3 hS ?rp83y3
                case yp83y3 => (intro wz hz; have q0 : wz.cell? ⟨b, o + k * 2, none⟩ = some (.int .i64 x.1) := (hz.cell (p := ⟨b, o + k * 2, none⟩) hbd).trans (R2.out 0 _ rfl); have q1 : wz.cell? ⟨b, o + k * 2 + 1, none⟩ = some (.int .u64 (x.2 : Int)) := (hz.cell (p := ⟨b, o + k * 2 + 1, none⟩) hbd).trans (R2.out 1 _ rfl); have r0 : wz.cell? ⟨b3, 0, none⟩ = some (.int .i64 r.1) := (A3D.out.under hz A3D.out.lt).cell 0; have r1 : wz.cell? ⟨b3, 1, none⟩ = some (.int .u64 (r.2 : Int)) := (A3D.out.under hz A3D.out.lt).cell 1; go_simp <;> with_reducible rfl)
                simp only [List.setIfInBounds_toArray, List.set_cons_zero, List.set_cons_succ]
                refine takeH (i := 4) (d := 24) (v := ?vp83y4) rfl (by kernel_rfl) (by kernel_rfl) (by kernel_rfl) (fun _ _ _ h => h) rfl (by rfl) ?yp83y4 hS ?rp83y4
                case yp83y4 => (intro wz hz; have q0 : wz.cell? ⟨b, o + k * 2, none⟩ = some (.int .i64 x.1) := (hz.cell (p := ⟨b, o + k * 2, none⟩) hbd).trans (R2.out 0 _ rfl); have q1 : wz.cell? ⟨b, o + k * 2 + 1, none⟩ = some (.int .u64 (x.2 : Int)) := (hz.cell (p := ⟨b, o + k * 2 + 1, none⟩) hbd).trans (R2.out 1 _ rfl); have r0 : wz.cell? ⟨b3, 0, none⟩ = some (.int .i64 r.1) := (A3D.out.under hz A3D.out.lt).cell 0; have r1 : wz.cell? ⟨b3, 1, none⟩ = some (.int .u64 (r.2 : Int)) := (A3D.out.under hz A3D.out.lt).cell 1; go_simp <;> with_reducible rfl)
                simp only [List.setIfInBounds_toArray, List.set_cons_zero, List.set_cons_succ]
                refine takeH (i := 5) (d := 25) (v := ?vp83y5) rfl (by kernel_rfl) (by kernel_rfl) (by kernel_rfl) (fun _ _ _ h => h) rfl (by rfl) ?yp83y5 hS ?rp83y5
                case yp83y5 => (intro wz hz; have q0 : wz.cell? ⟨b, o + k * 2, none⟩ = some (.int .i64 x.1) := (hz.cell (p := ⟨b, o + k * 2, none⟩) hbd).trans (R2.out 0 _ rfl); have q1 : wz.cell? ⟨b, o + k * 2 + 1, none⟩ = some (.int .u64 (x.2 : Int)) := (hz.cell (p := ⟨b, o + k * 2 + 1, none⟩) hbd).trans (R2.out 1 _ rfl); have r0 : wz.cell? ⟨b3, 0, none⟩ = some (.int .i64 r.1) := (A3D.out.under hz A3D.out.lt).cell 0; have r1 : wz.cell? ⟨b3, 1, none⟩ = some (.int .u64 (r.2 : Int)) := (A3D.out.under hz A3D.out.lt).cell 1; go_simp <;> with_reducible rfl)
                simp only [List.setIfInBounds_toArray, List.set_cons_zero, List.set_cons_succ]
                refine takeH (i := 6) (d := 26) (v := ?vp83y6) rfl (by kernel_rfl) (by kernel_rfl) (by kernel_rfl) (fun _ _ _ h => h) rfl (by rfl) ?yp83y6 hS ?rp83y6
                case yp83y6 => (intro wz hz; have q0 : wz.cell? ⟨b, o + k * 2, none⟩ = some (.int .i64 x.1) := (hz.cell (p := ⟨b, o + k * 2, none⟩) hbd).trans (R2.out 0 _ rfl); have q1 : wz.cell? ⟨b, o + k * 2 + 1, none⟩ = some (.int .u64 (x.2 : Int)) := (hz.cell (p := ⟨b, o + k * 2 + 1, none⟩) hbd).trans (R2.out 1 _ rfl); have r0 : wz.cell? ⟨b3, 0, none⟩ = some (.int .i64 r.1) := (A3D.out.under hz A3D.out.lt).cell 0; have r1 : wz.cell? ⟨b3, 1, none⟩ = some (.int .u64 (r.2 : Int)) := (A3D.out.under hz A3D.out.lt).cell 1; go_simp <;> with_reducible rfl)
                simp only [List.setIfInBounds_toArray, List.set_cons_zero, List.set_cons_succ]
                refine takeH (i := 7) (d := 27) (v := ?vp83y7) rfl (by kernel_rfl) (by kernel_rfl) (by kernel_rfl) (fun _ _ _ h => h) rfl (by rfl) ?yp83y7 hS ?rp83y7
                case yp83y7 => (intro wz hz; have q0 : wz.cell? ⟨b, o + k * 2, none⟩ = some (.int .i64 x.1) := (hz.cell (p := ⟨b, o + k * 2, none⟩) hbd).trans (R2.out 0 _ rfl); have q1 : wz.cell? ⟨b, o + k * 2 + 1, none⟩ = some (.int .u64 (x.2 : Int)) := (hz.cell (p := ⟨b, o + k * 2 + 1, none⟩) hbd).trans (R2.out 1 _ rfl); have r0 : wz.cell? ⟨b3, 0, none⟩ = some (.int .i64 r.1) := (A3D.out.under hz A3D.out.lt).cell 0; have r1 : wz.cell? ⟨b3, 1, none⟩ = some (.int .u64 (r.2 : Int)) := (A3D.out.under hz A3D.out.lt).cell 1; go_simp <;> with_reducible rfl)
                simp only [List.setIfInBounds_toArray, List.set_cons_zero, List.set_cons_succ]
                refine takeH (i := 8) (d := 28) (v := ?vp83y8) rfl (by kernel_rfl) (by kernel_rfl) (by kernel_rfl) (fun _ _ _ h => h) rfl (by rfl) ?yp83y8 hS ?rp83y8
                case yp83y8 => (intro wz hz; have q0 : wz.cell? ⟨b, o + k * 2, none⟩ = some (.int .i64 x.1) := (hz.cell (p := ⟨b, o + k * 2, none⟩) hbd).trans (R2.out 0 _ rfl); have q1 : wz.cell? ⟨b, o + k * 2 + 1, none⟩ = some (.int .u64 (x.2 : Int)) := (hz.cell (p := ⟨b, o + k * 2 + 1, none⟩) hbd).trans (R2.out 1 _ rfl); have r0 : wz.cell? ⟨b3, 0, none⟩ = some (.int .i64 r.1) := (A3D.out.under hz A3D.out.lt).cell 0; have r1 : wz.cell? ⟨b3, 1, none⟩ = some (.int .u64 (r.2 : Int)) := (A3D.out.under hz A3D.out.lt).cell 1; go_simp <;> with_reducible rfl)
                simp only [List.setIfInBounds_toArray, List.set_cons_zero, List.set_cons_succ]
                refine takeH (i := 9) (d := 29) (v := ?vp83y9) rfl (by kernel_rfl) (by kernel_rfl) (by kernel_rfl) (fun _ _ _ h => h) rfl (by rfl) ?yp83y9 hS ?rp83y9
                case yp83y9 => (intro wz hz; have q0 : wz.cell? ⟨b, o + k * 2, none⟩ = some (.int .i64 x.1) := (hz.cell (p := ⟨b, o + k * 2, none⟩) hbd).trans (R2.out 0 _ rfl); have q1 : wz.cell? ⟨b, o + k * 2 + 1, none⟩ = some (.int .u64 (x.2 : Int)) := (hz.cell (p := ⟨b, o + k * 2 + 1, none⟩) hbd).trans (R2.out 1 _ rfl); have r0 : wz.cell? ⟨b3, 0, none⟩ = some (.int .i64 r.1) := (A3D.out.under hz A3D.out.lt).cell 0; have r1 : wz.cell? ⟨b3, 1, none⟩ = some (.int .u64 (r.2 : Int)) := (A3D.out.under hz A3D.out.lt).cell 1; go_simp <;> with_reducible rfl)
                simp only [List.setIfInBounds_toArray, List.set_cons_zero, List.set_cons_succ]
                refine takeH (i := 10) (d := 30) (v := ?vp83y10) rfl (by kernel_rfl) (by kernel_rfl) (by kernel_rfl) (fun _ _ _ h => h) rfl (by rfl) ?yp83y10 hS ?rp83y10
                case yp83y10 => (intro wz hz; have q0 : wz.cell? ⟨b, o + k * 2, none⟩ = some (.int .i64 x.1) := (hz.cell (p := ⟨b, o + k * 2, none⟩) hbd).trans (R2.out 0 _ rfl); have q1 : wz.cell? ⟨b, o + k * 2 + 1, none⟩ = some (.int .u64 (x.2 : Int)) := (hz.cell (p := ⟨b, o + k * 2 + 1, none⟩) hbd).trans (R2.out 1 _ rfl); have r0 : wz.cell? ⟨b3, 0, none⟩ = some (.int .i64 r.1) := (A3D.out.under hz A3D.out.lt).cell 0; have r1 : wz.cell? ⟨b3, 1, none⟩ = some (.int .u64 (r.2 : Int)) := (A3D.out.under hz A3D.out.lt).cell 1; go_simp <;> with_reducible rfl)
                simp only [List.setIfInBounds_toArray, List.set_cons_zero, List.set_cons_succ]
                refine takeH (i := 11) (d := 31) (v := ?vp83y11) rfl (by kernel_rfl) (by kernel_rfl) (by kernel_rfl) (fun _ _ _ h => h) rfl (by rfl) ?yp83y11 hS ?rp83y11
                case yp83y11 => (intro wz hz; have q0 : wz.cell? ⟨b, o + k * 2, none⟩ = some (.int .i64 x.1) := (hz.cell (p := ⟨b, o + k * 2, none⟩) hbd).trans (R2.out 0 _ rfl); have q1 : wz.cell? ⟨b, o + k * 2 + 1, none⟩ = some (.int .u64 (x.2 : Int)) := (hz.cell (p := ⟨b, o + k * 2 + 1, none⟩) hbd).trans (R2.out 1 _ rfl); have r0 : wz.cell? ⟨b3, 0, none⟩ = some (.int .i64 r.1) := (A3D.out.under hz A3D.out.lt).cell 0; have r1 : wz.cell? ⟨b3, 1, none⟩ = some (.int .u64 (r.2 : Int)) := (A3D.out.under hz A3D.out.lt).cell 1; go_simp <;> with_reducible rfl)
                simp only [List.setIfInBounds_toArray, List.set_cons_zero, List.set_cons_succ]
                refine takeH (i := 12) (d := 32) (v := ?vp83y12) rfl (by kernel_rfl) (by kernel_rfl) (by kernel_rfl) (fun _ _ _ h => h) rfl (by rfl) ?yp83y12 hS ?rp83y12
                case yp83y12 => (intro wz hz; have q0 : wz.cell? ⟨b, o + k * 2, none⟩ = some (.int .i64 x.1) := (hz.cell (p := ⟨b, o + k * 2, none⟩) hbd).trans (R2.out 0 _ rfl); have q1 : wz.cell? ⟨b, o + k * 2 + 1, none⟩ = some (.int .u64 (x.2 : Int)) := (hz.cell (p := ⟨b, o + k * 2 + 1, none⟩) hbd).trans (R2.out 1 _ rfl); have r0 : wz.cell? ⟨b3, 0, none⟩ = some (.int .i64 r.1) := (A3D.out.under hz A3D.out.lt).cell 0; have r1 : wz.cell? ⟨b3, 1, none⟩ = some (.int .u64 (r.2 : Int)) := (A3D.out.under hz A3D.out.lt).cell 1; go_simp <;> with_reducible rfl)
                simp only [List.setIfInBounds_toArray, List.set_cons_zero, List.set_cons_succ]
                refine takeH (i := 13) (d := 33) (v := ?vp83y13) rfl (by kernel_rfl) (by kernel_rfl) (by kernel_rfl) (fun _ _ _ h => h) rfl (by rfl) ?yp83y13 hS ?rp83y13
                case yp83y13 => (intro wz hz; have q0 : wz.cell? ⟨b, o + k * 2, none⟩ = some (.int .i64 x.1) := (hz.cell (p := ⟨b, o + k * 2, none⟩) hbd).trans (R2.out 0 _ rfl); have q1 : wz.cell? ⟨b, o + k * 2 + 1, none⟩ = some (.int .u64 (x.2 : Int)) := (hz.cell (p := ⟨b, o + k * 2 + 1, none⟩) hbd).trans (R2.out 1 _ rfl); have r0 : wz.cell? ⟨b3, 0, none⟩ = some (.int .i64 r.1) := (A3D.out.under hz A3D.out.lt).cell 0; have r1 : wz.cell? ⟨b3, 1, none⟩ = some (.int .u64 (r.2 : Int)) := (A3D.out.under hz A3D.out.lt).cell 1; go_simp <;> with_reducible rfl)
                simp only [List.setIfInBounds_toArray, List.set_cons_zero, List.set_cons_succ]
                refine takeH (i := 14) (d := 34) (v := ?vp83y14) rfl (by kernel_rfl) (by kernel_rfl) (by kernel_rfl) (fun _ _ _ h => h) rfl (by rfl) ?yp83y14 hS ?rp83y14
                case yp83y14 => (intro wz hz; have q0 : wz.cell? ⟨b, o + k * 2, none⟩ = some (.int .i64 x.1) := (hz.cell (p := ⟨b, o + k * 2, none⟩) hbd).trans (R2.out 0 _ rfl); have q1 : wz.cell? ⟨b, o + k * 2 + 1, none⟩ = some (.int .u64 (x.2 : Int)) := (hz.cell (p := ⟨b, o + k * 2 + 1, none⟩) hbd).trans (R2.out 1 _ rfl); have r0 : wz.cell? ⟨b3, 0, none⟩ = some (.int .i64 r.1) := (A3D.out.under hz A3D.out.lt).cell 0; have r1 : wz.cell? ⟨b3, 1, none⟩ = some (.int .u64 (r.2 : Int)) := (A3D.out.under hz A3D.out.lt).cell 1; go_simp <;> with_reducible rfl)
                simp only [List.setIfInBounds_toArray, List.set_cons_zero, List.set_cons_succ]
                refine takeH (i := 15) (d := 35) (v := ?vp83y15) rfl (by kernel_rfl) (by kernel_rfl) (by kernel_rfl) (fun _ _ _ h => h) rfl (by rfl) ?yp83y15 hS ?rp83y15
                case yp83y15 => (intro wz hz; have q0 : wz.cell? ⟨b, o + k * 2, none⟩ = some (.int .i64 x.1) := (hz.cell (p := ⟨b, o + k * 2, none⟩) hbd).trans (R2.out 0 _ rfl); have q1 : wz.cell? ⟨b, o + k * 2 + 1, none⟩ = some (.int .u64 (x.2 : Int)) := (hz.cell (p := ⟨b, o + k * 2 + 1, none⟩) hbd).trans (R2.out 1 _ rfl); have r0 : wz.cell? ⟨b3, 0, none⟩ = some (.int .i64 r.1) := (A3D.out.under hz A3D.out.lt).cell 0; have r1 : wz.cell? ⟨b3, 1, none⟩ = some (.int .u64 (r.2 : Int)) := (A3D.out.under hz A3D.out.lt).cell 1; go_simp <;> with_reducible rfl)
                simp only [List.setIfInBounds_toArray, List.set_cons_zero, List.set_cons_succ]
                refine takeH (i := 16) (d := 36) (v := ?vp83y16) rfl (by kernel_rfl) (by kernel_rfl) (by kernel_rfl) (fun _ _ _ h => h) rfl (by rfl) ?yp83y16 hS ?rp83y16
                case yp83y16 => (intro wz hz; have q0 : wz.cell? ⟨b, o + k * 2, none⟩ = some (.int .i64 x.1) := (hz.cell (p := ⟨b, o + k * 2, none⟩) hbd).trans (R2.out 0 _ rfl); have q1 : wz.cell? ⟨b, o + k * 2 + 1, none⟩ = some (.int .u64 (x.2 : Int)) := (hz.cell (p := ⟨b, o + k * 2 + 1, none⟩) hbd).trans (R2.out 1 _ rfl); have r0 : wz.cell? ⟨b3, 0, none⟩ = some (.int .i64 r.1) := (A3D.out.under hz A3D.out.lt).cell 0; have r1 : wz.cell? ⟨b3, 1, none⟩ = some (.int .u64 (r.2 : Int)) := (A3D.out.under hz A3D.out.lt).cell 1; go_simp <;> with_reducible rfl)
                simp only [List.setIfInBounds_toArray, List.set_cons_zero, List.set_cons_succ]
                refine takeH (i := 17) (d := 37) (v := ?vp83y17) rfl (by kernel_rfl) (by kernel_rfl) (by kernel_rfl) (fun _ _ _ h => h) rfl (by rfl) ?yp83y17 hS ?rp83y17
                case yp83y17 => (intro wz hz; have q0 : wz.cell? ⟨b, o + k * 2, none⟩ = some (.int .i64 x.1) := (hz.cell (p := ⟨b, o + k * 2, none⟩) hbd).trans (R2.out 0 _ rfl); have q1 : wz.cell? ⟨b, o + k * 2 + 1, none⟩ = some (.int .u64 (x.2 : Int)) := (hz.cell (p := ⟨b, o + k * 2 + 1, none⟩) hbd).trans (R2.out 1 _ rfl); have r0 : wz.cell? ⟨b3, 0, none⟩ = some (.int .i64 r.1) := (A3D.out.under hz A3D.out.lt).cell 0; have r1 : wz.cell? ⟨b3, 1, none⟩ = some (.int .u64 (r.2 : Int)) := (A3D.out.under hz A3D.out.lt).cell 1; go_simp <;> with_reducible rfl)
                simp only [List.setIfInBounds_toArray, List.set_cons_zero, List.set_cons_succ]
                refine takeH (i := 18) (d := 38) (v := ?vp83y18) rfl (by kernel_rfl) (by kernel_rfl) (by kernel_rfl) (fun _ _ _ h => h) rfl (by rfl) ?yp83y18 hS ?rp83y18
                case yp83y18 => (intro wz hz; have q0 : wz.cell? ⟨b, o + k * 2, none⟩ = some (.int .i64 x.1) := (hz.cell (p := ⟨b, o + k * 2, none⟩) hbd).trans (R2.out 0 _ rfl); have q1 : wz.cell? ⟨b, o + k * 2 + 1, none⟩ = some (.int .u64 (x.2 : Int)) := (hz.cell (p := ⟨b, o + k * 2 + 1, none⟩) hbd).trans (R2.out 1 _ rfl); have r0 : wz.cell? ⟨b3, 0, none⟩ = some (.int .i64 r.1) := (A3D.out.under hz A3D.out.lt).cell 0; have r1 : wz.cell? ⟨b3, 1, none⟩ = some (.int .u64 (r.2 : Int)) := (A3D.out.under hz A3D.out.lt).cell 1; go_simp <;> with_reducible rfl)
                simp only [List.setIfInBounds_toArray, List.set_cons_zero, List.set_cons_succ]
                refine takeH (i := 19) (d := 39) (v := ?vp83y19) rfl (by kernel_rfl) (by kernel_rfl) (by kernel_rfl) (fun _ _ _ h => h) rfl (by rfl) ?yp83y19 hS ?rp83y19
                case yp83y19 => (intro wz hz; have q0 : wz.cell? ⟨b, o + k * 2, none⟩ = some (.int .i64 x.1) := (hz.cell (p := ⟨b, o + k * 2, none⟩) hbd).trans (R2.out 0 _ rfl); have q1 : wz.cell? ⟨b, o + k * 2 + 1, none⟩ = some (.int .u64 (x.2 : Int)) := (hz.cell (p := ⟨b, o + k * 2 + 1, none⟩) hbd).trans (R2.out 1 _ rfl); have r0 : wz.cell? ⟨b3, 0, none⟩ = some (.int .i64 r.1) := (A3D.out.under hz A3D.out.lt).cell 0; have r1 : wz.cell? ⟨b3, 1, none⟩ = some (.int .u64 (r.2 : Int)) := (A3D.out.under hz A3D.out.lt).cell 1; go_simp <;> with_reducible rfl)
                simp only [List.setIfInBounds_toArray, List.set_cons_zero, List.set_cons_succ]
                refine takeH (i := 20) (d := 40) (v := ?vp83y20) rfl (by kernel_rfl) (by kernel_rfl) (by kernel_rfl) (fun _ _ _ h => h) rfl (by rfl) ?yp83y20 hS ?rp83y20
                case yp83y20 => (intro wz hz; have q0 : wz.cell? ⟨b, o + k * 2, none⟩ = some (.int .i64 x.1) := (hz.cell (p := ⟨b, o + k * 2, none⟩) hbd).trans (R2.out 0 _ rfl); have q1 : wz.cell? ⟨b, o + k * 2 + 1, none⟩ = some (.int .u64 (x.2 : Int)) := (hz.cell (p := ⟨b, o + k * 2 + 1, none⟩) hbd).trans (R2.out 1 _ rfl); have r0 : wz.cell? ⟨b3, 0, none⟩ = some (.int .i64 r.1) := (A3D.out.under hz A3D.out.lt).cell 0; have r1 : wz.cell? ⟨b3, 1, none⟩ = some (.int .u64 (r.2 : Int)) := (A3D.out.under hz A3D.out.lt).cell 1; go_simp <;> with_reducible rfl)
                simp only [List.setIfInBounds_toArray, List.set_cons_zero, List.set_cons_succ]
                refine takeH (i := 21) (d := 41) (v := ?vp83y21) rfl (by kernel_rfl) (by kernel_rfl) (by kernel_rfl) (fun _ _ _ h => h) rfl (by rfl) ?yp83y21 hS ?rp83y21
                case yp83y21 => (intro wz hz; have q0 : wz.cell? ⟨b, o + k * 2, none⟩ = some (.int .i64 x.1) := (hz.cell (p := ⟨b, o + k * 2, none⟩) hbd).trans (R2.out 0 _ rfl); have q1 : wz.cell? ⟨b, o + k * 2 + 1, none⟩ = some (.int .u64 (x.2 : Int)) := (hz.cell (p := ⟨b, o + k * 2 + 1, none⟩) hbd).trans (R2.out 1 _ rfl); have r0 : wz.cell? ⟨b3, 0, none⟩ = some (.int .i64 r.1) := (A3D.out.under hz A3D.out.lt).cell 0; have r1 : wz.cell? ⟨b3, 1, none⟩ = some (.int .u64 (r.2 : Int)) := (A3D.out.under hz A3D.out.lt).cell 1; go_simp <;> with_reducible rfl)
                simp only [List.setIfInBounds_toArray, List.set_cons_zero, List.set_cons_succ]
                refine takeH (i := 22) (d := 42) (v := ?vp83y22) rfl (by kernel_rfl) (by kernel_rfl) (by kernel_rfl) (fun _ _ _ h => h) rfl (by rfl) ?yp83y22 hS ?rp83y22
                case yp83y22 => (intro wz hz; have q0 : wz.cell? ⟨b, o + k * 2, none⟩ = some (.int .i64 x.1) := (hz.cell (p := ⟨b, o + k * 2, none⟩) hbd).trans (R2.out 0 _ rfl); have q1 : wz.cell? ⟨b, o + k * 2 + 1, none⟩ = some (.int .u64 (x.2 : Int)) := (hz.cell (p := ⟨b, o + k * 2 + 1, none⟩) hbd).trans (R2.out 1 _ rfl); have r0 : wz.cell? ⟨b3, 0, none⟩ = some (.int .i64 r.1) := (A3D.out.under hz A3D.out.lt).cell 0; have r1 : wz.cell? ⟨b3, 1, none⟩ = some (.int .u64 (r.2 : Int)) := (A3D.out.under hz A3D.out.lt).cell 1; go_simp <;> with_reducible rfl)
                simp only [List.setIfInBounds_toArray, List.set_cons_zero, List.set_cons_succ]
                refine takeH (i := 23) (d := 43) (v := ?vp83y23) rfl (by kernel_rfl) (by kernel_rfl) (by kernel_rfl) (fun _ _ _ h => h) rfl (by rfl) ?yp83y23 hS ?rp83y23
                case yp83y23 => (intro wz hz; have q0 : wz.cell? ⟨b, o + k * 2, none⟩ = some (.int .i64 x.1) := (hz.cell (p := ⟨b, o + k * 2, none⟩) hbd).trans (R2.out 0 _ rfl); have q1 : wz.cell? ⟨b, o + k * 2 + 1, none⟩ = some (.int .u64 (x.2 : Int)) := (hz.cell (p := ⟨b, o + k * 2 + 1, none⟩) hbd).trans (R2.out 1 _ rfl); have r0 : wz.cell? ⟨b3, 0, none⟩ = some (.int .i64 r.1) := (A3D.out.under hz A3D.out.lt).cell 0; have r1 : wz.cell? ⟨b3, 1, none⟩ = some (.int .u64 (r.2 : Int)) := (A3D.out.under hz A3D.out.lt).cell 1; go_simp <;> with_reducible rfl)
                simp only [List.setIfInBounds_toArray, List.set_cons_zero, List.set_cons_succ]
                refine takeH (i := 24) (d := 44) (v := ?vp83y24) rfl (by kernel_rfl) (by kernel_rfl) (by kernel_rfl) (fun _ _ _ h => h) rfl (by rfl) ?yp83y24 hS ?rp83y24
                case yp83y24 => (intro wz hz; have q0 : wz.cell? ⟨b, o + k * 2, none⟩ = some (.int .i64 x.1) := (hz.cell (p := ⟨b, o + k * 2, none⟩) hbd).trans (R2.out 0 _ rfl); have q1 : wz.cell? ⟨b, o + k * 2 + 1, none⟩ = some (.int .u64 (x.2 : Int)) := (hz.cell (p := ⟨b, o + k * 2 + 1, none⟩) hbd).trans (R2.out 1 _ rfl); have r0 : wz.cell? ⟨b3, 0, none⟩ = some (.int .i64 r.1) := (A3D.out.under hz A3D.out.lt).cell 0; have r1 : wz.cell? ⟨b3, 1, none⟩ = some (.int .u64 (r.2 : Int)) := (A3D.out.under hz A3D.out.lt).cell 1; go_simp <;> with_reducible rfl)
                simp only [List.setIfInBounds_toArray, List.set_cons_zero, List.set_cons_succ]
                refine takeH (i := 25) (d := 45) (v := ?vp83y25) rfl (by kernel_rfl) (by kernel_rfl) (by kernel_rfl) (fun _ _ _ h => h) rfl (by rfl) ?yp83y25 hS ?rp83y25
                case yp83y25 => (intro wz hz; have q0 : wz.cell? ⟨b, o + k * 2, none⟩ = some (.int .i64 x.1) := (hz.cell (p := ⟨b, o + k * 2, none⟩) hbd).trans (R2.out 0 _ rfl); have q1 : wz.cell? ⟨b, o + k * 2 + 1, none⟩ = some (.int .u64 (x.2 : Int)) := (hz.cell (p := ⟨b, o + k * 2 + 1, none⟩) hbd).trans (R2.out 1 _ rfl); have r0 : wz.cell? ⟨b3, 0, none⟩ = some (.int .i64 r.1) := (A3D.out.under hz A3D.out.lt).cell 0; have r1 : wz.cell? ⟨b3, 1, none⟩ = some (.int .u64 (r.2 : Int)) := (A3D.out.under hz A3D.out.lt).cell 1; go_simp <;> with_reducible rfl)
                simp only [List.setIfInBounds_toArray, List.set_cons_zero, List.set_cons_succ]
                refine takeH (i := 26) (d := 46) (v := ?vp83y26) rfl (by kernel_rfl) (by kernel_rfl) (by kernel_rfl) (fun _ _ _ h => h) rfl (by rfl) ?yp83y26 hS ?rp83y26
                case yp83y26 => (intro wz hz; have q0 : wz.cell? ⟨b, o + k * 2, none⟩ = some (.int .i64 x.1) := (hz.cell (p := ⟨b, o + k * 2, none⟩) hbd).trans (R2.out 0 _ rfl); have q1 : wz.cell? ⟨b, o + k * 2 + 1, none⟩ = some (.int .u64 (x.2 : Int)) := (hz.cell (p := ⟨b, o + k * 2 + 1, none⟩) hbd).trans (R2.out 1 _ rfl); have r0 : wz.cell? ⟨b3, 0, none⟩ = some (.int .i64 r.1) := (A3D.out.under hz A3D.out.lt).cell 0; have r1 : wz.cell? ⟨b3, 1, none⟩ = some (.int .u64 (r.2 : Int)) := (A3D.out.under hz A3D.out.lt).cell 1; go_simp <;> with_reducible rfl)
                simp only [List.setIfInBounds_toArray, List.set_cons_zero, List.set_cons_succ]
                refine takeH (i := 27) (d := 47) (v := ?vp83y27) rfl (by kernel_rfl) (by kernel_rfl) (by kernel_rfl) (fun _ _ _ h => h) rfl (by rfl) ?yp83y27 hS ?rp83y27
                case yp83y27 => (intro wz hz; have q0 : wz.cell? ⟨b, o + k * 2, none⟩ = some (.int .i64 x.1) := (hz.cell (p := ⟨b, o + k * 2, none⟩) hbd).trans (R2.out 0 _ rfl); have q1 : wz.cell? ⟨b, o + k * 2 + 1, none⟩ = some (.int .u64 (x.2 : Int)) := (hz.cell (p := ⟨b, o + k * 2 + 1, none⟩) hbd).trans (R2.out 1 _ rfl); have r0 : wz.cell? ⟨b3, 0, none⟩ = some (.int .i64 r.1) := (A3D.out.under hz A3D.out.lt).cell 0; have r1 : wz.cell? ⟨b3, 1, none⟩ = some (.int .u64 (r.2 : Int)) := (A3D.out.under hz A3D.out.lt).cell 1; go_simp <;> with_reducible rfl)
                simp only [List.setIfInBounds_toArray, List.set_cons_zero, List.set_cons_succ]
                refine takeH (i := 28) (d := 48) (v := ?vp83y28) rfl (by kernel_rfl) (by kernel_rfl) (by kernel_rfl) (fun _ _ _ h => h) rfl (by rfl) ?yp83y28 hS ?rp83y28
                case yp83y28 => (intro wz hz; have q0 : wz.cell? ⟨b, o + k * 2, none⟩ = some (.int .i64 x.1) := (hz.cell (p := ⟨b, o + k * 2, none⟩) hbd).trans (R2.out 0 _ rfl); have q1 : wz.cell? ⟨b, o + k * 2 + 1, none⟩ = some (.int .u64 (x.2 : Int)) := (hz.cell (p := ⟨b, o + k * 2 + 1, none⟩) hbd).trans (R2.out 1 _ rfl); have r0 : wz.cell? ⟨b3, 0, none⟩ = some (.int .i64 r.1) := (A3D.out.under hz A3D.out.lt).cell 0; have r1 : wz.cell? ⟨b3, 1, none⟩ = some (.int .u64 (r.2 : Int)) := (A3D.out.under hz A3D.out.lt).cell 1; go_simp <;> with_reducible rfl)
                simp only [List.setIfInBounds_toArray, List.set_cons_zero, List.set_cons_succ]
                refine takeH (i := 29) (d := 49) (v := ?vp83y29) rfl (by kernel_rfl) (by kernel_rfl) (by kernel_rfl) (fun _ _ _ h => h) rfl (by rfl) ?yp83y29 hS ?rp83y29
                case yp83y29 => (intro wz hz; have q0 : wz.cell? ⟨b, o + k * 2, none⟩ = some (.int .i64 x.1) := (hz.cell (p := ⟨b, o + k * 2, none⟩) hbd).trans (R2.out 0 _ rfl); have q1 : wz.cell? ⟨b, o + k * 2 + 1, none⟩ = some (.int .u64 (x.2 : Int)) := (hz.cell (p := ⟨b, o + k * 2 + 1, none⟩) hbd).trans (R2.out 1 _ rfl); have r0 : wz.cell? ⟨b3, 0, none⟩ = some (.int .i64 r.1) := (A3D.out.under hz A3D.out.lt).cell 0; have r1 : wz.cell? ⟨b3, 1, none⟩ = some (.int .u64 (r.2 : Int)) := (A3D.out.under hz A3D.out.lt).cell 1; go_simp <;> with_reducible rfl)
                simp only [List.setIfInBounds_toArray, List.set_cons_zero, List.set_cons_succ]
                refine takeH (i := 30) (d := 50) (v := ?vp83y30) rfl (by kernel_rfl) (by kernel_rfl) (by kernel_rfl) (fun _ _ _ h => h) rfl (by rfl) ?yp83y30 hS ?rp83y30
                case yp83y30 => (intro wz hz; have q0 : wz.cell? ⟨b, o + k * 2, none⟩ = some (.int .i64 x.1) := (hz.cell (p := ⟨b, o + k * 2, none⟩) hbd).trans (R2.out 0 _ rfl); have q1 : wz.cell? ⟨b, o + k * 2 + 1, none⟩ = some (.int .u64 (x.2 : Int)) := (hz.cell (p := ⟨b, o + k * 2 + 1, none⟩) hbd).trans (R2.out 1 _ rfl); have r0 : wz.cell? ⟨b3, 0, none⟩ = some (.int .i64 r.1) := (A3D.out.under hz A3D.out.lt).cell 0; have r1 : wz.cell? ⟨b3, 1, none⟩ = some (.int .u64 (r.2 : Int)) := (A3D.out.under hz A3D.out.lt).cell 1; go_simp <;> with_reducible rfl)
                simp only [List.setIfInBounds_toArray, List.set_cons_zero, List.set_cons_succ]
                refine takeH (i := 31) (d := 51) (v := ?vp83y31) rfl (by kernel_rfl) (by kernel_rfl) (by kernel_rfl) (fun _ _ _ h => h) rfl (by rfl) ?yp83y31 hS ?rp83y31
                case yp83y31 => (intro wz hz; have q0 : wz.cell? ⟨b, o + k * 2, none⟩ = some (.int .i64 x.1) := (hz.cell (p := ⟨b, o + k * 2, none⟩) hbd).trans (R2.out 0 _ rfl); have q1 : wz.cell? ⟨b, o + k * 2 + 1, none⟩ = some (.int .u64 (x.2 : Int)) := (hz.cell (p := ⟨b, o + k * 2 + 1, none⟩) hbd).trans (R2.out 1 _ rfl); have r0 : wz.cell? ⟨b3, 0, none⟩ = some (.int .i64 r.1) := (A3D.out.under hz A3D.out.lt).cell 0; have r1 : wz.cell? ⟨b3, 1, none⟩ = some (.int .u64 (r.2 : Int)) := (A3D.out.under hz A3D.out.lt).cell 1; go_simp <;> with_reducible rfl)
                simp only [List.setIfInBounds_toArray, List.set_cons_zero, List.set_cons_succ]
                refine wpAnyH_done (by kernel_rfl) ?_ _
                have HD := Lib.hid (HD1.out.under hS)
                have A3E := Lib.hid (A3D.out.under hS A3D.out.lt)
                have R3 : Hid (we.drew.rangeAt b (o + k * 2) (encR x)) := fun j v hv => (hS.cell (p := ⟨b, o + k * 2 + j, none⟩) hbd).trans (R2.out j v hv)
                have hbe : b < we.drew.heap.size := Nat.lt_of_lt_of_le hbd hS.size
                generalize we.drew = wd at HD A3E R3 hbe ⊢
                clear hS
                have OWN := Lib.hid (own_under HD.out.own ((Below.refl _ wd).alloc (Nat.le_refl _) (.cells (rsA x) 33)) (Nat.le_refl _))
                have LN := Lib.hid (lies_rs (At.new wd 33 (rsA x)))
                have HSZ : Hid (z0.heap.size ≤ (wd.alloc (.cells (rsA x) 33)).heap.size) := by have := HD.out.below.size; show _ ≤ _; simp; omega
                rw [HNF.out] at OWN
                obtain ⟨i0, hi0, hz0, hz1, hz2⟩ := r_info
                go_wp2_with (first
                            | refine wpList_load_in 33 60 (.tmp 59) rfl rfl rfl b (o + k * 2) rfl (encR x) 2 strR rfl R3.out ?_
                            | refine wpList_lit1r rfl 61 (.tmp 60) 40 33 2 (rsV (0, 0)) (rsA x) rfl rfl rfl Tryz.underlying40 (by kernel_rfl) (by omega) (by omega) rfl ?_
                            | (at_builtin; refine wpList_app _ rfl (.tmp 56) (.tmp 61) 40 rfl z0.heap.size 33 i0 (rsV (0, 0)) 2 16 Tryz.underlying40 hi0 hz0 hz1 hz2 rfl (by omega) (.slice AF nF cF) nF (rsL F) rfl OWN.out _ (some ⟨wd.heap.size, 0, none⟩) 1 1 (rsL [x]) rfl LN.out (rs_one1 x) (by simp only [maxLen]; omega) (by omega) HSZ.out ?_; intro v5 w5 ho5 hg5))
                obtain ⟨A5, c5, rfl, _⟩ := own_slice ho5
                have hl5 : nF + 1 = (F ++ [x]).length := by rw [List.length_append, HNF.out]; rfl
                have hB := HD.out.app (x := x) ho5 hl5 hg5
                rw [hl5] at hB ⊢
                exact ⟨⟨k + 1, F ++ [x], A5, c5, false, by omega, rfl, rfl, by go_num, by omega, HP.out, hB⟩, by simp [intOf]; omega⟩
              · have HP : Hid (putF r false l = F ++ [r] ++ [x] ++ putF r true (l.drop (k + 1))) := by show _ = _; rw [HP1.out]; simp
                refine wp_region_held_drew (S := Below we.heap.size we) (by kernel_rfl) ((Below.refl _ we).drew) (fun hS => ?_)
                refine takeH (i := 0) (d := 20) (v := ?vp84y0) rfl (by kernel_rfl) (by kernel_rfl) (by kernel_rfl) (fun _ _ _ h => h) rfl (by rfl) ?yp84y0 hS ?rp84y0
                case yp84y0 => (intro wz hz; have q0 : wz.cell? ⟨b, o + k * 2, none⟩ = some (.int .i64 x.1) := (hz.cell (p := ⟨b, o + k * 2, none⟩) hbd).trans (R2.out 0 _ rfl); have q1 : wz.cell? ⟨b, o + k * 2 + 1, none⟩ = some (.int .u64 (x.2 : Int)) := (hz.cell (p := ⟨b, o + k * 2 + 1, none⟩) hbd).trans (R2.out 1 _ rfl); have r0 : wz.cell? ⟨b3, 0, none⟩ = some (.int .i64 r.1) := (A3D.out.under hz A3D.out.lt).cell 0; have r1 : wz.cell? ⟨b3, 1, none⟩ = some (.int .u64 (r.2 : Int)) := (A3D.out.under hz A3D.out.lt).cell 1; go_simp <;> with_reducible rfl)
                simp only [List.setIfInBounds_toArray, List.set_cons_zero, List.set_cons_succ]
                refine takeH (i := 1) (d := 21) (v := ?vp84y1) rfl (by kernel_rfl) (by kernel_rfl) (by kernel_rfl) (fun _ _ _ h => h) rfl (by rfl) ?yp84y1 hS ?rp84y1
                case yp84y1 => (intro wz hz; have q0 : wz.cell? ⟨b, o + k * 2, none⟩ = some (.int .i64 x.1) := (hz.cell (p := ⟨b, o + k * 2, none⟩) hbd).trans (R2.out 0 _ rfl); have q1 : wz.cell? ⟨b, o + k * 2 + 1, none⟩ = some (.int .u64 (x.2 : Int)) := (hz.cell (p := ⟨b, o + k * 2 + 1, none⟩) hbd).trans (R2.out 1 _ rfl); have r0 : wz.cell? ⟨b3, 0, none⟩ = some (.int .i64 r.1) := (A3D.out.under hz A3D.out.lt).cell 0; have r1 : wz.cell? ⟨b3, 1, none⟩ = some (.int .u64 (r.2 : Int)) := (A3D.out.under hz A3D.out.lt).cell 1; go_simp <;> with_reducible rfl)
                simp only [List.setIfInBounds_toArray, List.set_cons_zero, List.set_cons_succ]
                refine takeH (i := 2) (d := 22) (v := ?vp84y2) rfl (by kernel_rfl) (by kernel_rfl) (by kernel_rfl) (fun _ _ _ h => h) rfl (by rfl) ?yp84y2 hS ?rp84y2
                case yp84y2 => (intro wz hz; have q0 : wz.cell? ⟨b, o + k * 2, none⟩ = some (.int .i64 x.1) := (hz.cell (p := ⟨b, o + k * 2, none⟩) hbd).trans (R2.out 0 _ rfl); have q1 : wz.cell? ⟨b, o + k * 2 + 1, none⟩ = some (.int .u64 (x.2 : Int)) := (hz.cell (p := ⟨b, o + k * 2 + 1, none⟩) hbd).trans (R2.out 1 _ rfl); have r0 : wz.cell? ⟨b3, 0, none⟩ = some (.int .i64 r.1) := (A3D.out.under hz A3D.out.lt).cell 0; have r1 : wz.cell? ⟨b3, 1, none⟩ = some (.int .u64 (r.2 : Int)) := (A3D.out.under hz A3D.out.lt).cell 1; go_simp <;> with_reducible rfl)
                simp only [List.setIfInBounds_toArray, List.set_cons_zero, List.set_cons_succ]
                refine takeH (i := 3) (d := 23) (v := ?vp84y3) rfl (by kernel_rfl) (by kernel_rfl) (by kernel_rfl) (fun _ _ _ h => h) rfl (by rfl) ?yp84y3 hS ?rp84y3
                case yp84y3 => (intro wz hz; have q0 : wz.cell? ⟨b, o + k * 2, none⟩ = some (.int .i64 x.1) := (hz.cell (p := ⟨b, o + k * 2, none⟩) hbd).trans (R2.out 0 _ rfl); have q1 : wz.cell? ⟨b, o + k * 2 + 1, none⟩ = some (.int .u64 (x.2 : Int)) := (hz.cell (p := ⟨b, o + k * 2 + 1, none⟩) hbd).trans (R2.out 1 _ rfl); have r0 : wz.cell? ⟨b3, 0, none⟩ = some (.int .i64 r.1) := (A3D.out.under hz A3D.out.lt).cell 0; have r1 : wz.cell? ⟨b3, 1, none⟩ = some (.int .u64 (r.2 : Int)) := (A3D.out.under hz A3D.out.lt).cell 1; go_simp <;> with_reducible rfl)
                simp only [List.setIfInBounds_toArray, List.set_cons_zero, List.set_cons_succ]
                refine takeH (i := 4) (d := 24) (v := ?vp84y4) rfl (by kernel_rfl) (by kernel_rfl) (by kernel_rfl) (fun _ _ _ h => h) rfl (by rfl) ?yp84y4 hS ?rp84y4
                case yp84y4 => (intro wz hz; have q0 : wz.cell? ⟨b, o + k * 2, none⟩ = some (.int .i64 x.1) := (hz.cell (p := ⟨b, o + k * 2, none⟩) hbd).trans (R2.out 0 _ rfl); have q1 : wz.cell? ⟨b, o + k * 2 + 1, none⟩ = some (.int .u64 (x.2 : Int)) := (hz.cell (p := ⟨b, o + k * 2 + 1, none⟩) hbd).trans (R2.out 1 _ rfl); have r0 : wz.cell? ⟨b3, 0, none⟩ = some (.int .i64 r.1) := (A3D.out.under hz A3D.out.lt).cell 0; have r1 : wz.cell? ⟨b3, 1, none⟩ = some (.int .u64 (r.2 : Int)) := (A3D.out.under hz A3D.out.lt).cell 1; go_simp <;> with_reducible rfl)
                simp only [List.setIfInBounds_toArray, List.set_cons_zero, List.set_cons_succ]
                refine takeH (i := 5) (d := 25) (v := ?vp84y5) rfl (by kernel_rfl) (by kernel_rfl) (by kernel_rfl) (fun _ _ _ h => h) rfl (by rfl) ?yp84y5 hS ?rp84y5
                case yp84y5 => (intro wz hz; have q0 : wz.cell? ⟨b, o + k * 2, none⟩ = some (.int .i64 x.1) := (hz.cell (p := ⟨b, o + k * 2, none⟩) hbd).trans (R2.out 0 _ rfl); have q1 : wz.cell? ⟨b, o + k * 2 + 1, none⟩ = some (.int .u64 (x.2 : Int)) := (hz.cell (p := ⟨b, o + k * 2 + 1, none⟩) hbd).trans (R2.out 1 _ rfl); have r0 : wz.cell? ⟨b3, 0, none⟩ = some (.int .i64 r.1) := (A3D.out.under hz A3D.out.lt).cell 0; have r1 : wz.cell? ⟨b3, 1, none⟩ = some (.int .u64 (r.2 : Int)) := (A3D.out.under hz A3D.out.lt).cell 1; go_simp <;> with_reducible rfl)
                simp only [List.setIfInBounds_toArray, List.set_cons_zero, List.set_cons_succ]
                refine takeH (i := 6) (d := 26) (v := ?vp84y6) rfl (by kernel_rfl) (by kernel_rfl) (by kernel_rfl) (fun _ _ _ h => h) rfl (by rfl) ?yp84y6 hS ?rp84y6
                case yp84y6 => (intro wz hz; have q0 : wz.cell? ⟨b, o + k * 2, none⟩ = some (.int .i64 x.1) := (hz.cell (p := ⟨b, o + k * 2, none⟩) hbd).trans (R2.out 0 _ rfl); have q1 : wz.cell? ⟨b, o + k * 2 + 1, none⟩ = some (.int .u64 (x.2 : Int)) := (hz.cell (p := ⟨b, o + k * 2 + 1, none⟩) hbd).trans (R2.out 1 _ rfl); have r0 : wz.cell? ⟨b3, 0, none⟩ = some (.int .i64 r.1) := (A3D.out.under hz A3D.out.lt).cell 0; have r1 : wz.cell? ⟨b3, 1, none⟩ = some (.int .u64 (r.2 : Int)) := (A3D.out.under hz A3D.out.lt).cell 1; go_simp <;> with_reducible rfl)
                simp only [List.setIfInBounds_toArray, List.set_cons_zero, List.set_cons_succ]
                refine takeH (i := 7) (d := 27) (v := ?vp84y7) rfl (by kernel_rfl) (by kernel_rfl) (by kernel_rfl) (fun _ _ _ h => h) rfl (by rfl) ?yp84y7 hS ?rp84y7
                case yp84y7 => (intro wz hz; have q0 : wz.cell? ⟨b, o + k * 2, none⟩ = some (.int .i64 x.1) := (hz.cell (p := ⟨b, o + k * 2, none⟩) hbd).trans (R2.out 0 _ rfl); have q1 : wz.cell? ⟨b, o + k * 2 + 1, none⟩ = some (.int .u64 (x.2 : Int)) := (hz.cell (p := ⟨b, o + k * 2 + 1, none⟩) hbd).trans (R2.out 1 _ rfl); have r0 : wz.cell? ⟨b3, 0, none⟩ = some (.int .i64 r.1) := (A3D.out.under hz A3D.out.lt).cell 0; have r1 : wz.cell? ⟨b3, 1, none⟩ = some (.int .u64 (r.2 : Int)) := (A3D.out.under hz A3D.out.lt).cell 1; go_simp <;> with_reducible rfl)
                simp only [List.setIfInBounds_toArray, List.set_cons_zero, List.set_cons_succ]
                refine takeH (i := 8) (d := 28) (v := ?vp84y8) rfl (by kernel_rfl) (by kernel_rfl) (by kernel_rfl) (fun _ _ _ h => h) rfl (by rfl) ?yp84y8 hS ?rp84y8
                case yp84y8 => (intro wz hz; have q0 : wz.cell? ⟨b, o + k * 2, none⟩ = some (.int .i64 x.1) := (hz.cell (p := ⟨b, o + k * 2, none⟩) hbd).trans (R2.out 0 _ rfl); have q1 : wz.cell? ⟨b, o + k * 2 + 1, none⟩ = some (.int .u64 (x.2 : Int)) := (hz.cell (p := ⟨b, o + k * 2 + 1, none⟩) hbd).trans (R2.out 1 _ rfl); have r0 : wz.cell? ⟨b3, 0, none⟩ = some (.int .i64 r.1) := (A3D.out.under hz A3D.out.lt).cell 0; have r1 : wz.cell? ⟨b3, 1, none⟩ = some (.int .u64 (r.2 : Int)) := (A3D.out.under hz A3D.out.lt).cell 1; go_simp <;> with_reducible rfl)
                simp only [List.setIfInBounds_toArray, List.set_cons_zero, List.set_cons_succ]
                refine takeH (i := 9) (d := 29) (v := ?vp84y9) rfl (by kernel_rfl) (by kernel_rfl) (by kernel_rfl) (fun _ _ _ h => h) rfl (by rfl) ?yp84y9 hS ?rp84y9
                case yp84y9 => (intro wz hz; have q0 : wz.cell? ⟨b, o + k * 2, none⟩ = some (.int .i64 x.1) := (hz.cell (p := ⟨b, o + k * 2, none⟩) hbd).trans (R2.out 0 _ rfl); have q1 : wz.cell? ⟨b, o + k * 2 + 1, none⟩ = some (.int .u64 (x.2 : Int)) := (hz.cell (p := ⟨b, o + k * 2 + 1, none⟩) hbd).trans (R2.out 1 _ rfl); have r0 : wz.cell? ⟨b3, 0, none⟩ = some (.int .i64 r.1) := (A3D.out.under hz A3D.out.lt).cell 0; have r1 : wz.cell? ⟨b3, 1, none⟩ = some (.int .u64 (r.2 : Int)) := (A3D.out.under hz A3D.out.lt).cell 1; go_simp <;> with_reducible rfl)
                simp only [List.setIfInBounds_toArray, List.set_cons_zero, List.set_cons_succ]
                refine takeH (i := 10) (d := 30) (v := ?vp84y10) rfl (by kernel_rfl) (by kernel_rfl) (by kernel_rfl) (fun _ _ _ h => h) rfl (by rfl) ?yp84y10 hS ?rp84y10
                case yp84y10 => (intro wz hz; have q0 : wz.cell? ⟨b, o + k * 2, none⟩ = some (.int .i64 x.1) := (hz.cell (p := ⟨b, o + k * 2, none⟩) hbd).trans (R2.out 0 _ rfl); have q1 : wz.cell? ⟨b, o + k * 2 + 1, none⟩ = some (.int .u64 (x.2 : Int)) := (hz.cell (p := ⟨b, o + k * 2 + 1, none⟩) hbd).trans (R2.out 1 _ rfl); have r0 : wz.cell? ⟨b3, 0, none⟩ = some (.int .i64 r.1) := (A3D.out.under hz A3D.out.lt).cell 0; have r1 : wz.cell? ⟨b3, 1, none⟩ = some (.int .u64 (r.2 : Int)) := (A3D.out.under hz A3D.out.lt).cell 1; go_simp <;> with_reducible rfl)
                simp only [List.setIfInBounds_toArray, List.set_cons_zero, List.set_cons_succ]
                refine takeH (i := 11) (d := 31) (v := ?vp84y11) rfl (by kernel_rfl) (by kernel_rfl) (by kernel_rfl) (fun _ _ _ h => h) rfl (by rfl) ?yp84y11 hS ?rp84y11
                case yp84y11 => (intro wz hz; have q0 : wz.cell? ⟨b, o + k * 2, none⟩ = some (.int .i64 x.1) := (hz.cell (p := ⟨b, o + k * 2, none⟩) hbd).trans (R2.out 0 _ rfl); have q1 : wz.cell? ⟨b, o + k * 2 + 1, none⟩ = some (.int .u64 (x.2 : Int)) := (hz.cell (p := ⟨b, o + k * 2 + 1, none⟩) hbd).trans (R2.out 1 _ rfl); have r0 : wz.cell? ⟨b3, 0, none⟩ = some (.int .i64 r.1) := (A3D.out.under hz A3D.out.lt).cell 0; have r1 : wz.cell? ⟨b3, 1, none⟩ = some (.int .u64 (r.2 : Int)) := (A3D.out.under hz A3D.out.lt).cell 1; go_simp <;> with_reducible rfl)
                simp only [List.setIfInBounds_toArray, List.set_cons_zero, List.set_cons_succ]
                refine takeH (i := 12) (d := 32) (v := ?vp84y12) rfl (by kernel_rfl) (by kernel_rfl) (by kernel_rfl) (fun _ _ _ h => h) rfl (by rfl) ?yp84y12 hS ?rp84y12
                case yp84y12 => (intro wz hz; have q0 : wz.cell? ⟨b, o + k * 2, none⟩ = some (.int .i64 x.1) := (hz.cell (p := ⟨b, o + k * 2, none⟩) hbd).trans (R2.out 0 _ rfl); have q1 : wz.cell? ⟨b, o + k * 2 + 1, none⟩ = some (.int .u64 (x.2 : Int)) := (hz.cell (p := ⟨b, o + k * 2 + 1, none⟩) hbd).trans (R2.out 1 _ rfl); have r0 : wz.cell? ⟨b3, 0, none⟩ = some (.int .i64 r.1) := (A3D.out.under hz A3D.out.lt).cell 0; have r1 : wz.cell? ⟨b3, 1, none⟩ = some (.int .u64 (r.2 : Int)) := (A3D.out.under hz A3D.out.lt).cell 1; go_simp <;> with_reducible rfl)
                simp only [List.setIfInBounds_toArray, List.set_cons_zero, List.set_cons_succ]
                refine takeH (i := 13) (d := 33) (v := ?vp84y13) rfl (by kernel_rfl) (by kernel_rfl) (by kernel_rfl) (fun _ _ _ h => h) rfl (by rfl) ?yp84y13 hS ?rp84y13
                case yp84y13 => (intro wz hz; have q0 : wz.cell? ⟨b, o + k * 2, none⟩ = some (.int .i64 x.1) := (hz.cell (p := ⟨b, o + k * 2, none⟩) hbd).trans (R2.out 0 _ rfl); have q1 : wz.cell? ⟨b, o + k * 2 + 1, none⟩ = some (.int .u64 (x.2 : Int)) := (hz.cell (p := ⟨b, o + k * 2 + 1, none⟩) hbd).trans (R2.out 1 _ rfl); have r0 : wz.cell? ⟨b3, 0, none⟩ = some (.int .i64 r.1) := (A3D.out.under hz A3D.out.lt).cell 0; have r1 : wz.cell? ⟨b3, 1, none⟩ = some (.int .u64 (r.2 : Int)) := (A3D.out.under hz A3D.out.lt).cell 1; go_simp <;> with_reducible rfl)
                simp only [List.setIfInBounds_toArray, List.set_cons_zero, List.set_cons_succ]
                refine takeH (i := 14) (d := 34) (v := ?vp84y14) rfl (by kernel_rfl) (by kernel_rfl) (by kernel_rfl) (fun _ _ _ h => h) rfl (by rfl) ?yp84y14 hS ?rp84y14
                case yp84y14 => (intro wz hz; have q0 : wz.cell? ⟨b, o + k * 2, none⟩ = some (.int .i64 x.1) := (hz.cell (p := ⟨b, o + k * 2, none⟩) hbd).trans (R2.out 0 _ rfl); have q1 : wz.cell? ⟨b, o + k * 2 + 1, none⟩ = some (.int .u64 (x.2 : Int)) := (hz.cell (p := ⟨b, o + k * 2 + 1, none⟩) hbd).trans (R2.out 1 _ rfl); have r0 : wz.cell? ⟨b3, 0, none⟩ = some (.int .i64 r.1) := (A3D.out.under hz A3D.out.lt).cell 0; have r1 : wz.cell? ⟨b3, 1, none⟩ = some (.int .u64 (r.2 : Int)) := (A3D.out.under hz A3D.out.lt).cell 1; go_simp <;> with_reducible rfl)
                simp only [List.setIfInBounds_toArray, List.set_cons_zero, List.set_cons_succ]
                refine takeH (i := 15) (d := 35) (v := ?vp84y15) rfl (by kernel_rfl) (by kernel_rfl) (by kernel_rfl) (fun _ _ _ h => h) rfl (by rfl) ?yp84y15 hS ?rp84y15
                case yp84y15 => (intro wz hz; have q0 : wz.cell? ⟨b, o + k * 2, none⟩ = some (.int .i64 x.1) := (hz.cell (p := ⟨b, o + k * 2, none⟩) hbd).trans (R2.out 0 _ rfl); have q1 : wz.cell? ⟨b, o + k * 2 + 1, none⟩ = some (.int .u64 (x.2 : Int)) := (hz.cell (p := ⟨b, o + k * 2 + 1, none⟩) hbd).trans (R2.out 1 _ rfl); have r0 : wz.cell? ⟨b3, 0, none⟩ = some (.int .i64 r.1) := (A3D.out.under hz A3D.out.lt).cell 0; have r1 : wz.cell? ⟨b3, 1, none⟩ = some (.int .u64 (r.2 : Int)) := (A3D.out.under hz A3D.out.lt).cell 1; go_simp <;> with_reducible rfl)
                simp only [List.setIfInBounds_toArray, List.set_cons_zero, List.set_cons_succ]
                refine takeH (i := 16) (d := 36) (v := ?vp84y16) rfl (by kernel_rfl) (by kernel_rfl) (by kernel_rfl) (fun _ _ _ h => h) rfl (by rfl) ?yp84y16 hS ?rp84y16
                case yp84y16 => (intro wz hz; have q0 : wz.cell? ⟨b, o + k * 2, none⟩ = some (.int .i64 x.1) := (hz.cell (p := ⟨b, o + k * 2, none⟩) hbd).trans (R2.out 0 _ rfl); have q1 : wz.cell? ⟨b, o + k * 2 + 1, none⟩ = some (.int .u64 (x.2 : Int)) := (hz.cell (p := ⟨b, o + k * 2 + 1, none⟩) hbd).trans (R2.out 1 _ rfl); have r0 : wz.cell? ⟨b3, 0, none⟩ = some (.int .i64 r.1) := (A3D.out.under hz A3D.out.lt).cell 0; have r1 : wz.cell? ⟨b3, 1, none⟩ = some (.int .u64 (r.2 : Int)) := (A3D.out.under hz A3D.out.lt).cell 1; go_simp <;> with_reducible rfl)
                simp only [List.setIfInBounds_toArray, List.set_cons_zero, List.set_cons_succ]
                refine takeH (i := 17) (d := 37) (v := ?vp84y17) rfl (by kernel_rfl) (by kernel_rfl) (by kernel_rfl) (fun _ _ _ h => h) rfl (by rfl) ?yp84y17 hS ?rp84y17
                case yp84y17 => (intro wz hz; have q0 : wz.cell? ⟨b, o + k * 2, none⟩ = some (.int .i64 x.1) := (hz.cell (p := ⟨b, o + k * 2, none⟩) hbd).trans (R2.out 0 _ rfl); have q1 : wz.cell? ⟨b, o + k * 2 + 1, none⟩ = some (.int .u64 (x.2 : Int)) := (hz.cell (p := ⟨b, o + k * 2 + 1, none⟩) hbd).trans (R2.out 1 _ rfl); have r0 : wz.cell? ⟨b3, 0, none⟩ = some (.int .i64 r.1) := (A3D.out.under hz A3D.out.lt).cell 0; have r1 : wz.cell? ⟨b3, 1, none⟩ = some (.int .u64 (r.2 : Int)) := (A3D.out.under hz A3D.out.lt).cell 1; go_simp <;> with_reducible rfl)
                simp only [List.setIfInBounds_toArray, List.set_cons_zero, List.set_cons_succ]
                refine takeH (i := 18) (d := 38) (v := ?vp84y18) rfl (by kernel_rfl) (by kernel_rfl) (by kernel_rfl) (fun _ _ _ h => h) rfl (by rfl) ?yp84y18 hS ?rp84y18
                case yp84y18 => (intro wz hz; have q0 : wz.cell? ⟨b, o + k * 2, none⟩ = some (.int .i64 x.1) := (hz.cell (p := ⟨b, o + k * 2, none⟩) hbd).trans (R2.out 0 _ rfl); have q1 : wz.cell? ⟨b, o + k * 2 + 1, none⟩ = some (.int .u64 (x.2 : Int)) := (hz.cell (p := ⟨b, o + k * 2 + 1, none⟩) hbd).trans (R2.out 1 _ rfl); have r0 : wz.cell? ⟨b3, 0, none⟩ = some (.int .i64 r.1) := (A3D.out.under hz A3D.out.lt).cell 0; have r1 : wz.cell? ⟨b3, 1, none⟩ = some (.int .u64 (r.2 : Int)) := (A3D.out.under hz A3D.out.lt).cell 1; go_simp <;> with_reducible rfl)
                simp only [List.setIfInBounds_toArray, List.set_cons_zero, List.set_cons_succ]
                refine takeH (i := 19) (d := 39) (v := ?vp84y19) rfl (by kernel_rfl) (by kernel_rfl) (by kernel_rfl) (fun _ _ _ h => h) rfl (by rfl) ?yp84y19 hS ?rp84y19
                case yp84y19 => (intro wz hz; have q0 : wz.cell? ⟨b, o + k * 2, none⟩ = some (.int .i64 x.1) := (hz.cell (p := ⟨b, o + k * 2, none⟩) hbd).trans (R2.out 0 _ rfl); have q1 : wz.cell? ⟨b, o + k * 2 + 1, none⟩ = some (.int .u64 (x.2 : Int)) := (hz.cell (p := ⟨b, o + k * 2 + 1, none⟩) hbd).trans (R2.out 1 _ rfl); have r0 : wz.cell? ⟨b3, 0, none⟩ = some (.int .i64 r.1) := (A3D.out.under hz A3D.out.lt).cell 0; have r1 : wz.cell? ⟨b3, 1, none⟩ = some (.int .u64 (r.2 : Int)) := (A3D.out.under hz A3D.out.lt).cell 1; go_simp <;> with_reducible rfl)
                simp only [List.setIfInBounds_toArray, List.set_cons_zero, List.set_cons_succ]
                refine takeH (i := 20) (d := 40) (v := ?vp84y20) rfl (by kernel_rfl) (by kernel_rfl) (by kernel_rfl) (fun _ _ _ h => h) rfl (by rfl) ?yp84y20 hS ?rp84y20
                case yp84y20 => (intro wz hz; have q0 : wz.cell? ⟨b, o + k * 2, none⟩ = some (.int .i64 x.1) := (hz.cell (p := ⟨b, o + k * 2, none⟩) hbd).trans (R2.out 0 _ rfl); have q1 : wz.cell? ⟨b, o + k * 2 + 1, none⟩ = some (.int .u64 (x.2 : Int)) := (hz.cell (p := ⟨b, o + k * 2 + 1, none⟩) hbd).trans (R2.out 1 _ rfl); have r0 : wz.cell? ⟨b3, 0, none⟩ = some (.int .i64 r.1) := (A3D.out.under hz A3D.out.lt).cell 0; have r1 : wz.cell? ⟨b3, 1, none⟩ = some (.int .u64 (r.2 : Int)) := (A3D.out.under hz A3D.out.lt).cell 1; go_simp <;> with_reducible rfl)
                simp only [List.setIfInBounds_toArray, List.set_cons_zero, List.set_cons_succ]
                refine takeH (i := 21) (d := 41) (v := ?vp84y21) rfl (by kernel_rfl) (by kernel_rfl) (by kernel_rfl) (fun _ _ _ h => h) rfl (by rfl) ?yp84y21 hS ?rp84y21
                case yp84y21 => (intro wz hz; have q0 : wz.cell? ⟨b, o + k * 2, none⟩ = some (.int .i64 x.1) := (hz.cell (p := ⟨b, o + k * 2, none⟩) hbd).trans (R2.out 0 _ rfl); have q1 : wz.cell? ⟨b, o + k * 2 + 1, none⟩ = some (.int .u64 (x.2 : Int)) := (hz.cell (p := ⟨b, o + k * 2 + 1, none⟩) hbd).trans (R2.out 1 _ rfl); have r0 : wz.cell? ⟨b3, 0, none⟩ = some (.int .i64 r.1) := (A3D.out.under hz A3D.out.lt).cell 0; have r1 : wz.cell? ⟨b3, 1, none⟩ = some (.int .u64 (r.2 : Int)) := (A3D.out.under hz A3D.out.lt).cell 1; go_simp <;> with_reducible rfl)
                simp only [List.setIfInBounds_toArray, List.set_cons_zero, List.set_cons_succ]
                refine takeH (i := 22) (d := 42) (v := ?vp84y22) rfl (by kernel_rfl) (by kernel_rfl) (by kernel_rfl) (fun _ _ _ h => h) rfl (by rfl) ?yp84y22 hS ?rp84y22
                case yp84y22 => (intro wz hz; have q0 : wz.cell? ⟨b, o + k * 2, none⟩ = some (.int .i64 x.1) := (hz.cell (p := ⟨b, o + k * 2, none⟩) hbd).trans (R2.out 0 _ rfl); have q1 : wz.cell? ⟨b, o + k * 2 + 1, none⟩ = some (.int .u64 (x.2 : Int)) := (hz.cell (p := ⟨b, o + k * 2 + 1, none⟩) hbd).trans (R2.out 1 _ rfl); have r0 : wz.cell? ⟨b3, 0, none⟩ = some (.int .i64 r.1) := (A3D.out.under hz A3D.out.lt).cell 0; have r1 : wz.cell? ⟨b3, 1, none⟩ = some (.int .u64 (r.2 : Int)) := (A3D.out.under hz A3D.out.lt).cell 1; go_simp <;> with_reducible rfl)
                simp only [List.setIfInBounds_toArray, List.set_cons_zero, List.set_cons_succ]
                refine takeH (i := 23) (d := 43) (v := ?vp84y23) rfl (by kernel_rfl) (by kernel_rfl) (by kernel_rfl) (fun _ _ _ h => h) rfl (by rfl) ?yp84y23 hS ?rp84y23
                case yp84y23 => (intro wz hz; have q0 : wz.cell? ⟨b, o + k * 2, none⟩ = some (.int .i64 x.1) := (hz.cell (p := ⟨b, o + k * 2, none⟩) hbd).trans (R2.out 0 _ rfl); have q1 : wz.cell? ⟨b, o + k * 2 + 1, none⟩ = some (.int .u64 (x.2 : Int)) := (hz.cell (p := ⟨b, o + k * 2 + 1, none⟩) hbd).trans (R2.out 1 _ rfl); have r0 : wz.cell? ⟨b3, 0, none⟩ = some (.int .i64 r.1) := (A3D.out.under hz A3D.out.lt).cell 0; have r1 : wz.cell? ⟨b3, 1, none⟩ = some (.int .u64 (r.2 : Int)) := (A3D.out.under hz A3D.out.lt).cell 1; go_simp <;> with_reducible rfl)
                simp only [List.setIfInBounds_toArray, List.set_cons_zero, List.set_cons_succ]
                refine takeH (i := 24) (d := 44) (v := ?vp84y24) rfl (by kernel_rfl) (by kernel_rfl) (by kernel_rfl) (fun _ _ _ h => h) rfl (by rfl) ?yp84y24 hS ?rp84y24
                case yp84y24 => (intro wz hz; have q0 : wz.cell? ⟨b, o + k * 2, none⟩ = some (.int .i64 x.1) := (hz.cell (p := ⟨b, o + k * 2, none⟩) hbd).trans (R2.out 0 _ rfl); have q1 : wz.cell? ⟨b, o + k * 2 + 1, none⟩ = some (.int .u64 (x.2 : Int)) := (hz.cell (p := ⟨b, o + k * 2 + 1, none⟩) hbd).trans (R2.out 1 _ rfl); have r0 : wz.cell? ⟨b3, 0, none⟩ = some (.int .i64 r.1) := (A3D.out.under hz A3D.out.lt).cell 0; have r1 : wz.cell? ⟨b3, 1, none⟩ = some (.int .u64 (r.2 : Int)) := (A3D.out.under hz A3D.out.lt).cell 1; go_simp <;> with_reducible rfl)
                simp only [List.setIfInBounds_toArray, List.set_cons_zero, List.set_cons_succ]
                refine takeH (i := 25) (d := 45) (v := ?vp84y25) rfl (by kernel_rfl) (by kernel_rfl) (by kernel_rfl) (fun _ _ _ h => h) rfl (by rfl) ?yp84y25 hS ?rp84y25
                case yp84y25 => (intro wz hz; have q0 : wz.cell? ⟨b, o + k * 2, none⟩ = some (.int .i64 x.1) := (hz.cell (p := ⟨b, o + k * 2, none⟩) hbd).trans (R2.out 0 _ rfl); have q1 : wz.cell? ⟨b, o + k * 2 + 1, none⟩ = some (.int .u64 (x.2 : Int)) := (hz.cell (p := ⟨b, o + k * 2 + 1, none⟩) hbd).trans (R2.out 1 _ rfl); have r0 : wz.cell? ⟨b3, 0, none⟩ = some (.int .i64 r.1) := (A3D.out.under hz A3D.out.lt).cell 0; have r1 : wz.cell? ⟨b3, 1, none⟩ = some (.int .u64 (r.2 : Int)) := (A3D.out.under hz A3D.out.lt).cell 1; go_simp <;> with_reducible rfl)
                simp only [List.setIfInBounds_toArray, List.set_cons_zero, List.set_cons_succ]
                refine takeH (i := 26) (d := 46) (v := ?vp84y26) rfl (by kernel_rfl) (by kernel_rfl) (by kernel_rfl) (fun _ _ _ h => h) rfl (by rfl) ?yp84y26 hS ?rp84y26
                case yp84y26 => (intro wz hz; have q0 : wz.cell? ⟨b, o + k * 2, none⟩ = some (.int .i64 x.1) := (hz.cell (p := ⟨b, o + k * 2, none⟩) hbd).trans (R2.out 0 _ rfl); have q1 : wz.cell? ⟨b, o + k * 2 + 1, none⟩ = some (.int .u64 (x.2 : Int)) := (hz.cell (p := ⟨b, o + k * 2 + 1, none⟩) hbd).trans (R2.out 1 _ rfl); have r0 : wz.cell? ⟨b3, 0, none⟩ = some (.int .i64 r.1) := (A3D.out.under hz A3D.out.lt).cell 0; have r1 : wz.cell? ⟨b3, 1, none⟩ = some (.int .u64 (r.2 : Int)) := (A3D.out.under hz A3D.out.lt).cell 1; go_simp <;> with_reducible rfl)
                simp only [List.setIfInBounds_toArray, List.set_cons_zero, List.set_cons_succ]
                refine takeH (i := 27) (d := 47) (v := ?vp84y27) rfl (by kernel_rfl) (by kernel_rfl) (by kernel_rfl) (fun _ _ _ h => h) rfl (by rfl) ?yp84y27 hS ?rp84y27
                case yp84y27 => (intro wz hz; have q0 : wz.cell? ⟨b, o + k * 2, none⟩ = some (.int .i64 x.1) := (hz.cell (p := ⟨b, o + k * 2, none⟩) hbd).trans (R2.out 0 _ rfl); have q1 : wz.cell? ⟨b, o + k * 2 + 1, none⟩ = some (.int .u64 (x.2 : Int)) := (hz.cell (p := ⟨b, o + k * 2 + 1, none⟩) hbd).trans (R2.out 1 _ rfl); have r0 : wz.cell? ⟨b3, 0, none⟩ = some (.int .i64 r.1) := (A3D.out.under hz A3D.out.lt).cell 0; have r1 : wz.cell? ⟨b3, 1, none⟩ = some (.int .u64 (r.2 : Int)) := (A3D.out.under hz A3D.out.lt).cell 1; go_simp <;> with_reducible rfl)
                simp only [List.setIfInBounds_toArray, List.set_cons_zero, List.set_cons_succ]
                refine takeH (i := 28) (d := 48) (v := ?vp84y28) rfl (by kernel_rfl) (by kernel_rfl) (by kernel_rfl) (fun _ _ _ h => h) rfl (by rfl) ?yp84y28 hS ?rp84y28
                case yp84y28 => (intro wz hz; have q0 : wz.cell? ⟨b, o + k * 2, none⟩ = some (.int .i64 x.1) := (hz.cell (p := ⟨b, o + k * 2, none⟩) hbd).trans (R2.out 0 _ rfl); have q1 : wz.cell? ⟨b, o + k * 2 + 1, none⟩ = some (.int .u64 (x.2 : Int)) := (hz.cell (p := ⟨b, o + k * 2 + 1, none⟩) hbd).trans (R2.out 1 _ rfl); have r0 : wz.cell? ⟨b3, 0, none⟩ = some (.int .i64 r.1) := (A3D.out.under hz A3D.out.lt).cell 0; have r1 : wz.cell? ⟨b3, 1, none⟩ = some (.int .u64 (r.2 : Int)) := (A3D.out.under hz A3D.out.lt).cell 1; go_simp <;> with_reducible rfl)
                simp only [List.setIfInBounds_toArray, List.set_cons_zero, List.set_cons_succ]
                refine takeH (i := 29) (d := 49) (v := ?vp84y29) rfl (by kernel_rfl) (by kernel_rfl) (by kernel_rfl) (fun _ _ _ h => h) rfl (by rfl) ?yp84y29 hS ?rp84y29
                case yp84y29 => (intro wz hz; have q0 : wz.cell? ⟨b, o + k * 2, none⟩ = some (.int .i64 x.1) := (hz.cell (p := ⟨b, o + k * 2, none⟩) hbd).trans (R2.out 0 _ rfl); have q1 : wz.cell? ⟨b, o + k * 2 + 1, none⟩ = some (.int .u64 (x.2 : Int)) := (hz.cell (p := ⟨b, o + k * 2 + 1, none⟩) hbd).trans (R2.out 1 _ rfl); have r0 : wz.cell? ⟨b3, 0, none⟩ = some (.int .i64 r.1) := (A3D.out.under hz A3D.out.lt).cell 0; have r1 : wz.cell? ⟨b3, 1, none⟩ = some (.int .u64 (r.2 : Int)) := (A3D.out.under hz A3D.out.lt).cell 1; go_simp <;> with_reducible rfl)
                simp only [List.setIfInBounds_toArray, List.set_cons_zero, List.set_cons_succ]
                refine takeH (i := 30) (d := 50) (v := ?vp84y30) rfl (by kernel_rfl) (by kernel_rfl) (by kernel_rfl) (fun _ _ _ h => h) rfl (by rfl) ?yp84y30 hS ?rp84y30
                case yp84y30 => (intro wz hz; have q0 : wz.cell? ⟨b, o + k * 2, none⟩ = some (.int .i64 x.1) := (hz.cell (p := ⟨b, o + k * 2, none⟩) hbd).trans (R2.out 0 _ rfl); have q1 : wz.cell? ⟨b, o + k * 2 + 1, none⟩ = some (.int .u64 (x.2 : Int)) := (hz.cell (p := ⟨b, o + k * 2 + 1, none⟩) hbd).trans (R2.out 1 _ rfl); have r0 : wz.cell? ⟨b3, 0, none⟩ = some (.int .i64 r.1) := (A3D.out.under hz A3D.out.lt).cell 0; have r1 : wz.cell? ⟨b3, 1, none⟩ = some (.int .u64 (r.2 : Int)) := (A3D.out.under hz A3D.out.lt).cell 1; go_simp <;> with_reducible rfl)
                simp only [List.setIfInBounds_toArray, List.set_cons_zero, List.set_cons_succ]
                refine takeH (i := 31) (d := 51) (v := ?vp84y31) rfl (by kernel_rfl) (by kernel_rfl) (by kernel_rfl) (fun _ _ _ h => h) rfl (by rfl) ?yp84y31 hS ?rp84y31
                case yp84y31 => (intro wz hz; have q0 : wz.cell? ⟨b, o + k * 2, none⟩ = some (.int .i64 x.1) := (hz.cell (p := ⟨b, o + k * 2, none⟩) hbd).trans (R2.out 0 _ rfl); have q1 : wz.cell? ⟨b, o + k * 2 + 1, none⟩ = some (.int .u64 (x.2 : Int)) := (hz.cell (p := ⟨b, o + k * 2 + 1, none⟩) hbd).trans (R2.out 1 _ rfl); have r0 : wz.cell? ⟨b3, 0, none⟩ = some (.int .i64 r.1) := (A3D.out.under hz A3D.out.lt).cell 0; have r1 : wz.cell? ⟨b3, 1, none⟩ = some (.int .u64 (r.2 : Int)) := (A3D.out.under hz A3D.out.lt).cell 1; go_simp <;> with_reducible rfl)
                simp only [List.setIfInBounds_toArray, List.set_cons_zero, List.set_cons_succ]
                refine wpAnyH_done (by kernel_rfl) ?_ _
                have HD := Lib.hid (HD1.out.under hS)
                have A3E := Lib.hid (A3D.out.under hS A3D.out.lt)
                have R3 : Hid (we.drew.rangeAt b (o + k * 2) (encR x)) := fun j v hv => (hS.cell (p := ⟨b, o + k * 2 + j, none⟩) hbd).trans (R2.out j v hv)
                have hbe : b < we.drew.heap.size := Nat.lt_of_lt_of_le hbd hS.size
                generalize we.drew = wd at HD A3E R3 hbe ⊢
                clear hS
                have OWN := Lib.hid (own_under HD.out.own ((Below.refl _ wd).alloc (Nat.le_refl _) (.cells (rsA r) 33)) (Nat.le_refl _))
                have LN := Lib.hid (lies_rs (At.new wd 33 (rsA r)))
                have HSZ : Hid (z0.heap.size ≤ (wd.alloc (.cells (rsA r) 33)).heap.size) := by have := HD.out.below.size; show _ ≤ _; simp; omega
                rw [HNF.out] at OWN
                obtain ⟨i0, hi0, hz0, hz1, hz2⟩ := r_info
                go_upto_region 10 with (first
                            | refine wpList_load_at 33 53 (.tmp 3) rfl rfl rfl b3 rfl (rsA r) 2 strR rfl A3E.out ?_
                            | refine wpList_lit1r rfl 54 (.tmp 53) 40 33 2 (rsV (0, 0)) (rsA r) rfl rfl rfl Tryz.underlying40 (by kernel_rfl) (by omega) (by omega) rfl ?_
                            | (at_builtin; refine wpList_app _ rfl (.tmp 52) (.tmp 54) 40 rfl z0.heap.size 33 i0 (rsV (0, 0)) 2 16 Tryz.underlying40 hi0 hz0 hz1 hz2 rfl (by omega) (.slice AF nF cF) nF (rsL F) rfl OWN.out _ (some ⟨wd.heap.size, 0, none⟩) 1 1 (rsL [r]) rfl LN.out (rs_one1 r) (by simp only [maxLen]; omega) (by omega) HSZ.out ?_; intro v5 w5 ho5 hg5))
                obtain ⟨A5, c5, rfl, _⟩ := own_slice ho5
                have hl5 : nF + 1 = (F ++ [r]).length := by rw [List.length_append, HNF.out]; rfl
                have hB := HD.out.app (x := r) ho5 hl5 hg5
                have HD5 : Hid (BuT z0 (F ++ [r]) (.slice A5 (nF + 1) c5) w5) := hB
                clear hB ho5 hg5 OWN LN HSZ
                have hbz2 : b < z0.heap.size := hb
                have R5 : Hid (w5.rangeAt b (o + k * 2) (encR x)) := fun j v hv => (HD5.out.below.cell (p := ⟨b, o + k * 2 + j, none⟩) hb).trans (RZ.out j v hv)
                have OWN5 := Lib.hid (own_under HD5.out.own ((Below.refl _ w5).alloc (Nat.le_refl _) (.cells (rsA x) 33)) (Nat.le_refl _))
                have LN5 := Lib.hid (lies_rs (At.new w5 33 (rsA x)))
                have HSZ5 : Hid (z0.heap.size ≤ (w5.alloc (.cells (rsA x) 33)).heap.size) := by have := HD5.out.below.size; show _ ≤ _; simp; omega
                have hl6 : nF + 1 + 1 = (F ++ [r] ++ [x]).length := by rw [List.length_append, ← hl5]; rfl
                rw [← hl5] at OWN5
                go_wp2_with (first
                            | refine wpList_load_in 33 60 (.tmp 59) rfl rfl rfl b (o + k * 2) rfl (encR x) 2 strR rfl R5.out ?_
                            | refine wpList_lit1r rfl 61 (.tmp 60) 40 33 2 (rsV (0, 0)) (rsA x) rfl rfl rfl Tryz.underlying40 (by kernel_rfl) (by omega) (by omega) rfl ?_
                            | (at_builtin; refine wpList_app _ rfl (.tmp 56) (.tmp 61) 40 rfl z0.heap.size 33 i0 (rsV (0, 0)) 2 16 Tryz.underlying40 hi0 hz0 hz1 hz2 rfl (by omega) (.slice A5 (nF + 1) c5) (nF + 1) (rsL (F ++ [r])) rfl OWN5.out _ (some ⟨w5.heap.size, 0, none⟩) 1 1 (rsL [x]) rfl LN5.out (rs_one1 x) (by simp only [maxLen]; omega) (by omega) HSZ5.out ?_; intro v6 w6 ho6 hg6))
                obtain ⟨A6, c6, rfl, _⟩ := own_slice ho6
                have hB := HD5.out.app (x := x) ho6 hl6 hg6
                rw [hl6] at hB ⊢
                exact ⟨⟨k + 1, F ++ [r] ++ [x], A6, c6, true, by omega, rfl, rfl, by go_num, by omega, HP.out, hB⟩, by simp [intOf]; omega⟩
          · have HP : Hid (putF r false l = F ++ [r] ++ [x] ++ putF r true (l.drop (k + 1))) := by show _ = _; rw [HP1.out]; simp
            refine wp_region_held_drew (S := Below we.heap.size we) (by kernel_rfl) ((Below.refl _ we).drew) (fun hS => ?_)
            refine takeH (i := 0) (d := 20) (v := ?vp85y0) rfl (by kernel_rfl) (by kernel_rfl) (by kernel_rfl) (fun _ _ _ h => h) rfl (by rfl) ?yp85y0 hS ?rp85y0
            case yp85y0 => (intro wz hz; have q0 : wz.cell? ⟨b, o + k * 2, none⟩ = some (.int .i64 x.1) := (hz.cell (p := ⟨b, o + k * 2, none⟩) hbd).trans (R2.out 0 _ rfl); have q1 : wz.cell? ⟨b, o + k * 2 + 1, none⟩ = some (.int .u64 (x.2 : Int)) := (hz.cell (p := ⟨b, o + k * 2 + 1, none⟩) hbd).trans (R2.out 1 _ rfl); have r0 : wz.cell? ⟨b3, 0, none⟩ = some (.int .i64 r.1) := (A3D.out.under hz A3D.out.lt).cell 0; have r1 : wz.cell? ⟨b3, 1, none⟩ = some (.int .u64 (r.2 : Int)) := (A3D.out.under hz A3D.out.lt).cell 1; go_simp <;> with_reducible rfl)
            simp only [List.setIfInBounds_toArray, List.set_cons_zero, List.set_cons_succ]
            refine takeH (i := 1) (d := 21) (v := ?vp85y1) rfl (by kernel_rfl) (by kernel_rfl) (by kernel_rfl) (fun _ _ _ h => h) rfl (by rfl) ?yp85y1 hS ?rp85y1
            case yp85y1 => (intro wz hz; have q0 : wz.cell? ⟨b, o + k * 2, none⟩ = some (.int .i64 x.1) := (hz.cell (p := ⟨b, o + k * 2, none⟩) hbd).trans (R2.out 0 _ rfl); have q1 : wz.cell? ⟨b, o + k * 2 + 1, none⟩ = some (.int .u64 (x.2 : Int)) := (hz.cell (p := ⟨b, o + k * 2 + 1, none⟩) hbd).trans (R2.out 1 _ rfl); have r0 : wz.cell? ⟨b3, 0, none⟩ = some (.int .i64 r.1) := (A3D.out.under hz A3D.out.lt).cell 0; have r1 : wz.cell? ⟨b3, 1, none⟩ = some (.int .u64 (r.2 : Int)) := (A3D.out.under hz A3D.out.lt).cell 1; go_simp <;> with_reducible rfl)
            simp only [List.setIfInBounds_toArray, List.set_cons_zero, List.set_cons_succ]
            refine takeH (i := 2) (d := 22) (v := ?vp85y2) rfl (by kernel_rfl) (by kernel_rfl) (by kernel_rfl) (fun _ _ _ h => h) rfl (by rfl) ?yp85y2 hS ?rp85y2
            case yp85y2 => (intro wz hz; have q0 : wz.cell? ⟨b, o + k * 2, none⟩ = some (.int .i64 x.1) := (hz.cell (p := ⟨b, o + k * 2, none⟩) hbd).trans (R2.out 0 _ rfl); have q1 : wz.cell? ⟨b, o + k * 2 + 1, none⟩ = some (.int .u64 (x.2 : Int)) := (hz.cell (p := ⟨b, o + k * 2 + 1, none⟩) hbd).trans (R2.out 1 _ rfl); have r0 : wz.cell? ⟨b3, 0, none⟩ = some (.int .i64 r.1) := (A3D.out.under hz A3D.out.lt).cell 0; have r1 : wz.cell? ⟨b3, 1, none⟩ = some (.int .u64 (r.2 : Int)) := (A3D.out.under hz A3D.out.lt).cell 1; go_simp <;> with_reducible rfl)
            simp only [List.setIfInBounds_toArray, List.set_cons_zero, List.set_cons_succ]
            refine takeH (i := 3) (d := 23) (v := ?vp85y3) rfl (by kernel_rfl) (by kernel_rfl) (by kernel_rfl) (fun _ _ _ h => h) rfl (by rfl) ?yp85y3 hS ?rp85y3
            case yp85y3 => (intro wz hz; have q0 : wz.cell? ⟨b, o + k * 2, none⟩ = some (.int .i64 x.1) := (hz.cell (p := ⟨b, o + k * 2, none⟩) hbd).trans (R2.out 0 _ rfl); have q1 : wz.cell? ⟨b, o + k * 2 + 1, none⟩ = some (.int .u64 (x.2 : Int)) := (hz.cell (p := ⟨b, o + k * 2 + 1, none⟩) hbd).trans (R2.out 1 _ rfl); have r0 : wz.cell? ⟨b3, 0, none⟩ = some (.int .i64 r.1) := (A3D.out.under hz A3D.out.lt).cell 0; have r1 : wz.cell? ⟨b3, 1, none⟩ = some (.int .u64 (r.2 : Int)) := (A3D.out.under hz A3D.out.lt).cell 1; go_simp <;> with_reducible rfl)
            simp only [List.setIfInBounds_toArray, List.set_cons_zero, List.set_cons_succ]
            refine takeH (i := 4) (d := 24) (v := ?vp85y4) rfl (by kernel_rfl) (by kernel_rfl) (by kernel_rfl) (fun _ _ _ h => h) rfl (by rfl) ?yp85y4 hS ?rp85y4
            case yp85y4 => (intro wz hz; have q0 : wz.cell? ⟨b, o + k * 2, none⟩ = some (.int .i64 x.1) := (hz.cell (p := ⟨b, o + k * 2, none⟩) hbd).trans (R2.out 0 _ rfl); have q1 : wz.cell? ⟨b, o + k * 2 + 1, none⟩ = some (.int .u64 (x.2 : Int)) := (hz.cell (p := ⟨b, o + k * 2 + 1, none⟩) hbd).trans (R2.out 1 _ rfl); have r0 : wz.cell? ⟨b3, 0, none⟩ = some (.int .i64 r.1) := (A3D.out.under hz A3D.out.lt).cell 0; have r1 : wz.cell? ⟨b3, 1, none⟩ = some (.int .u64 (r.2 : Int)) := (A3D.out.under hz A3D.out.lt).cell 1; go_simp <;> with_reducible rfl)
            simp only [List.setIfInBounds_toArray, List.set_cons_zero, List.set_cons_succ]
            refine takeH (i := 5) (d := 25) (v := ?vp85y5) rfl (by kernel_rfl) (by kernel_rfl) (by kernel_rfl) (fun _ _ _ h => h) rfl (by rfl) ?yp85y5 hS ?rp85y5
            case yp85y5 => (intro wz hz; have q0 : wz.cell? ⟨b, o + k * 2, none⟩ = some (.int .i64 x.1) := (hz.cell (p := ⟨b, o + k * 2, none⟩) hbd).trans (R2.out 0 _ rfl); have q1 : wz.cell? ⟨b, o + k * 2 + 1, none⟩ = some (.int .u64 (x.2 : Int)) := (hz.cell (p := ⟨b, o + k * 2 + 1, none⟩) hbd).trans (R2.out 1 _ rfl); have r0 : wz.cell? ⟨b3, 0, none⟩ = some (.int .i64 r.1) := (A3D.out.under hz A3D.out.lt).cell 0; have r1 : wz.cell? ⟨b3, 1, none⟩ = some (.int .u64 (r.2 : Int)) := (A3D.out.under hz A3D.out.lt).cell 1; go_simp <;> with_reducible rfl)
            simp only [List.setIfInBounds_toArray, List.set_cons_zero, List.set_cons_succ]
            refine takeH (i := 6) (d := 26) (v := ?vp85y6) rfl (by kernel_rfl) (by kernel_rfl) (by kernel_rfl) (fun _ _ _ h => h) rfl (by rfl) ?yp85y6 hS ?rp85y6
            case yp85y6 => (intro wz hz; have q0 : wz.cell? ⟨b, o + k * 2, none⟩ = some (.int .i64 x.1) := (hz.cell (p := ⟨b, o + k * 2, none⟩) hbd).trans (R2.out 0 _ rfl); have q1 : wz.cell? ⟨b, o + k * 2 + 1, none⟩ = some (.int .u64 (x.2 : Int)) := (hz.cell (p := ⟨b, o + k * 2 + 1, none⟩) hbd).trans (R2.out 1 _ rfl); have r0 : wz.cell? ⟨b3, 0, none⟩ = some (.int .i64 r.1) := (A3D.out.under hz A3D.out.lt).cell 0; have r1 : wz.cell? ⟨b3, 1, none⟩ = some (.int .u64 (r.2 : Int)) := (A3D.out.under hz A3D.out.lt).cell 1; go_simp <;> with_reducible rfl)
            simp only [List.setIfInBounds_toArray, List.set_cons_zero, List.set_cons_succ]
            refine takeH (i := 7) (d := 27) (v := ?vp85y7) rfl (by kernel_rfl) (by kernel_rfl) (by kernel_rfl) (fun _ _ _ h => h) rfl (by rfl) ?yp85y7 hS ?rp85y7
            case yp85y7 => (intro wz hz; have q0 : wz.cell? ⟨b, o + k * 2, none⟩ = some (.int .i64 x.1) := (hz.cell (p := ⟨b, o + k * 2, none⟩) hbd).trans (R2.out 0 _ rfl); have q1 : wz.cell? ⟨b, o + k * 2 + 1, none⟩ = some (.int .u64 (x.2 : Int)) := (hz.cell (p := ⟨b, o + k * 2 + 1, none⟩) hbd).trans (R2.out 1 _ rfl); have r0 : wz.cell? ⟨b3, 0, none⟩ = some (.int .i64 r.1) := (A3D.out.under hz A3D.out.lt).cell 0; have r1 : wz.cell? ⟨b3, 1, none⟩ = some (.int .u64 (r.2 : Int)) := (A3D.out.under hz A3D.out.lt).cell 1; go_simp <;> with_reducible rfl)
            simp only [List.setIfInBounds_toArray, List.set_cons_zero, List.set_cons_succ]
            refine takeH (i := 8) (d := 28) (v := ?vp85y8) rfl (by kernel_rfl) (by kernel_rfl) (by kernel_rfl) (fun _ _ _ h => h) rfl (by rfl) ?yp85y8 hS ?rp85y8
            case yp85y8 => (intro wz hz; have q0 : wz.cell? ⟨b, o + k * 2, none⟩ = some (.int .i64 x.1) := (hz.cell (p := ⟨b, o + k * 2, none⟩) hbd).trans (R2.out 0 _ rfl); have q1 : wz.cell? ⟨b, o + k * 2 + 1, none⟩ = some (.int .u64 (x.2 : Int)) := (hz.cell (p := ⟨b, o + k * 2 + 1, none⟩) hbd).trans (R2.out 1 _ rfl); have r0 : wz.cell? ⟨b3, 0, none⟩ = some (.int .i64 r.1) := (A3D.out.under hz A3D.out.lt).cell 0; have r1 : wz.cell? ⟨b3, 1, none⟩ = some (.int .u64 (r.2 : Int)) := (A3D.out.under hz A3D.out.lt).cell 1; go_simp <;> with_reducible rfl)
            simp only [List.setIfInBounds_toArray, List.set_cons_zero, List.set_cons_succ]
            refine takeH (i := 9) (d := 29) (v := ?vp85y9) rfl (by kernel_rfl) (by kernel_rfl) (by kernel_rfl) (fun _ _ _ h => h) rfl (by rfl) ?yp85y9 hS ?rp85y9
            case yp85y9 => (intro wz hz; have q0 : wz.cell? ⟨b, o + k * 2, none⟩ = some (.int .i64 x.1) := (hz.cell (p := ⟨b, o + k * 2, none⟩) hbd).trans (R2.out 0 _ rfl); have q1 : wz.cell? ⟨b, o + k * 2 + 1, none⟩ = some (.int .u64 (x.2 : Int)) := (hz.cell (p := ⟨b, o + k * 2 + 1, none⟩) hbd).trans (R2.out 1 _ rfl); have r0 : wz.cell? ⟨b3, 0, none⟩ = some (.int .i64 r.1) := (A3D.out.under hz A3D.out.lt).cell 0; have r1 : wz.cell? ⟨b3, 1, none⟩ = some (.int .u64 (r.2 : Int)) := (A3D.out.under hz A3D.out.lt).cell 1; go_simp <;> with_reducible rfl)
            simp only [List.setIfInBounds_toArray, List.set_cons_zero, List.set_cons_succ]
            refine takeH (i := 10) (d := 30) (v := ?vp85y10) rfl (by kernel_rfl) (by kernel_rfl) (by kernel_rfl) (fun _ _ _ h => h) rfl (by rfl) ?yp85y10 hS ?rp85y10
            case yp85y10 => (intro wz hz; have q0 : wz.cell? ⟨b, o + k * 2, none⟩ = some (.int .i64 x.1) := (hz.cell (p := ⟨b, o + k * 2, none⟩) hbd).trans (R2.out 0 _ rfl); have q1 : wz.cell? ⟨b, o + k * 2 + 1, none⟩ = some (.int .u64 (x.2 : Int)) := (hz.cell (p := ⟨b, o + k * 2 + 1, none⟩) hbd).trans (R2.out 1 _ rfl); have r0 : wz.cell? ⟨b3, 0, none⟩ = some (.int .i64 r.1) := (A3D.out.under hz A3D.out.lt).cell 0; have r1 : wz.cell? ⟨b3, 1, none⟩ = some (.int .u64 (r.2 : Int)) := (A3D.out.under hz A3D.out.lt).cell 1; go_simp <;> with_reducible rfl)
            simp only [List.setIfInBounds_toArray, List.set_cons_zero, List.set_cons_succ]
            refine takeH (i := 11) (d := 31) (v := ?vp85y11) rfl (by kernel_rfl) (by kernel_rfl) (by kernel_rfl) (fun _ _ _ h => h) rfl (by rfl) ?yp85y11 hS ?rp85y11
            case yp85y11 => (intro wz hz; have q0 : wz.cell? ⟨b, o + k * 2, none⟩ = some (.int .i64 x.1) := (hz.cell (p := ⟨b, o + k * 2, none⟩) hbd).trans (R2.out 0 _ rfl); have q1 : wz.cell? ⟨b, o + k * 2 + 1, none⟩ = some (.int .u64 (x.2 : Int)) := (hz.cell (p := ⟨b, o + k * 2 + 1, none⟩) hbd).trans (R2.out 1 _ rfl); have r0 : wz.cell? ⟨b3, 0, none⟩ = some (.int .i64 r.1) := (A3D.out.under hz A3D.out.lt).cell 0; have r1 : wz.cell? ⟨b3, 1, none⟩ = some (.int .u64 (r.2 : Int)) := (A3D.out.under hz A3D.out.lt).cell 1; go_simp <;> with_reducible rfl)
            simp only [List.setIfInBounds_toArray, List.set_cons_zero, List.set_cons_succ]
            refine skipH (i := 12) (d := 32) rfl (by kernel_rfl) (by kernel_rfl) (by kernel_rfl) (fun _ _ _ h => h) rfl (by rfl) hS ?_
            simp only [List.setIfInBounds_toArray, List.set_cons_zero, List.set_cons_succ]
            refine skipH (i := 13) (d := 33) rfl (by kernel_rfl) (by kernel_rfl) (by kernel_rfl) (fun _ _ _ h => h) rfl (by rfl) hS ?_
            simp only [List.setIfInBounds_toArray, List.set_cons_zero, List.set_cons_succ]
            refine skipH (i := 14) (d := 34) rfl (by kernel_rfl) (by kernel_rfl) (by kernel_rfl) (fun _ _ _ h => h) rfl (by rfl) hS ?_
            simp only [List.setIfInBounds_toArray, List.set_cons_zero, List.set_cons_succ]
            refine skipH (i := 15) (d := 35) rfl (by kernel_rfl) (by kernel_rfl) (by kernel_rfl) (fun _ _ _ h => h) rfl (by rfl) hS ?_
            simp only [List.setIfInBounds_toArray, List.set_cons_zero, List.set_cons_succ]
            refine skipH (i := 16) (d := 36) rfl (by kernel_rfl) (by kernel_rfl) (by kernel_rfl) (fun _ _ _ h => h) rfl (by rfl) hS ?_
            simp only [List.setIfInBounds_toArray, List.set_cons_zero, List.set_cons_succ]
            refine skipH (i := 17) (d := 37) rfl (by kernel_rfl) (by kernel_rfl) (by kernel_rfl) (fun _ _ _ h => h) rfl (by rfl) hS ?_
            simp only [List.setIfInBounds_toArray, List.set_cons_zero, List.set_cons_succ]
            refine skipH (i := 18) (d := 38) rfl (by kernel_rfl) (by kernel_rfl) (by kernel_rfl) (fun _ _ _ h => h) rfl (by rfl) hS ?_
            simp only [List.setIfInBounds_toArray, List.set_cons_zero, List.set_cons_succ]
            refine skipH (i := 19) (d := 39) rfl (by kernel_rfl) (by kernel_rfl) (by kernel_rfl) (fun _ _ _ h => h) rfl (by rfl) hS ?_
            simp only [List.setIfInBounds_toArray, List.set_cons_zero, List.set_cons_succ]
            refine skipH (i := 20) (d := 40) rfl (by kernel_rfl) (by kernel_rfl) (by kernel_rfl) (fun _ _ _ h => h) rfl (by rfl) hS ?_
            simp only [List.setIfInBounds_toArray, List.set_cons_zero, List.set_cons_succ]
            refine skipH (i := 21) (d := 41) rfl (by kernel_rfl) (by kernel_rfl) (by kernel_rfl) (fun _ _ _ h => h) rfl (by rfl) hS ?_
            simp only [List.setIfInBounds_toArray, List.set_cons_zero, List.set_cons_succ]
            refine skipH (i := 22) (d := 42) rfl (by kernel_rfl) (by kernel_rfl) (by kernel_rfl) (fun _ _ _ h => h) rfl (by rfl) hS ?_
            simp only [List.setIfInBounds_toArray, List.set_cons_zero, List.set_cons_succ]
            refine skipH (i := 23) (d := 43) rfl (by kernel_rfl) (by kernel_rfl) (by kernel_rfl) (fun _ _ _ h => h) rfl (by rfl) hS ?_
            simp only [List.setIfInBounds_toArray, List.set_cons_zero, List.set_cons_succ]
            refine skipH (i := 24) (d := 44) rfl (by kernel_rfl) (by kernel_rfl) (by kernel_rfl) (fun _ _ _ h => h) rfl (by rfl) hS ?_
            simp only [List.setIfInBounds_toArray, List.set_cons_zero, List.set_cons_succ]
            refine skipH (i := 25) (d := 45) rfl (by kernel_rfl) (by kernel_rfl) (by kernel_rfl) (fun _ _ _ h => h) rfl (by rfl) hS ?_
            simp only [List.setIfInBounds_toArray, List.set_cons_zero, List.set_cons_succ]
            refine skipH (i := 26) (d := 46) rfl (by kernel_rfl) (by kernel_rfl) (by kernel_rfl) (fun _ _ _ h => h) rfl (by rfl) hS ?_
            simp only [List.setIfInBounds_toArray, List.set_cons_zero, List.set_cons_succ]
            refine skipH (i := 27) (d := 47) rfl (by kernel_rfl) (by kernel_rfl) (by kernel_rfl) (fun _ _ _ h => h) rfl (by rfl) hS ?_
            simp only [List.setIfInBounds_toArray, List.set_cons_zero, List.set_cons_succ]
            refine skipH (i := 28) (d := 48) rfl (by kernel_rfl) (by kernel_rfl) (by kernel_rfl) (fun _ _ _ h => h) rfl (by rfl) hS ?_
            simp only [List.setIfInBounds_toArray, List.set_cons_zero, List.set_cons_succ]
            refine skipH (i := 29) (d := 49) rfl (by kernel_rfl) (by kernel_rfl) (by kernel_rfl) (fun _ _ _ h => h) rfl (by rfl) hS ?_
            simp only [List.setIfInBounds_toArray, List.set_cons_zero, List.set_cons_succ]
            refine takeH (i := 30) (d := 50) (v := ?vp85y30) rfl (by kernel_rfl) (by kernel_rfl) (by kernel_rfl) (fun _ _ _ h => h) rfl (by rfl) ?yp85y30 hS ?rp85y30
            case yp85y30 => (intro wz hz; have q0 : wz.cell? ⟨b, o + k * 2, none⟩ = some (.int .i64 x.1) := (hz.cell (p := ⟨b, o + k * 2, none⟩) hbd).trans (R2.out 0 _ rfl); have q1 : wz.cell? ⟨b, o + k * 2 + 1, none⟩ = some (.int .u64 (x.2 : Int)) := (hz.cell (p := ⟨b, o + k * 2 + 1, none⟩) hbd).trans (R2.out 1 _ rfl); have r0 : wz.cell? ⟨b3, 0, none⟩ = some (.int .i64 r.1) := (A3D.out.under hz A3D.out.lt).cell 0; have r1 : wz.cell? ⟨b3, 1, none⟩ = some (.int .u64 (r.2 : Int)) := (A3D.out.under hz A3D.out.lt).cell 1; go_simp <;> with_reducible rfl)
            simp only [List.setIfInBounds_toArray, List.set_cons_zero, List.set_cons_succ]
            refine takeH (i := 31) (d := 51) (v := ?vp85y31) rfl (by kernel_rfl) (by kernel_rfl) (by kernel_rfl) (fun _ _ _ h => h) rfl (by rfl) ?yp85y31 hS ?rp85y31
            case yp85y31 => (intro wz hz; have q0 : wz.cell? ⟨b, o + k * 2, none⟩ = some (.int .i64 x.1) := (hz.cell (p := ⟨b, o + k * 2, none⟩) hbd).trans (R2.out 0 _ rfl); have q1 : wz.cell? ⟨b, o + k * 2 + 1, none⟩ = some (.int .u64 (x.2 : Int)) := (hz.cell (p := ⟨b, o + k * 2 + 1, none⟩) hbd).trans (R2.out 1 _ rfl); have r0 : wz.cell? ⟨b3, 0, none⟩ = some (.int .i64 r.1) := (A3D.out.under hz A3D.out.lt).cell 0; have r1 : wz.cell? ⟨b3, 1, none⟩ = some (.int .u64 (r.2 : Int)) := (A3D.out.under hz A3D.out.lt).cell 1; go_simp <;> with_reducible rfl)
            simp only [List.setIfInBounds_toArray, List.set_cons_zero, List.set_cons_succ]
            refine wpAnyH_done (by kernel_rfl) ?_ _
            have HD := Lib.hid (HD1.out.under hS)
            have A3E := Lib.hid (A3D.out.under hS A3D.out.lt)
            have R3 : Hid (we.drew.rangeAt b (o + k * 2) (encR x)) := fun j v hv => (hS.cell (p := ⟨b, o + k * 2 + j, none⟩) hbd).trans (R2.out j v hv)
            have hbe : b < we.drew.heap.size := Nat.lt_of_lt_of_le hbd hS.size
            generalize we.drew = wd at HD A3E R3 hbe ⊢
            clear hS
            have OWN := Lib.hid (own_under HD.out.own ((Below.refl _ wd).alloc (Nat.le_refl _) (.cells (rsA r) 33)) (Nat.le_refl _))
            have LN := Lib.hid (lies_rs (At.new wd 33 (rsA r)))
            have HSZ : Hid (z0.heap.size ≤ (wd.alloc (.cells (rsA r) 33)).heap.size) := by have := HD.out.below.size; show _ ≤ _; simp; omega
            rw [HNF.out] at OWN
            obtain ⟨i0, hi0, hz0, hz1, hz2⟩ := r_info
            go_upto_region 10 with (first
                        | refine wpList_load_at 33 53 (.tmp 3) rfl rfl rfl b3 rfl (rsA r) 2 strR rfl A3E.out ?_
                        | refine wpList_lit1r rfl 54 (.tmp 53) 40 33 2 (rsV (0, 0)) (rsA r) rfl rfl rfl Tryz.underlying40 (by kernel_rfl) (by omega) (by omega) rfl ?_
                        | (at_builtin; refine wpList_app _ rfl (.tmp 52) (.tmp 54) 40 rfl z0.heap.size 33 i0 (rsV (0, 0)) 2 16 Tryz.underlying40 hi0 hz0 hz1 hz2 rfl (by omega) (.slice AF nF cF) nF (rsL F) rfl OWN.out _ (some ⟨wd.heap.size, 0, none⟩) 1 1 (rsL [r]) rfl LN.out (rs_one1 r) (by simp only [maxLen]; omega) (by omega) HSZ.out ?_; intro v5 w5 ho5 hg5))
            obtain ⟨A5, c5, rfl, _⟩ := own_slice ho5
            have hl5 : nF + 1 = (F ++ [r]).length := by rw [List.length_append, HNF.out]; rfl
            have hB := HD.out.app (x := r) ho5 hl5 hg5
            have HD5 : Hid (BuT z0 (F ++ [r]) (.slice A5 (nF + 1) c5) w5) := hB
            clear hB ho5 hg5 OWN LN HSZ
            have hbz2 : b < z0.heap.size := hb
            have R5 : Hid (w5.rangeAt b (o + k * 2) (encR x)) := fun j v hv => (HD5.out.below.cell (p := ⟨b, o + k * 2 + j, none⟩) hb).trans (RZ.out j v hv)
            have OWN5 := Lib.hid (own_under HD5.out.own ((Below.refl _ w5).alloc (Nat.le_refl _) (.cells (rsA x) 33)) (Nat.le_refl _))
            have LN5 := Lib.hid (lies_rs (At.new w5 33 (rsA x)))
            have HSZ5 : Hid (z0.heap.size ≤ (w5.alloc (.cells (rsA x) 33)).heap.size) := by have := HD5.out.below.size; show _ ≤ _; simp; omega
            have hl6 : nF + 1 + 1 = (F ++ [r] ++ [x]).length := by rw [List.length_append, ← hl5]; rfl
            rw [← hl5] at OWN5
            go_wp2_with (first
                        | refine wpList_load_in 33 60 (.tmp 59) rfl rfl rfl b (o + k * 2) rfl (encR x) 2 strR rfl R5.out ?_
                        | refine wpList_lit1r rfl 61 (.tmp 60) 40 33 2 (rsV (0, 0)) (rsA x) rfl rfl rfl Tryz.underlying40 (by kernel_rfl) (by omega) (by omega) rfl ?_
                        | (at_builtin; refine wpList_app _ rfl (.tmp 56) (.tmp 61) 40 rfl z0.heap.size 33 i0 (rsV (0, 0)) 2 16 Tryz.underlying40 hi0 hz0 hz1 hz2 rfl (by omega) (.slice A5 (nF + 1) c5) (nF + 1) (rsL (F ++ [r])) rfl OWN5.out _ (some ⟨w5.heap.size, 0, none⟩) 1 1 (rsL [x]) rfl LN5.out (rs_one1 x) (by simp only [maxLen]; omega) (by omega) HSZ5.out ?_; intro v6 w6 ho6 hg6))
            obtain ⟨A6, c6, rfl, _⟩ := own_slice ho6
            have hB := HD5.out.app (x := x) ho6 hl6 hg6
            rw [hl6] at hB ⊢
            exact ⟨⟨k + 1, F ++ [r] ++ [x], A6, c6, true, by omega, rfl, rfl, by go_num, by omega, HP.out, hB⟩, by simp [intOf]; omega⟩
        · have HP : Hid (putF r false l = F ++ [x] ++ putF r true (l.drop (k + 1))) := by show _ = _; rw [HP1.out]; simp
          refine wp_region_held_drew (S := Below wr.heap.size wr) (by kernel_rfl) ((Below.refl _ wr).drew) (fun hS => ?_)
          refine takeH (i := 0) (d := 14) (v := ?vp66x0) rfl (by kernel_rfl) (by kernel_rfl) (by kernel_rfl) (fun _ _ _ h => h) rfl (by rfl) ?yp66x0 hS ?rp66x0
          case yp66x0 => (intro wz hz; go_simp <;> with_reducible rfl)
          simp only [List.setIfInBounds_toArray, List.set_cons_zero, List.set_cons_succ]
          refine takeH (i := 1) (d := 15) (v := ?vp66x1) rfl (by kernel_rfl) (by kernel_rfl) (by kernel_rfl) (fun _ _ _ h => h) rfl (by rfl) ?yp66x1 hS ?rp66x1
          case yp66x1 => (intro wz hz; go_simp <;> with_reducible rfl)
          simp only [List.setIfInBounds_toArray, List.set_cons_zero, List.set_cons_succ]
          refine takeH (i := 2) (d := 16) (v := ?vp66x2) rfl (by kernel_rfl) (by kernel_rfl) (by kernel_rfl) (fun _ _ _ h => h) rfl (by rfl) ?yp66x2 hS ?rp66x2
          case yp66x2 => (intro wz hz; go_simp <;> with_reducible rfl)
          simp only [List.setIfInBounds_toArray, List.set_cons_zero, List.set_cons_succ]
          refine takeH (i := 3) (d := 17) (v := .agg (rsA x)) rfl (by kernel_rfl) (by kernel_rfl) (by kernel_rfl) (fun _ _ _ h => h) rfl (by rfl) ?yp66x3 hS ?rp66x3
          case yp66x3 => (intro wz hz; exact exec_load_in 33 (.tmp 16) rfl b (o + k * 2) rfl (encR x) 2 strR rfl (fun j v hv => (hz.cell (p := ⟨b, o + k * 2 + j, none⟩) hbw).trans (R1.out j v hv)))
          simp only [List.setIfInBounds_toArray, List.set_cons_zero, List.set_cons_succ]
          refine takeH (i := 4) (d := 18) (v := .agg (rsA r)) rfl (by kernel_rfl) (by kernel_rfl) (by kernel_rfl) (fun _ _ _ h => h) rfl (by rfl) ?yp66x4 hS ?rp66x4
          case yp66x4 => (intro wz hz; exact exec_load_at 33 (.tmp 3) rfl b3 rfl (rsA r) 2 strR rfl (A3R.out.under hz A3R.out.lt))
          simp only [List.setIfInBounds_toArray, List.set_cons_zero, List.set_cons_succ]
          refine takeH (i := 5) (d := 19) (v := .bool false) rfl (by kernel_rfl) (by kernel_rfl) (by kernel_rfl) (fun _ _ _ h => h) rfl (by rfl) ?yp66x5 hS ?rp66x5
          case yp66x5 => (intro wz hz; exact exec_eqRb (.tmp 17) (.tmp 18) rfl x r _ HBQ.out rfl rfl)
          simp only [List.setIfInBounds_toArray, List.set_cons_zero, List.set_cons_succ]
          refine wpAnyH_done (by kernel_rfl) ?_ _
          have HD1 := Lib.hid (HS.out.under hS)
          have A3D := Lib.hid (A3R.out.under hS A3R.out.lt)
          have R2 : Hid (wr.drew.rangeAt b (o + k * 2) (encR x)) := fun j v hv => (hS.cell (p := ⟨b, o + k * 2 + j, none⟩) hbw).trans (R1.out j v hv)
          have hbd : b < wr.drew.heap.size := Nat.lt_of_lt_of_le hbw hS.size
          generalize wr.drew = we at HD1 A3D R2 hbd ⊢
          clear hS
          go_upto_region 8 with fail
          refine wp_region_held_drew (S := Below we.heap.size we) (by kernel_rfl) ((Below.refl _ we).drew) (fun hS => ?_)
          refine takeH (i := 0) (d := 20) (v := ?vp87y0) rfl (by kernel_rfl) (by kernel_rfl) (by kernel_rfl) (fun _ _ _ h => h) rfl (by rfl) ?yp87y0 hS ?rp87y0
          case yp87y0 => (intro wz hz; have q0 : wz.cell? ⟨b, o + k * 2, none⟩ = some (.int .i64 x.1) := (hz.cell (p := ⟨b, o + k * 2, none⟩) hbd).trans (R2.out 0 _ rfl); have q1 : wz.cell? ⟨b, o + k * 2 + 1, none⟩ = some (.int .u64 (x.2 : Int)) := (hz.cell (p := ⟨b, o + k * 2 + 1, none⟩) hbd).trans (R2.out 1 _ rfl); have r0 : wz.cell? ⟨b3, 0, none⟩ = some (.int .i64 r.1) := (A3D.out.under hz A3D.out.lt).cell 0; have r1 : wz.cell? ⟨b3, 1, none⟩ = some (.int .u64 (r.2 : Int)) := (A3D.out.under hz A3D.out.lt).cell 1; go_simp <;> with_reducible rfl)
          simp only [List.setIfInBounds_toArray, List.set_cons_zero, List.set_cons_succ]
          refine takeH (i := 1) (d := 21) (v := ?vp87y1) rfl (by kernel_rfl) (by kernel_rfl) (by kernel_rfl) (fun _ _ _ h => h) rfl (by rfl) ?yp87y1 hS ?rp87y1
          case yp87y1 => (intro wz hz; have q0 : wz.cell? ⟨b, o + k * 2, none⟩ = some (.int .i64 x.1) := (hz.cell (p := ⟨b, o + k * 2, none⟩) hbd).trans (R2.out 0 _ rfl); have q1 : wz.cell? ⟨b, o + k * 2 + 1, none⟩ = some (.int .u64 (x.2 : Int)) := (hz.cell (p := ⟨b, o + k * 2 + 1, none⟩) hbd).trans (R2.out 1 _ rfl); have r0 : wz.cell? ⟨b3, 0, none⟩ = some (.int .i64 r.1) := (A3D.out.under hz A3D.out.lt).cell 0; have r1 : wz.cell? ⟨b3, 1, none⟩ = some (.int .u64 (r.2 : Int)) := (A3D.out.under hz A3D.out.lt).cell 1; go_simp <;> with_reducible rfl)
          simp only [List.setIfInBounds_toArray, List.set_cons_zero, List.set_cons_succ]
          refine takeH (i := 2) (d := 22) (v := ?vp87y2) rfl (by kernel_rfl) (by kernel_rfl) (by kernel_rfl) (fun _ _ _ h => h) rfl (by rfl) ?yp87y2 hS ?rp87y2
          case yp87y2 => (intro wz hz; have q0 : wz.cell? ⟨b, o + k * 2, none⟩ = some (.int .i64 x.1) := (hz.cell (p := ⟨b, o + k * 2, none⟩) hbd).trans (R2.out 0 _ rfl); have q1 : wz.cell? ⟨b, o + k * 2 + 1, none⟩ = some (.int .u64 (x.2 : Int)) := (hz.cell (p := ⟨b, o + k * 2 + 1, none⟩) hbd).trans (R2.out 1 _ rfl); have r0 : wz.cell? ⟨b3, 0, none⟩ = some (.int .i64 r.1) := (A3D.out.under hz A3D.out.lt).cell 0; have r1 : wz.cell? ⟨b3, 1, none⟩ = some (.int .u64 (r.2 : Int)) := (A3D.out.under hz A3D.out.lt).cell 1; go_simp <;> with_reducible rfl)
          simp only [List.setIfInBounds_toArray, List.set_cons_zero, List.set_cons_succ]
          refine skipH (i := 3) (d := 23) rfl (by kernel_rfl) (by kernel_rfl) (by kernel_rfl) (fun _ _ _ h => h) rfl (by rfl) hS ?_
          simp only [List.setIfInBounds_toArray, List.set_cons_zero, List.set_cons_succ]
          refine skipH (i := 4) (d := 24) rfl (by kernel_rfl) (by kernel_rfl) (by kernel_rfl) (fun _ _ _ h => h) rfl (by rfl) hS ?_
          simp only [List.setIfInBounds_toArray, List.set_cons_zero, List.set_cons_succ]
          refine skipH (i := 5) (d := 25) rfl (by kernel_rfl) (by kernel_rfl) (by kernel_rfl) (fun _ _ _ h => h) rfl (by rfl) hS ?_
          simp only [List.setIfInBounds_toArray, List.set_cons_zero, List.set_cons_succ]
          refine skipH (i := 6) (d := 26) rfl (by kernel_rfl) (by kernel_rfl) (by kernel_rfl) (fun _ _ _ h => h) rfl (by rfl) hS ?_
          simp only [List.setIfInBounds_toArray, List.set_cons_zero, List.set_cons_succ]
          refine skipH (i := 7) (d := 27) rfl (by kernel_rfl) (by kernel_rfl) (by kernel_rfl) (fun _ _ _ h => h) rfl (by rfl) hS ?_
          simp only [List.setIfInBounds_toArray, List.set_cons_zero, List.set_cons_succ]
          refine skipH (i := 8) (d := 28) rfl (by kernel_rfl) (by kernel_rfl) (by kernel_rfl) (fun _ _ _ h => h) rfl (by rfl) hS ?_
          simp only [List.setIfInBounds_toArray, List.set_cons_zero, List.set_cons_succ]
          refine skipH (i := 9) (d := 29) rfl (by kernel_rfl) (by kernel_rfl) (by kernel_rfl) (fun _ _ _ h => h) rfl (by rfl) hS ?_
          simp only [List.setIfInBounds_toArray, List.set_cons_zero, List.set_cons_succ]
          refine skipH (i := 10) (d := 30) rfl (by kernel_rfl) (by kernel_rfl) (by kernel_rfl) (fun _ _ _ h => h) rfl (by rfl) hS ?_
          simp only [List.setIfInBounds_toArray, List.set_cons_zero, List.set_cons_succ]
          refine skipH (i := 11) (d := 31) rfl (by kernel_rfl) (by kernel_rfl) (by kernel_rfl) (fun _ _ _ h => h) rfl (by rfl) hS ?_
          simp only [List.setIfInBounds_toArray, List.set_cons_zero, List.set_cons_succ]
          refine skipH (i := 12) (d := 32) rfl (by kernel_rfl) (by kernel_rfl) (by kernel_rfl) (fun _ _ _ h => h) rfl (by rfl) hS ?_
          simp only [List.setIfInBounds_toArray, List.set_cons_zero, List.set_cons_succ]
          refine skipH (i := 13) (d := 33) rfl (by kernel_rfl) (by kernel_rfl) (by kernel_rfl) (fun _ _ _ h => h) rfl (by rfl) hS ?_
          simp only [List.setIfInBounds_toArray, List.set_cons_zero, List.set_cons_succ]
          refine skipH (i := 14) (d := 34) rfl (by kernel_rfl) (by kernel_rfl) (by kernel_rfl) (fun _ _ _ h => h) rfl (by rfl) hS ?_
          simp only [List.setIfInBounds_toArray, List.set_cons_zero, List.set_cons_succ]
          refine skipH (i := 15) (d := 35) rfl (by kernel_rfl) (by kernel_rfl) (by kernel_rfl) (fun _ _ _ h => h) rfl (by rfl) hS ?_
          simp only [List.setIfInBounds_toArray, List.set_cons_zero, List.set_cons_succ]
          refine skipH (i := 16) (d := 36) rfl (by kernel_rfl) (by kernel_rfl) (by kernel_rfl) (fun _ _ _ h => h) rfl (by rfl) hS ?_
          simp only [List.setIfInBounds_toArray, List.set_cons_zero, List.set_cons_succ]
          refine skipH (i := 17) (d := 37) rfl (by kernel_rfl) (by kernel_rfl) (by kernel_rfl) (fun _ _ _ h => h) rfl (by rfl) hS ?_
          simp only [List.setIfInBounds_toArray, List.set_cons_zero, List.set_cons_succ]
          refine skipH (i := 18) (d := 38) rfl (by kernel_rfl) (by kernel_rfl) (by kernel_rfl) (fun _ _ _ h => h) rfl (by rfl) hS ?_
          simp only [List.setIfInBounds_toArray, List.set_cons_zero, List.set_cons_succ]
          refine skipH (i := 19) (d := 39) rfl (by kernel_rfl) (by kernel_rfl) (by kernel_rfl) (fun _ _ _ h => h) rfl (by rfl) hS ?_
          simp only [List.setIfInBounds_toArray, List.set_cons_zero, List.set_cons_succ]
          refine skipH (i := 20) (d := 40) rfl (by kernel_rfl) (by kernel_rfl) (by kernel_rfl) (fun _ _ _ h => h) rfl (by rfl) hS ?_
          simp only [List.setIfInBounds_toArray, List.set_cons_zero, List.set_cons_succ]
          refine skipH (i := 21) (d := 41) rfl (by kernel_rfl) (by kernel_rfl) (by kernel_rfl) (fun _ _ _ h => h) rfl (by rfl) hS ?_
          simp only [List.setIfInBounds_toArray, List.set_cons_zero, List.set_cons_succ]
          refine skipH (i := 22) (d := 42) rfl (by kernel_rfl) (by kernel_rfl) (by kernel_rfl) (fun _ _ _ h => h) rfl (by rfl) hS ?_
          simp only [List.setIfInBounds_toArray, List.set_cons_zero, List.set_cons_succ]
          refine skipH (i := 23) (d := 43) rfl (by kernel_rfl) (by kernel_rfl) (by kernel_rfl) (fun _ _ _ h => h) rfl (by rfl) hS ?_
          simp only [List.setIfInBounds_toArray, List.set_cons_zero, List.set_cons_succ]
          refine skipH (i := 24) (d := 44) rfl (by kernel_rfl) (by kernel_rfl) (by kernel_rfl) (fun _ _ _ h => h) rfl (by rfl) hS ?_
          simp only [List.setIfInBounds_toArray, List.set_cons_zero, List.set_cons_succ]
          refine skipH (i := 25) (d := 45) rfl (by kernel_rfl) (by kernel_rfl) (by kernel_rfl) (fun _ _ _ h => h) rfl (by rfl) hS ?_
          simp only [List.setIfInBounds_toArray, List.set_cons_zero, List.set_cons_succ]
          refine skipH (i := 26) (d := 46) rfl (by kernel_rfl) (by kernel_rfl) (by kernel_rfl) (fun _ _ _ h => h) rfl (by rfl) hS ?_
          simp only [List.setIfInBounds_toArray, List.set_cons_zero, List.set_cons_succ]
          refine skipH (i := 27) (d := 47) rfl (by kernel_rfl) (by kernel_rfl) (by kernel_rfl) (fun _ _ _ h => h) rfl (by rfl) hS ?_
          simp only [List.setIfInBounds_toArray, List.set_cons_zero, List.set_cons_succ]
          refine skipH (i := 28) (d := 48) rfl (by kernel_rfl) (by kernel_rfl) (by kernel_rfl) (fun _ _ _ h => h) rfl (by rfl) hS ?_
          simp only [List.setIfInBounds_toArray, List.set_cons_zero, List.set_cons_succ]
          refine skipH (i := 29) (d := 49) rfl (by kernel_rfl) (by kernel_rfl) (by kernel_rfl) (fun _ _ _ h => h) rfl (by rfl) hS ?_
          simp only [List.setIfInBounds_toArray, List.set_cons_zero, List.set_cons_succ]
          refine skipH (i := 30) (d := 50) rfl (by kernel_rfl) (by kernel_rfl) (by kernel_rfl) (fun _ _ _ h => h) rfl (by rfl) hS ?_
          simp only [List.setIfInBounds_toArray, List.set_cons_zero, List.set_cons_succ]
          refine takeH (i := 31) (d := 51) (v := ?vp87y31) rfl (by kernel_rfl) (by kernel_rfl) (by kernel_rfl) (fun _ _ _ h => h) rfl (by rfl) ?yp87y31 hS ?rp87y31
          case yp87y31 => (intro wz hz; have q0 : wz.cell? ⟨b, o + k * 2, none⟩ = some (.int .i64 x.1) := (hz.cell (p := ⟨b, o + k * 2, none⟩) hbd).trans (R2.out 0 _ rfl); have q1 : wz.cell? ⟨b, o + k * 2 + 1, none⟩ = some (.int .u64 (x.2 : Int)) := (hz.cell (p := ⟨b, o + k * 2 + 1, none⟩) hbd).trans (R2.out 1 _ rfl); have r0 : wz.cell? ⟨b3, 0, none⟩ = some (.int .i64 r.1) := (A3D.out.under hz A3D.out.lt).cell 0; have r1 : wz.cell? ⟨b3, 1, none⟩ = some (.int .u64 (r.2 : Int)) := (A3D.out.under hz A3D.out.lt).cell 1; go_simp <;> with_reducible rfl)
          simp only [List.setIfInBounds_toArray, List.set_cons_zero, List.set_cons_succ]
          refine wpAnyH_done (by kernel_rfl) ?_ _
          have HD := Lib.hid (HD1.out.under hS)
          have A3E := Lib.hid (A3D.out.under hS A3D.out.lt)
          have R3 : Hid (we.drew.rangeAt b (o + k * 2) (encR x)) := fun j v hv => (hS.cell (p := ⟨b, o + k * 2 + j, none⟩) hbd).trans (R2.out j v hv)
          have hbe : b < we.drew.heap.size := Nat.lt_of_lt_of_le hbd hS.size
          generalize we.drew = wd at HD A3E R3 hbe ⊢
          clear hS
          have OWN := Lib.hid (own_under HD.out.own ((Below.refl _ wd).alloc (Nat.le_refl _) (.cells (rsA x) 33)) (Nat.le_refl _))
          have LN := Lib.hid (lies_rs (At.new wd 33 (rsA x)))
          have HSZ : Hid (z0.heap.size ≤ (wd.alloc (.cells (rsA x) 33)).heap.size) := by have := HD.out.below.size; show _ ≤ _; simp; omega
          rw [HNF.out] at OWN
          obtain ⟨i0, hi0, hz0, hz1, hz2⟩ := r_info
          go_wp2_with (first
                      | refine wpList_load_in 33 60 (.tmp 59) rfl rfl rfl b (o + k * 2) rfl (encR x) 2 strR rfl R3.out ?_
                      | refine wpList_lit1r rfl 61 (.tmp 60) 40 33 2 (rsV (0, 0)) (rsA x) rfl rfl rfl Tryz.underlying40 (by kernel_rfl) (by omega) (by omega) rfl ?_
                      | (at_builtin; refine wpList_app _ rfl (.tmp 56) (.tmp 61) 40 rfl z0.heap.size 33 i0 (rsV (0, 0)) 2 16 Tryz.underlying40 hi0 hz0 hz1 hz2 rfl (by omega) (.slice AF nF cF) nF (rsL F) rfl OWN.out _ (some ⟨wd.heap.size, 0, none⟩) 1 1 (rsL [x]) rfl LN.out (rs_one1 x) (by simp only [maxLen]; omega) (by omega) HSZ.out ?_; intro v5 w5 ho5 hg5))
          obtain ⟨A5, c5, rfl, _⟩ := own_slice ho5
          have hl5 : nF + 1 = (F ++ [x]).length := by rw [List.length_append, HNF.out]; rfl
          have hB := HD.out.app (x := x) ho5 hl5 hg5
          rw [hl5] at hB ⊢
          exact ⟨⟨k + 1, F ++ [x], A5, c5, true, by omega, rfl, rfl, by go_num, by omega, HP.out, hB⟩, by simp [intOf]; omega⟩
      · have HP : Hid (putF r false l = F ++ [x] ++ putF r true (l.drop (k + 1))) := by show _ = _; rw [HP1.out]; simp
        refine wp_region_held_drew (S := Below wr.heap.size wr) (by kernel_rfl) ((Below.refl _ wr).drew) (fun hS => ?_)
        refine takeH (i := 0) (d := 14) (v := ?vp68x0) rfl (by kernel_rfl) (by kernel_rfl) (by kernel_rfl) (fun _ _ _ h => h) rfl (by rfl) ?yp68x0 hS ?rp68x0
        case yp68x0 => (intro wz hz; go_simp <;> with_reducible rfl)
        simp only [List.setIfInBounds_toArray, List.set_cons_zero, List.set_cons_succ]
        refine takeH (i := 1) (d := 15) (v := ?vp68x1) rfl (by kernel_rfl) (by kernel_rfl) (by kernel_rfl) (fun _ _ _ h => h) rfl (by rfl) ?yp68x1 hS ?rp68x1
        case yp68x1 => (intro wz hz; go_simp <;> with_reducible rfl)
        simp only [List.setIfInBounds_toArray, List.set_cons_zero, List.set_cons_succ]
        refine takeH (i := 2) (d := 16) (v := ?vp68x2) rfl (by kernel_rfl) (by kernel_rfl) (by kernel_rfl) (fun _ _ _ h => h) rfl (by rfl) ?yp68x2 hS ?rp68x2
        case yp68x2 => (intro wz hz; go_simp <;> with_reducible rfl)
        simp only [List.setIfInBounds_toArray, List.set_cons_zero, List.set_cons_succ]
        refine takeH (i := 3) (d := 17) (v := .agg (rsA x)) rfl (by kernel_rfl) (by kernel_rfl) (by kernel_rfl) (fun _ _ _ h => h) rfl (by rfl) ?yp68x3 hS ?rp68x3
        case yp68x3 => (intro wz hz; exact exec_load_in 33 (.tmp 16) rfl b (o + k * 2) rfl (encR x) 2 strR rfl (fun j v hv => (hz.cell (p := ⟨b, o + k * 2 + j, none⟩) hbw).trans (R1.out j v hv)))
        simp only [List.setIfInBounds_toArray, List.set_cons_zero, List.set_cons_succ]
        refine takeH (i := 4) (d := 18) (v := .agg (rsA r)) rfl (by kernel_rfl) (by kernel_rfl) (by kernel_rfl) (fun _ _ _ h => h) rfl (by rfl) ?yp68x4 hS ?rp68x4
        case yp68x4 => (intro wz hz; exact exec_load_at 33 (.tmp 3) rfl b3 rfl (rsA r) 2 strR rfl (A3R.out.under hz A3R.out.lt))
        simp only [List.setIfInBounds_toArray, List.set_cons_zero, List.set_cons_succ]
        refine takeH (i := 5) (d := 19) (v := .bool true) rfl (by kernel_rfl) (by kernel_rfl) (by kernel_rfl) (fun _ _ _ h => h) rfl (by rfl) ?yp68x5 hS ?rp68x5
        case yp68x5 => (intro wz hz; exact exec_eqRb (.tmp 17) (.tmp 18) rfl x r _ HBQ.out rfl rfl)
        simp only [List.setIfInBounds_toArray, List.set_cons_zero, List.set_cons_succ]
        refine wpAnyH_done (by kernel_rfl) ?_ _
        have HD1 := Lib.hid (HS.out.under hS)
        have A3D := Lib.hid (A3R.out.under hS A3R.out.lt)
        have R2 : Hid (wr.drew.rangeAt b (o + k * 2) (encR x)) := fun j v hv => (hS.cell (p := ⟨b, o + k * 2 + j, none⟩) hbw).trans (R1.out j v hv)
        have hbd : b < wr.drew.heap.size := Nat.lt_of_lt_of_le hbw hS.size
        generalize wr.drew = we at HD1 A3D R2 hbd ⊢
        clear hS
        go_upto_region 8 with fail
        refine wp_region_held_drew (S := Below we.heap.size we) (by kernel_rfl) ((Below.refl _ we).drew) (fun hS => ?_)
        refine takeH (i := 0) (d := 20) (v := ?vp89y0) rfl (by kernel_rfl) (by kernel_rfl) (by kernel_rfl) (fun _ _ _ h => h) rfl (by rfl) ?yp89y0 hS ?rp89y0
        case yp89y0 => (intro wz hz; have q0 : wz.cell? ⟨b, o + k * 2, none⟩ = some (.int .i64 x.1) := (hz.cell (p := ⟨b, o + k * 2, none⟩) hbd).trans (R2.out 0 _ rfl); have q1 : wz.cell? ⟨b, o + k * 2 + 1, none⟩ = some (.int .u64 (x.2 : Int)) := (hz.cell (p := ⟨b, o + k * 2 + 1, none⟩) hbd).trans (R2.out 1 _ rfl); have r0 : wz.cell? ⟨b3, 0, none⟩ = some (.int .i64 r.1) := (A3D.out.under hz A3D.out.lt).cell 0; have r1 : wz.cell? ⟨b3, 1, none⟩ = some (.int .u64 (r.2 : Int)) := (A3D.out.under hz A3D.out.lt).cell 1; go_simp <;> with_reducible rfl)
        simp only [List.setIfInBounds_toArray, List.set_cons_zero, List.set_cons_succ]
        refine takeH (i := 1) (d := 21) (v := ?vp89y1) rfl (by kernel_rfl) (by kernel_rfl) (by kernel_rfl) (fun _ _ _ h => h) rfl (by rfl) ?yp89y1 hS ?rp89y1
        case yp89y1 => (intro wz hz; have q0 : wz.cell? ⟨b, o + k * 2, none⟩ = some (.int .i64 x.1) := (hz.cell (p := ⟨b, o + k * 2, none⟩) hbd).trans (R2.out 0 _ rfl); have q1 : wz.cell? ⟨b, o + k * 2 + 1, none⟩ = some (.int .u64 (x.2 : Int)) := (hz.cell (p := ⟨b, o + k * 2 + 1, none⟩) hbd).trans (R2.out 1 _ rfl); have r0 : wz.cell? ⟨b3, 0, none⟩ = some (.int .i64 r.1) := (A3D.out.under hz A3D.out.lt).cell 0; have r1 : wz.cell? ⟨b3, 1, none⟩ = some (.int .u64 (r.2 : Int)) := (A3D.out.under hz A3D.out.lt).cell 1; go_simp <;> with_reducible rfl)
        simp only [List.setIfInBounds_toArray, List.set_cons_zero, List.set_cons_succ]
        refine takeH (i := 2) (d := 22) (v := ?vp89y2) rfl (by kernel_rfl) (by kernel_rfl) (by kernel_rfl) (fun _ _ _ h => h) rfl (by rfl) ?yp89y2 hS ?rp89y2
        case yp89y2 => (intro wz hz; have q0 : wz.cell? ⟨b, o + k * 2, none⟩ = some (.int .i64 x.1) := (hz.cell (p := ⟨b, o + k * 2, none⟩) hbd).trans (R2.out 0 _ rfl); have q1 : wz.cell? ⟨b, o + k * 2 + 1, none⟩ = some (.int .u64 (x.2 : Int)) := (hz.cell (p := ⟨b, o + k * 2 + 1, none⟩) hbd).trans (R2.out 1 _ rfl); have r0 : wz.cell? ⟨b3, 0, none⟩ = some (.int .i64 r.1) := (A3D.out.under hz A3D.out.lt).cell 0; have r1 : wz.cell? ⟨b3, 1, none⟩ = some (.int .u64 (r.2 : Int)) := (A3D.out.under hz A3D.out.lt).cell 1; go_simp <;> with_reducible rfl)
        simp only [List.setIfInBounds_toArray, List.set_cons_zero, List.set_cons_succ]
        refine skipH (i := 3) (d := 23) rfl (by kernel_rfl) (by kernel_rfl) (by kernel_rfl) (fun _ _ _ h => h) rfl (by rfl) hS ?_
        simp only [List.setIfInBounds_toArray, List.set_cons_zero, List.set_cons_succ]
        refine skipH (i := 4) (d := 24) rfl (by kernel_rfl) (by kernel_rfl) (by kernel_rfl) (fun _ _ _ h => h) rfl (by rfl) hS ?_
        simp only [List.setIfInBounds_toArray, List.set_cons_zero, List.set_cons_succ]
        refine skipH (i := 5) (d := 25) rfl (by kernel_rfl) (by kernel_rfl) (by kernel_rfl) (fun _ _ _ h => h) rfl (by rfl) hS ?_
        simp only [List.setIfInBounds_toArray, List.set_cons_zero, List.set_cons_succ]
        refine skipH (i := 6) (d := 26) rfl (by kernel_rfl) (by kernel_rfl) (by kernel_rfl) (fun _ _ _ h => h) rfl (by rfl) hS ?_
        simp only [List.setIfInBounds_toArray, List.set_cons_zero, List.set_cons_succ]
        refine skipH (i := 7) (d := 27) rfl (by kernel_rfl) (by kernel_rfl) (by kernel_rfl) (fun _ _ _ h => h) rfl (by rfl) hS ?_
        simp only [List.setIfInBounds_toArray, List.set_cons_zero, List.set_cons_succ]
        refine skipH (i := 8) (d := 28) rfl (by kernel_rfl) (by kernel_rfl) (by kernel_rfl) (fun _ _ _ h => h) rfl (by rfl) hS ?_
        simp only [List.setIfInBounds_toArray, List.set_cons_zero, List.set_cons_succ]
        refine skipH (i := 9) (d := 29) rfl (by kernel_rfl) (by kernel_rfl) (by kernel_rfl) (fun _ _ _ h => h) rfl (by rfl) hS ?_
        simp only [List.setIfInBounds_toArray, List.set_cons_zero, List.set_cons_succ]
        refine skipH (i := 10) (d := 30) rfl (by kernel_rfl) (by kernel_rfl) (by kernel_rfl) (fun _ _ _ h => h) rfl (by rfl) hS ?_
        simp only [List.setIfInBounds_toArray, List.set_cons_zero, List.set_cons_succ]
        refine skipH (i := 11) (d := 31) rfl (by kernel_rfl) (by kernel_rfl) (by kernel_rfl) (fun _ _ _ h => h) rfl (by rfl) hS ?_
        simp only [List.setIfInBounds_toArray, List.set_cons_zero, List.set_cons_succ]
        refine skipH (i := 12) (d := 32) rfl (by kernel_rfl) (by kernel_rfl) (by kernel_rfl) (fun _ _ _ h => h) rfl (by rfl) hS ?_
        simp only [List.setIfInBounds_toArray, List.set_cons_zero, List.set_cons_succ]
        refine skipH (i := 13) (d := 33) rfl (by kernel_rfl) (by kernel_rfl) (by kernel_rfl) (fun _ _ _ h => h) rfl (by rfl) hS ?_
        simp only [List.setIfInBounds_toArray, List.set_cons_zero, List.set_cons_succ]
        refine skipH (i := 14) (d := 34) rfl (by kernel_rfl) (by kernel_rfl) (by kernel_rfl) (fun _ _ _ h => h) rfl (by rfl) hS ?_
        simp only [List.setIfInBounds_toArray, List.set_cons_zero, List.set_cons_succ]
        refine skipH (i := 15) (d := 35) rfl (by kernel_rfl) (by kernel_rfl) (by kernel_rfl) (fun _ _ _ h => h) rfl (by rfl) hS ?_
        simp only [List.setIfInBounds_toArray, List.set_cons_zero, List.set_cons_succ]
        refine skipH (i := 16) (d := 36) rfl (by kernel_rfl) (by kernel_rfl) (by kernel_rfl) (fun _ _ _ h => h) rfl (by rfl) hS ?_
        simp only [List.setIfInBounds_toArray, List.set_cons_zero, List.set_cons_succ]
        refine skipH (i := 17) (d := 37) rfl (by kernel_rfl) (by kernel_rfl) (by kernel_rfl) (fun _ _ _ h => h) rfl (by rfl) hS ?_
        simp only [List.setIfInBounds_toArray, List.set_cons_zero, List.set_cons_succ]
        refine skipH (i := 18) (d := 38) rfl (by kernel_rfl) (by kernel_rfl) (by kernel_rfl) (fun _ _ _ h => h) rfl (by rfl) hS ?_
        simp only [List.setIfInBounds_toArray, List.set_cons_zero, List.set_cons_succ]
        refine skipH (i := 19) (d := 39) rfl (by kernel_rfl) (by kernel_rfl) (by kernel_rfl) (fun _ _ _ h => h) rfl (by rfl) hS ?_
        simp only [List.setIfInBounds_toArray, List.set_cons_zero, List.set_cons_succ]
        refine skipH (i := 20) (d := 40) rfl (by kernel_rfl) (by kernel_rfl) (by kernel_rfl) (fun _ _ _ h => h) rfl (by rfl) hS ?_
        simp only [List.setIfInBounds_toArray, List.set_cons_zero, List.set_cons_succ]
        refine skipH (i := 21) (d := 41) rfl (by kernel_rfl) (by kernel_rfl) (by kernel_rfl) (fun _ _ _ h => h) rfl (by rfl) hS ?_
        simp only [List.setIfInBounds_toArray, List.set_cons_zero, List.set_cons_succ]
        refine skipH (i := 22) (d := 42) rfl (by kernel_rfl) (by kernel_rfl) (by kernel_rfl) (fun _ _ _ h => h) rfl (by rfl) hS ?_
        simp only [List.setIfInBounds_toArray, List.set_cons_zero, List.set_cons_succ]
        refine skipH (i := 23) (d := 43) rfl (by kernel_rfl) (by kernel_rfl) (by kernel_rfl) (fun _ _ _ h => h) rfl (by rfl) hS ?_
        simp only [List.setIfInBounds_toArray, List.set_cons_zero, List.set_cons_succ]
        refine skipH (i := 24) (d := 44) rfl (by kernel_rfl) (by kernel_rfl) (by kernel_rfl) (fun _ _ _ h => h) rfl (by rfl) hS ?_
        simp only [List.setIfInBounds_toArray, List.set_cons_zero, List.set_cons_succ]
        refine skipH (i := 25) (d := 45) rfl (by kernel_rfl) (by kernel_rfl) (by kernel_rfl) (fun _ _ _ h => h) rfl (by rfl) hS ?_
        simp only [List.setIfInBounds_toArray, List.set_cons_zero, List.set_cons_succ]
        refine skipH (i := 26) (d := 46) rfl (by kernel_rfl) (by kernel_rfl) (by kernel_rfl) (fun _ _ _ h => h) rfl (by rfl) hS ?_
        simp only [List.setIfInBounds_toArray, List.set_cons_zero, List.set_cons_succ]
        refine skipH (i := 27) (d := 47) rfl (by kernel_rfl) (by kernel_rfl) (by kernel_rfl) (fun _ _ _ h => h) rfl (by rfl) hS ?_
        simp only [List.setIfInBounds_toArray, List.set_cons_zero, List.set_cons_succ]
        refine skipH (i := 28) (d := 48) rfl (by kernel_rfl) (by kernel_rfl) (by kernel_rfl) (fun _ _ _ h => h) rfl (by rfl) hS ?_
        simp only [List.setIfInBounds_toArray, List.set_cons_zero, List.set_cons_succ]
        refine skipH (i := 29) (d := 49) rfl (by kernel_rfl) (by kernel_rfl) (by kernel_rfl) (fun _ _ _ h => h) rfl (by rfl) hS ?_
        simp only [List.setIfInBounds_toArray, List.set_cons_zero, List.set_cons_succ]
        refine skipH (i := 30) (d := 50) rfl (by kernel_rfl) (by kernel_rfl) (by kernel_rfl) (fun _ _ _ h => h) rfl (by rfl) hS ?_
        simp only [List.setIfInBounds_toArray, List.set_cons_zero, List.set_cons_succ]
        refine takeH (i := 31) (d := 51) (v := ?vp89y31) rfl (by kernel_rfl) (by kernel_rfl) (by kernel_rfl) (fun _ _ _ h => h) rfl (by rfl) ?yp89y31 hS ?rp89y31
        case yp89y31 => (intro wz hz; have q0 : wz.cell? ⟨b, o + k * 2, none⟩ = some (.int .i64 x.1) := (hz.cell (p := ⟨b, o + k * 2, none⟩) hbd).trans (R2.out 0 _ rfl); have q1 : wz.cell? ⟨b, o + k * 2 + 1, none⟩ = some (.int .u64 (x.2 : Int)) := (hz.cell (p := ⟨b, o + k * 2 + 1, none⟩) hbd).trans (R2.out 1 _ rfl); have r0 : wz.cell? ⟨b3, 0, none⟩ = some (.int .i64 r.1) := (A3D.out.under hz A3D.out.lt).cell 0; have r1 : wz.cell? ⟨b3, 1, none⟩ = some (.int .u64 (r.2 : Int)) := (A3D.out.under hz A3D.out.lt).cell 1; go_simp <;> with_reducible rfl)
        simp only [List.setIfInBounds_toArray, List.set_cons_zero, List.set_cons_succ]
        refine wpAnyH_done (by kernel_rfl) ?_ _
        have HD := Lib.hid (HD1.out.under hS)
        have A3E := Lib.hid (A3D.out.under hS A3D.out.lt)
        have R3 : Hid (we.drew.rangeAt b (o + k * 2) (encR x)) := fun j v hv => (hS.cell (p := ⟨b, o + k * 2 + j, none⟩) hbd).trans (R2.out j v hv)
        have hbe : b < we.drew.heap.size := Nat.lt_of_lt_of_le hbd hS.size
        generalize we.drew = wd at HD A3E R3 hbe ⊢
        clear hS
        have OWN := Lib.hid (own_under HD.out.own ((Below.refl _ wd).alloc (Nat.le_refl _) (.cells (rsA x) 33)) (Nat.le_refl _))
        have LN := Lib.hid (lies_rs (At.new wd 33 (rsA x)))
        have HSZ : Hid (z0.heap.size ≤ (wd.alloc (.cells (rsA x) 33)).heap.size) := by have := HD.out.below.size; show _ ≤ _; simp; omega
        rw [HNF.out] at OWN
        obtain ⟨i0, hi0, hz0, hz1, hz2⟩ := r_info
        go_wp2_with (first
                    | refine wpList_load_in 33 60 (.tmp 59) rfl rfl rfl b (o + k * 2) rfl (encR x) 2 strR rfl R3.out ?_
                    | refine wpList_lit1r rfl 61 (.tmp 60) 40 33 2 (rsV (0, 0)) (rsA x) rfl rfl rfl Tryz.underlying40 (by kernel_rfl) (by omega) (by omega) rfl ?_
                    | (at_builtin; refine wpList_app _ rfl (.tmp 56) (.tmp 61) 40 rfl z0.heap.size 33 i0 (rsV (0, 0)) 2 16 Tryz.underlying40 hi0 hz0 hz1 hz2 rfl (by omega) (.slice AF nF cF) nF (rsL F) rfl OWN.out _ (some ⟨wd.heap.size, 0, none⟩) 1 1 (rsL [x]) rfl LN.out (rs_one1 x) (by simp only [maxLen]; omega) (by omega) HSZ.out ?_; intro v5 w5 ho5 hg5))
        obtain ⟨A5, c5, rfl, _⟩ := own_slice ho5
        have hl5 : nF + 1 = (F ++ [x]).length := by rw [List.length_append, HNF.out]; rfl
        have hB := HD.out.app (x := x) ho5 hl5 hg5
        rw [hl5] at hB ⊢
        exact ⟨⟨k + 1, F ++ [x], A5, c5, true, by omega, rfl, rfl, by go_num, by omega, HP.out, hB⟩, by simp [intOf]; omega⟩
    · obtain rfl : k = n := by omega
      have hD : l.drop k = [] := by rw [← hlen, List.drop_length]
      rw [hD] at HP0
      clear hD
      cases d
      · have HE : Hid (putR l r = F ++ [r]) := HP0.out
        have A3E := A3R
        obtain ⟨wd, hwd⟩ : ∃ wd, wd = wr := ⟨_, rfl⟩
        subst hwd
        have HD := HS
        have OWN := Lib.hid (own_under HD.out.own ((Below.refl _ wd).alloc (Nat.le_refl _) (.cells (rsA r) 33)) (Nat.le_refl _))
        have LN := Lib.hid (lies_rs (At.new wd 33 (rsA r)))
        have HSZ : Hid (z0.heap.size ≤ (wd.alloc (.cells (rsA r) 33)).heap.size) := by have := HD.out.below.size; show _ ≤ _; simp; omega
        rw [HNF.out] at OWN
        obtain ⟨i0, hi0, hz0, hz1, hz2⟩ := r_info
        go_wp2_with (first
                    | refine wpList_load_at 33 66 (.tmp 3) rfl rfl rfl b3 rfl (rsA r) 2 strR rfl A3E.out ?_
                    | refine wpList_lit1r rfl 67 (.tmp 66) 40 33 2 (rsV (0, 0)) (rsA r) rfl rfl rfl Tryz.underlying40 (by kernel_rfl) (by omega) (by omega) rfl ?_
                    | (at_builtin; refine wpList_app _ rfl (.tmp 65) (.tmp 67) 40 rfl z0.heap.size 33 i0 (rsV (0, 0)) 2 16 Tryz.underlying40 hi0 hz0 hz1 hz2 rfl (by omega) (.slice AF nF cF) nF (rsL F) rfl OWN.out _ (some ⟨wd.heap.size, 0, none⟩) 1 1 (rsL [r]) rfl LN.out (rs_one1 r) (by simp only [maxLen]; omega) (by omega) HSZ.out ?_; intro v5 w5 ho5 hg5))
        obtain ⟨A5, c5, rfl, _⟩ := own_slice ho5
        have hl5 : nF + 1 = (F ++ [r]).length := by rw [List.length_append, HNF.out]; rfl
        have hB := HD.out.app (x := r) ho5 hl5 hg5
        rw [hl5] at hB ⊢
        go_ret
        refine PuR.from HB.out ⟨A5, c5, ?_, ?_, hB.below⟩
        · rw [HE.out]
          rfl
        · rw [HE.out]
          exact hB.own
      · have HE : Hid (putR l r = F) := by
          have h1 : putR l r = F ++ [] := HP0.out
          show _ = _
          rw [h1, List.append_nil]
        go_wp2_with fail
        go_ret
        refine PuR.from HB.out ⟨AF, cF, ?_, ?_, HS.out.below⟩
        · rw [HE.out]
          show _ = Ending.returned (.slice AF F.length cF)
          rw [HNF.out]
          rfl
        · rw [HE.out]
          have := HS.out.own
          rw [HNF.out] at this
          show World.ownsRow _ _ _ _ (.slice AF F.length cF) F.length (rsL F)
          rw [HNF.out]
          exact this
end Go.Proofs.YthbifccankfngaaGreatDoor
