/-
  The reference's Free.
  Conditions: at most 100000 claims.
-/
import Derived.Test.YthbifccankfngaaGreatDoorR2ZQ
namespace Go.Proofs.YthbifccankfngaaGreatDoor
open Go.RowKit Go.Shelf
attribute [local go_sem] Oper.semAt_some
set_option maxRecDepth 20000

theorem exec_eqRb {o : Oper} {a : Act} {w : World} (x y : Operand) (ho : o.op = .binOp .eql 33 x y 33) (r s : Rs) (b : Bool) (hb : (r == s) = b) (hx : a.eval x = .agg (rsA r)) (hy : a.eval y = .agg (rsA s)) : (execOp a.eval o).run Tryz.prog w = .ok (.value (.bool b)) w := by
  rw [← hb]
  exact exec_eqR x y ho r s hx hy
/-- What stands in the way. -/
def barR (t : Nat) (r : Rs) (m : Int) (c : Cl) : Bool := c.1 == r && c.2.1 != t && !tog c.2.2 m
theorem freeR_none {l : List Cl} {t : Nat} {r : Rs} {m : Int} (h : ∀ (j : Nat) (hj : j < l.length), barR t r m l[j] = false) : freeR l t r m = true := by
  unfold freeR
  rw [List.all_eq_true]
  intro x hx
  obtain ⟨j, hj, rfl⟩ := List.getElem_of_mem hx
  have := h j hj
  unfold barR at this
  rw [this]
  rfl
theorem freeR_at {l : List Cl} {t k : Nat} {r : Rs} {m : Int} (hk : k < l.length) (h1 : barR t r m l[k] = true) : freeR l t r m = false := by
  unfold freeR
  rw [List.all_eq_false]
  unfold barR at h1
  exact ⟨l[k], List.getElem_mem hk, by rw [h1]; simp⟩
set_option maxHeartbeats 3200000 in
theorem rFree_any (A : Option Addr) (n c : Nat) (l : List Cl) (t : Nat) (r : Rs) (m : Int) (w : World) (h : Lz (fun _ => False) w 4 A n (rcL l)) (hn : n ≤ 100000) :
    Calls Tryz.prog 54 #[.slice A n c, .int .u64 (t : Int), .agg (rsA r), .int .i64 m] w (RetB w (.bool (freeR l t r m))) := by
  obtain ⟨b6, hb6⟩ : ∃ b6, w.heap.size = b6 := ⟨_, rfl⟩
  have HB := Lib.hid (show Below w.heap.size w (w.alloc (.cells (rsA r) 33)) from (Below.refl _ w).alloc (Nat.le_refl _) _)
  have HL := Lib.hid (h.below HB.out)
  have A6 := Lib.hid (At.new w 33 (rsA r))
  have hlen := h.rclen
  clear h
  go_enter Tryz.func54, Tryz.ntmps54
  go_upto_region 1 with fail
  rw [hb6] at A6
  generalize w.alloc (.cells (rsA r) 33) = z at HB HL A6 ⊢
  have hbz : b6 < z.heap.size := A6.out.lt
  clear hb6
  go_wp2_with fail
  go_loopw [9] (fun i wr => ScL z (fun c => barR t r m c) l n i wr) (fun i _ => n - (intOf i).toNat)
  case atStart => exact sc_start z _ l n
  case round =>
    obtain ⟨k, hk, rfl, HR, HN⟩ := hrel
    have A6R := Lib.hid (A6.out.under HR.out hbz)
    by_cases hlt : k < n
    · obtain ⟨b, o, hl, rfl, hb0, hr⟩ := HL.out.rc hlt
      have hb : b < wr.heap.size := Nat.lt_of_lt_of_le hb0 HR.out.size
      have R1 : Hid (wr.rangeAt b (o + k * 4) (rcV l[k])) := fun j v hv => (HR.out.cell (p := ⟨b, o + k * 4 + j, none⟩) hb0).trans (hr j v hv)
      obtain ⟨x, hx⟩ : ∃ x, l[k] = x := ⟨_, rfl⟩
      rw [hx] at R1
      have R0 : Hid (wr.rangeAt b (o + k * 4) (encR x.1)) := fun j v hv => R1.out j v (by
        match j, hv with
        | 0, hv => exact hv
        | 1, hv => exact hv)
      have HX := Lib.hid hx
      clear hr hx hb0
      go_upto_region 4 with fail
      obtain ⟨bq, hbq⟩ : ∃ bq, (x.1 == r) = bq := ⟨_, rfl⟩
      obtain ⟨bt, hbt⟩ : ∃ bt, (x.2.1 != t) = bt := ⟨_, rfl⟩
      obtain ⟨tg, htg⟩ : ∃ tg, tog x.2.2 m = tg := ⟨_, rfl⟩
      have HBQ := Lib.hid hbq
      have HBT := Lib.hid hbt
      have HTG := Lib.hid htg
      have et : ((x.2.1 : Int) != (t : Int)) = bt := by rw [nat_bne, hbt]
      have HBAR : Hid (barR t r m x = (bq && bt && !tg)) := by show _ = _; unfold barR; rw [hbq, hbt, htg]
      clear hbq hbt htg
      cases bq
      · have HB2 : Hid (barR t r m x = false) := HBAR.out
        refine wp_region_held_drew (S := Below wr.heap.size wr) (by kernel_rfl) ((Below.refl _ wr).drew) (fun hS => ?_)
        refine tk 0 hS ?_
        refine tk 1 hS ?_
        refine tk 2 hS ?_
        refine tk 3 hS ?_
        refine tk (v := .agg (rsA x.1)) 4 hS ?_ (hy := by intro wz hz; have q2 : wz.cell? ⟨b, o + k * 4 + 2, none⟩ = some (.int .u64 (x.2.1 : Int)) := (hz.cell (p := ⟨b, o + k * 4 + 2, none⟩) hb).trans (R1.out 2 _ rfl); have q3 : wz.cell? ⟨b, o + k * 4 + 3, none⟩ = some (.int .i64 x.2.2) := (hz.cell (p := ⟨b, o + k * 4 + 3, none⟩) hb).trans (R1.out 3 _ rfl); exact exec_load_in 33 (.tmp 19) rfl b (o + k * 4) rfl (encR x.1) 2 strR rfl (fun j v hv => (hz.cell (p := ⟨b, o + k * 4 + j, none⟩) hb).trans (R0.out j v hv)))
        refine tk (v := .agg (rsA r)) 5 hS ?_ (hy := by intro wz hz; have q2 : wz.cell? ⟨b, o + k * 4 + 2, none⟩ = some (.int .u64 (x.2.1 : Int)) := (hz.cell (p := ⟨b, o + k * 4 + 2, none⟩) hb).trans (R1.out 2 _ rfl); have q3 : wz.cell? ⟨b, o + k * 4 + 3, none⟩ = some (.int .i64 x.2.2) := (hz.cell (p := ⟨b, o + k * 4 + 3, none⟩) hb).trans (R1.out 3 _ rfl); exact exec_load_at 33 (.tmp 6) rfl b6 rfl (rsA r) 2 strR rfl (A6R.out.under hz A6R.out.lt))
        refine tk (v := .bool false) 6 hS ?_ (hy := by intro wz hz; have q2 : wz.cell? ⟨b, o + k * 4 + 2, none⟩ = some (.int .u64 (x.2.1 : Int)) := (hz.cell (p := ⟨b, o + k * 4 + 2, none⟩) hb).trans (R1.out 2 _ rfl); have q3 : wz.cell? ⟨b, o + k * 4 + 3, none⟩ = some (.int .i64 x.2.2) := (hz.cell (p := ⟨b, o + k * 4 + 3, none⟩) hb).trans (R1.out 3 _ rfl); exact exec_eqRb (.tmp 20) (.tmp 21) rfl x.1 r _ HBQ.out rfl rfl)
        refine tk 7 hS ?_
        refine sk 8 hS ?_
        refine sk 9 hS ?_
        refine sk 10 hS ?_
        refine sk 11 hS ?_
        refine sk 12 hS ?_
        refine sk 13 hS ?_
        refine sk 14 hS ?_
        refine tk 15 hS ?_
        refine tk 16 hS ?_
        refine sk 17 hS ?_
        refine sk 18 hS ?_
        refine sk 19 hS ?_
        refine sk 20 hS ?_
        refine sk 21 hS ?_
        refine sk 22 hS ?_
        refine sk 23 hS ?_
        refine sk 24 hS ?_
        refine tk 25 hS ?_
        refine wpAnyH_done (by kernel_rfl) ?_ _
        have HS := Lib.hid (HR.out.trans (hS.mono HR.out.size))
        clear hS
        go_wp2_with fail
        exact ⟨⟨k + 1, by omega, by go_num, HS, Lib.hid (sc_next (p := fun c => barR t r m c) HN.out hl (by rw [HX.out]; exact HB2.out))⟩, by simp [intOf]; omega⟩
      · cases bt
        · have HB2 : Hid (barR t r m x = false) := HBAR.out
          refine wp_region_held_drew (S := Below wr.heap.size wr) (by kernel_rfl) ((Below.refl _ wr).drew) (fun hS => ?_)
          refine tk 0 hS ?_
          refine tk 1 hS ?_
          refine tk 2 hS ?_
          refine tk 3 hS ?_
          refine tk (v := .agg (rsA x.1)) 4 hS ?_ (hy := by intro wz hz; have q2 : wz.cell? ⟨b, o + k * 4 + 2, none⟩ = some (.int .u64 (x.2.1 : Int)) := (hz.cell (p := ⟨b, o + k * 4 + 2, none⟩) hb).trans (R1.out 2 _ rfl); have q3 : wz.cell? ⟨b, o + k * 4 + 3, none⟩ = some (.int .i64 x.2.2) := (hz.cell (p := ⟨b, o + k * 4 + 3, none⟩) hb).trans (R1.out 3 _ rfl); exact exec_load_in 33 (.tmp 19) rfl b (o + k * 4) rfl (encR x.1) 2 strR rfl (fun j v hv => (hz.cell (p := ⟨b, o + k * 4 + j, none⟩) hb).trans (R0.out j v hv)))
          refine tk (v := .agg (rsA r)) 5 hS ?_ (hy := by intro wz hz; have q2 : wz.cell? ⟨b, o + k * 4 + 2, none⟩ = some (.int .u64 (x.2.1 : Int)) := (hz.cell (p := ⟨b, o + k * 4 + 2, none⟩) hb).trans (R1.out 2 _ rfl); have q3 : wz.cell? ⟨b, o + k * 4 + 3, none⟩ = some (.int .i64 x.2.2) := (hz.cell (p := ⟨b, o + k * 4 + 3, none⟩) hb).trans (R1.out 3 _ rfl); exact exec_load_at 33 (.tmp 6) rfl b6 rfl (rsA r) 2 strR rfl (A6R.out.under hz A6R.out.lt))
          refine tk (v := .bool true) 6 hS ?_ (hy := by intro wz hz; have q2 : wz.cell? ⟨b, o + k * 4 + 2, none⟩ = some (.int .u64 (x.2.1 : Int)) := (hz.cell (p := ⟨b, o + k * 4 + 2, none⟩) hb).trans (R1.out 2 _ rfl); have q3 : wz.cell? ⟨b, o + k * 4 + 3, none⟩ = some (.int .i64 x.2.2) := (hz.cell (p := ⟨b, o + k * 4 + 3, none⟩) hb).trans (R1.out 3 _ rfl); exact exec_eqRb (.tmp 20) (.tmp 21) rfl x.1 r _ HBQ.out rfl rfl)
          refine tk 7 hS ?_
          refine tk 8 hS ?_
          refine tk 9 hS ?_
          refine tk 10 hS ?_
          refine tk 11 hS ?_
          refine tk 12 hS ?_ (hy := by intro wz hz; have q2 : wz.cell? ⟨b, o + k * 4 + 2, none⟩ = some (.int .u64 (x.2.1 : Int)) := (hz.cell (p := ⟨b, o + k * 4 + 2, none⟩) hb).trans (R1.out 2 _ rfl); have q3 : wz.cell? ⟨b, o + k * 4 + 3, none⟩ = some (.int .i64 x.2.2) := (hz.cell (p := ⟨b, o + k * 4 + 3, none⟩) hb).trans (R1.out 3 _ rfl); go_simp <;> with_reducible rfl)
          refine tk 13 hS ?_
          refine tk 14 hS ?_
          refine tk 15 hS ?_
          refine tk 16 hS ?_
          refine sk 17 hS ?_
          refine sk 18 hS ?_
          refine sk 19 hS ?_
          refine sk 20 hS ?_
          refine sk 21 hS ?_
          refine sk 22 hS ?_
          refine sk 23 hS ?_
          refine sk 24 hS ?_
          refine tk 25 hS ?_
          refine wpAnyH_done (by kernel_rfl) ?_ _
          have HS := Lib.hid (HR.out.trans (hS.mono HR.out.size))
          clear hS
          go_wp2_with fail
          exact ⟨⟨k + 1, by omega, by go_num, HS, Lib.hid (sc_next (p := fun c => barR t r m c) HN.out hl (by rw [HX.out]; exact HB2.out))⟩, by simp [intOf]; omega⟩
        · have HB2 : Hid (barR t r m x = !tg) := HBAR.out
          refine wp_region_held_drew (S := Below wr.heap.size wr) (by kernel_rfl) ((Below.refl _ wr).drew) (fun hS => ?_)
          refine tk 0 hS ?_
          refine tk 1 hS ?_
          refine tk 2 hS ?_
          refine tk 3 hS ?_
          refine tk (v := .agg (rsA x.1)) 4 hS ?_ (hy := by intro wz hz; have q2 : wz.cell? ⟨b, o + k * 4 + 2, none⟩ = some (.int .u64 (x.2.1 : Int)) := (hz.cell (p := ⟨b, o + k * 4 + 2, none⟩) hb).trans (R1.out 2 _ rfl); have q3 : wz.cell? ⟨b, o + k * 4 + 3, none⟩ = some (.int .i64 x.2.2) := (hz.cell (p := ⟨b, o + k * 4 + 3, none⟩) hb).trans (R1.out 3 _ rfl); exact exec_load_in 33 (.tmp 19) rfl b (o + k * 4) rfl (encR x.1) 2 strR rfl (fun j v hv => (hz.cell (p := ⟨b, o + k * 4 + j, none⟩) hb).trans (R0.out j v hv)))
          refine tk (v := .agg (rsA r)) 5 hS ?_ (hy := by intro wz hz; have q2 : wz.cell? ⟨b, o + k * 4 + 2, none⟩ = some (.int .u64 (x.2.1 : Int)) := (hz.cell (p := ⟨b, o + k * 4 + 2, none⟩) hb).trans (R1.out 2 _ rfl); have q3 : wz.cell? ⟨b, o + k * 4 + 3, none⟩ = some (.int .i64 x.2.2) := (hz.cell (p := ⟨b, o + k * 4 + 3, none⟩) hb).trans (R1.out 3 _ rfl); exact exec_load_at 33 (.tmp 6) rfl b6 rfl (rsA r) 2 strR rfl (A6R.out.under hz A6R.out.lt))
          refine tk (v := .bool true) 6 hS ?_ (hy := by intro wz hz; have q2 : wz.cell? ⟨b, o + k * 4 + 2, none⟩ = some (.int .u64 (x.2.1 : Int)) := (hz.cell (p := ⟨b, o + k * 4 + 2, none⟩) hb).trans (R1.out 2 _ rfl); have q3 : wz.cell? ⟨b, o + k * 4 + 3, none⟩ = some (.int .i64 x.2.2) := (hz.cell (p := ⟨b, o + k * 4 + 3, none⟩) hb).trans (R1.out 3 _ rfl); exact exec_eqRb (.tmp 20) (.tmp 21) rfl x.1 r _ HBQ.out rfl rfl)
          refine tk 7 hS ?_
          refine tk 8 hS ?_
          refine tk 9 hS ?_
          refine tk 10 hS ?_
          refine tk 11 hS ?_
          refine tk 12 hS ?_ (hy := by intro wz hz; have q2 : wz.cell? ⟨b, o + k * 4 + 2, none⟩ = some (.int .u64 (x.2.1 : Int)) := (hz.cell (p := ⟨b, o + k * 4 + 2, none⟩) hb).trans (R1.out 2 _ rfl); have q3 : wz.cell? ⟨b, o + k * 4 + 3, none⟩ = some (.int .i64 x.2.2) := (hz.cell (p := ⟨b, o + k * 4 + 3, none⟩) hb).trans (R1.out 3 _ rfl); go_simp <;> with_reducible rfl)
          refine tk 13 hS ?_
          refine tk 14 hS ?_
          refine tk 15 hS ?_
          refine tk 16 hS ?_
          refine tk 17 hS ?_
          refine tk 18 hS ?_
          refine tk 19 hS ?_
          refine tk 20 hS ?_
          refine tk 21 hS ?_ (hy := by intro wz hz; have q2 : wz.cell? ⟨b, o + k * 4 + 2, none⟩ = some (.int .u64 (x.2.1 : Int)) := (hz.cell (p := ⟨b, o + k * 4 + 2, none⟩) hb).trans (R1.out 2 _ rfl); have q3 : wz.cell? ⟨b, o + k * 4 + 3, none⟩ = some (.int .i64 x.2.2) := (hz.cell (p := ⟨b, o + k * 4 + 3, none⟩) hb).trans (R1.out 3 _ rfl); go_simp <;> with_reducible rfl)
          refine tk 22 hS ?_
          refine wpAnyH_ready (rs := [23]) (by kernel_rfl) (by simp) ?_
          refine AllReadyH.cons rfl (fun K hK => ?_) AllReadyH.nil
          go_simp
          refine (refTog_any x.2.2 m _).mono ?_
          rintro e y9 ⟨rfl, hy9⟩
          subst hy9
          have hb9 : True := trivial
          rw [HTG.out]
          refine hK.out _ _ (hS) (fun hT => ?_)
          clear hK hb9 hS
          have hS := hT
          clear hT
          refine tk 24 hS ?_
          refine tk 25 hS ?_
          refine wpAnyH_done (by kernel_rfl) ?_ _
          have HS := Lib.hid (HR.out.trans (hS.mono HR.out.size))
          clear hS
          cases tg
          · go_wp2_with fail
            go_ret
            exact ⟨by rw [freeR_at hl (by rw [HX.out]; exact HB2.out)]; rfl, HB.out.trans (HS.out.mono HB.out.size)⟩
          · go_wp2_with fail
            exact ⟨⟨k + 1, by omega, by go_num, HS, Lib.hid (sc_next (p := fun c => barR t r m c) HN.out hl (by rw [HX.out]; exact HB2.out))⟩, by simp [intOf]; omega⟩
    · obtain rfl : k = n := by omega
      go_wp2_with fail
      go_ret
      exact ⟨by rw [freeR_none (fun j hj => HN.out j hj (by omega))]; rfl, HB.out.trans (HR.out.mono HB.out.size)⟩
end Go.Proofs.YthbifccankfngaaGreatDoor
