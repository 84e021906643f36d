/-
  The reference's Free.
  Conditions: at most 100000 claims.
-/
import Derived.Test.YthbifccankfngaaGreatDoorR2Q
namespace Go.Proofs.YthbifccankfngaaGreatDoor
open Go.RowKit Go.Shelf
attribute [local go_sem] Oper.semAt_some
set_option maxRecDepth 20000

theorem exec_eqRb {o : Oper} {a : Act} {w : World} (x y : Operand) (ho : o.op = .binOp .eql 33 x y 33) (r s : Rs) (b : Bool) (hb : (r == s) = b) (hx : a.eval x = .agg (rsA r)) (hy : a.eval y = .agg (rsA s)) : (execOp a.eval o).run Tryz.prog w = .ok (.value (.bool b)) w := by
  rw [← hb]
  exact exec_eqR x y ho r s hx hy
/-- What stands in the way. -/
def barR (t : Nat) (r : Rs) (m : Int) (c : Cl) : Bool := c.1 == r && c.2.1 != t && !tog c.2.2 m
theorem freeR_none {l : List Cl} {t : Nat} {r : Rs} {m : Int} (h : ∀ (j : Nat) (hj : j < l.length), barR t r m l[j] = false) : freeR l t r m = true := by
  unfold freeR
  rw [List.all_eq_true]
  intro x hx
  obtain ⟨j, hj, rfl⟩ := List.getElem_of_mem hx
  have := h j hj
  unfold barR at this
  rw [this]
  rfl
theorem freeR_at {l : List Cl} {t k : Nat} {r : Rs} {m : Int} (hk : k < l.length) (h1 : barR t r m l[k] = true) : freeR l t r m = false := by
  unfold freeR
  rw [List.all_eq_false]
  unfold barR at h1
  exact ⟨l[k], List.getElem_mem hk, by rw [h1]; simp⟩
set_option maxHeartbeats 3200000 in
theorem rFree_any (A : Option Addr) (n c : Nat) (l : List Cl) (t : Nat) (r : Rs) (m : Int) (w : World) (h : Lz (fun _ => False) w 4 A n (rcL l)) (hn : n ≤ 100000) :
    Calls Tryz.prog 54 #[.slice A n c, .int .u64 (t : Int), .agg (rsA r), .int .i64 m] w (RetB w (.bool (freeR l t r m))) := by
  obtain ⟨b6, hb6⟩ : ∃ b6, w.heap.size = b6 := ⟨_, rfl⟩
  have HB := Lib.hid (show Below w.heap.size w (w.alloc (.cells (rsA r) 33)) from (Below.refl _ w).alloc (Nat.le_refl _) _)
  have HL := Lib.hid (h.below HB.out)
  have A6 := Lib.hid (At.new w 33 (rsA r))
  have hlen := h.rclen
  clear h
  go_enter Tryz.func54, Tryz.ntmps54
  go_upto_region 1 with fail
  rw [hb6] at A6
  generalize w.alloc (.cells (rsA r) 33) = z at HB HL A6 ⊢
  have hbz : b6 < z.heap.size := A6.out.lt
  clear hb6
  go_wp2_with fail
  go_loopw [9] (fun i wr => ScL z (fun c => barR t r m c) l n i wr) (fun i _ => n - (intOf i).toNat)
  case atStart => exact sc_start z _ l n
  case round =>
    obtain ⟨k, hk, rfl, HR, HN⟩ := hrel
    have A6R := Lib.hid (A6.out.under HR.out hbz)
    by_cases hlt : k < n
    · obtain ⟨b, o, hl, rfl, hb0, hr⟩ := HL.out.rc hlt
      have hb : b < wr.heap.size := Nat.lt_of_lt_of_le hb0 HR.out.size
      have R1 : Hid (wr.rangeAt b (o + k * 4) (rcV l[k])) := fun j v hv => (HR.out.cell (p := ⟨b, o + k * 4 + j, none⟩) hb0).trans (hr j v hv)
      obtain ⟨x, hx⟩ : ∃ x, l[k] = x := ⟨_, rfl⟩
      rw [hx] at R1
      have R0 : Hid (wr.rangeAt b (o + k * 4) (encR x.1)) := fun j v hv => R1.out j v (by
        match j, hv with
        | 0, hv => exact hv
        | 1, hv => exact hv)
      have HX := Lib.hid hx
      clear hr hx hb0
      go_upto_region 4 with fail
      obtain ⟨bq, hbq⟩ : ∃ bq, (x.1 == r) = bq := ⟨_, rfl⟩
      obtain ⟨bt, hbt⟩ : ∃ bt, (x.2.1 != t) = bt := ⟨_, rfl⟩
      obtain ⟨tg, htg⟩ : ∃ tg, tog x.2.2 m = tg := ⟨_, rfl⟩
      have HBQ := Lib.hid hbq
      have HBT := Lib.hid hbt
      have HTG := Lib.hid htg
      have et : ((x.2.1 : Int) != (t : Int)) = bt := by rw [nat_bne, hbt]
      have HBAR : Hid (barR t r m x = (bq && bt && !tg)) := by show _ = _; unfold barR; rw [hbq, hbt, htg]
      clear hbq hbt htg
      cases bq
      · have HB2 : Hid (barR t r m x = false) := HBAR.out
        refine wp_region_held_drew (S := Below wr.heap.size wr) (by kernel_rfl) ((Below.refl _ wr).drew) (fun hS => ?_)
        refine takeH (i := 0) (d := 16) (v := ?vrf00) rfl (by kernel_rfl) (by kernel_rfl) (by kernel_rfl) (fun _ _ _ h => h) rfl (by rfl) ?yrf00 hS ?rrf00
        case yrf00 => (intro wz hz; have q2 : wz.cell? ⟨b, o + k * 4 + 2, none⟩ = some (.int .u64 (x.2.1 : Int)) := (hz.cell (p := ⟨b, o + k * 4 + 2, none⟩) hb).trans (R1.out 2 _ rfl); have q3 : wz.cell? ⟨b, o + k * 4 + 3, none⟩ = some (.int .i64 x.2.2) := (hz.cell (p := ⟨b, o + k * 4 + 3, none⟩) hb).trans (R1.out 3 _ rfl); go_simp <;> with_reducible rfl)
        simp only [List.setIfInBounds_toArray, List.set_cons_zero, List.set_cons_succ]
        refine takeH (i := 1) (d := 17) (v := ?vrf01) rfl (by kernel_rfl) (by kernel_rfl) (by kernel_rfl) (fun _ _ _ h => h) rfl (by rfl) ?yrf01 hS ?rrf01
        case yrf01 => (intro wz hz; have q2 : wz.cell? ⟨b, o + k * 4 + 2, none⟩ = some (.int .u64 (x.2.1 : Int)) := (hz.cell (p := ⟨b, o + k * 4 + 2, none⟩) hb).trans (R1.out 2 _ rfl); have q3 : wz.cell? ⟨b, o + k * 4 + 3, none⟩ = some (.int .i64 x.2.2) := (hz.cell (p := ⟨b, o + k * 4 + 3, none⟩) hb).trans (R1.out 3 _ rfl); go_simp <;> with_reducible rfl)
        simp only [List.setIfInBounds_toArray, List.set_cons_zero, List.set_cons_succ]
        refine takeH (i := 2) (d := 18) (v := ?vrf02) rfl (by kernel_rfl) (by kernel_rfl) (by kernel_rfl) (fun _ _ _ h => h) rfl (by rfl) ?yrf02 hS ?rrf02
        case yrf02 => (intro wz hz; have q2 : wz.cell? ⟨b, o + k * 4 + 2, none⟩ = some (.int .u64 (x.2.1 : Int)) := (hz.cell (p := ⟨b, o + k * 4 + 2, none⟩) hb).trans (R1.out 2 _ rfl); have q3 : wz.cell? ⟨b, o + k * 4 + 3, none⟩ = some (.int .i64 x.2.2) := (hz.cell (p := ⟨b, o + k * 4 + 3, none⟩) hb).trans (R1.out 3 _ rfl); go_simp <;> with_reducible rfl)
        simp only [List.setIfInBounds_toArray, List.set_cons_zero, List.set_cons_succ]
        refine takeH (i := 3) (d := 19) (v := ?vrf03) rfl (by kernel_rfl) (by kernel_rfl) (by kernel_rfl) (fun _ _ _ h => h) rfl (by rfl) ?yrf03 hS ?rrf03
        case yrf03 => (intro wz hz; have q2 : wz.cell? ⟨b, o + k * 4 + 2, none⟩ = some (.int .u64 (x.2.1 : Int)) := (hz.cell (p := ⟨b, o + k * 4 + 2, none⟩) hb).trans (R1.out 2 _ rfl); have q3 : wz.cell? ⟨b, o + k * 4 + 3, none⟩ = some (.int .i64 x.2.2) := (hz.cell (p := ⟨b, o + k * 4 + 3, none⟩) hb).trans (R1.out 3 _ rfl); go_simp <;> with_reducible rfl)
        simp only [List.setIfInBounds_toArray, List.set_cons_zero, List.set_cons_succ]
        refine takeH (i := 4) (d := 20) (v := .agg (rsA x.1)) rfl (by kernel_rfl) (by kernel_rfl) (by kernel_rfl) (fun _ _ _ h => h) rfl (by rfl) ?yrf04 hS ?rrf04
        case yrf04 => (intro wz hz; have q2 : wz.cell? ⟨b, o + k * 4 + 2, none⟩ = some (.int .u64 (x.2.1 : Int)) := (hz.cell (p := ⟨b, o + k * 4 + 2, none⟩) hb).trans (R1.out 2 _ rfl); have q3 : wz.cell? ⟨b, o + k * 4 + 3, none⟩ = some (.int .i64 x.2.2) := (hz.cell (p := ⟨b, o + k * 4 + 3, none⟩) hb).trans (R1.out 3 _ rfl); exact exec_load_in 33 (.tmp 19) rfl b (o + k * 4) rfl (encR x.1) 2 strR rfl (fun j v hv => (hz.cell (p := ⟨b, o + k * 4 + j, none⟩) hb).trans (R0.out j v hv)))
        simp only [List.setIfInBounds_toArray, List.set_cons_zero, List.set_cons_succ]
        refine takeH (i := 5) (d := 21) (v := .agg (rsA r)) rfl (by kernel_rfl) (by kernel_rfl) (by kernel_rfl) (fun _ _ _ h => h) rfl (by rfl) ?yrf05 hS ?rrf05
        case yrf05 => (intro wz hz; have q2 : wz.cell? ⟨b, o + k * 4 + 2, none⟩ = some (.int .u64 (x.2.1 : Int)) := (hz.cell (p := ⟨b, o + k * 4 + 2, none⟩) hb).trans (R1.out 2 _ rfl); have q3 : wz.cell? ⟨b, o + k * 4 + 3, none⟩ = some (.int .i64 x.2.2) := (hz.cell (p := ⟨b, o + k * 4 + 3, none⟩) hb).trans (R1.out 3 _ rfl); exact exec_load_at 33 (.tmp 6) rfl b6 rfl (rsA r) 2 strR rfl (A6R.out.under hz A6R.out.lt))
        simp only [List.setIfInBounds_toArray, List.set_cons_zero, List.set_cons_succ]
        refine takeH (i := 6) (d := 22) (v := .bool false) rfl (by kernel_rfl) (by kernel_rfl) (by kernel_rfl) (fun _ _ _ h => h) rfl (by rfl) ?yrf06 hS ?rrf06
        case yrf06 => (intro wz hz; have q2 : wz.cell? ⟨b, o + k * 4 + 2, none⟩ = some (.int .u64 (x.2.1 : Int)) := (hz.cell (p := ⟨b, o + k * 4 + 2, none⟩) hb).trans (R1.out 2 _ rfl); have q3 : wz.cell? ⟨b, o + k * 4 + 3, none⟩ = some (.int .i64 x.2.2) := (hz.cell (p := ⟨b, o + k * 4 + 3, none⟩) hb).trans (R1.out 3 _ rfl); exact exec_eqRb (.tmp 20) (.tmp 21) rfl x.1 r _ HBQ.out rfl rfl)
        simp only [List.setIfInBounds_toArray, List.set_cons_zero, List.set_cons_succ]
        refine takeH (i := 7) (d := 23) (v := ?vrf07) rfl (by kernel_rfl) (by kernel_rfl) (by kernel_rfl) (fun _ _ _ h => h) rfl (by rfl) ?yrf07 hS ?rrf07
        case yrf07 => (intro wz hz; have q2 : wz.cell? ⟨b, o + k * 4 + 2, none⟩ = some (.int .u64 (x.2.1 : Int)) := (hz.cell (p := ⟨b, o + k * 4 + 2, none⟩) hb).trans (R1.out 2 _ rfl); have q3 : wz.cell? ⟨b, o + k * 4 + 3, none⟩ = some (.int .i64 x.2.2) := (hz.cell (p := ⟨b, o + k * 4 + 3, none⟩) hb).trans (R1.out 3 _ rfl); go_simp <;> with_reducible rfl)
        simp only [List.setIfInBounds_toArray, List.set_cons_zero, List.set_cons_succ]
        refine skipH (i := 8) (d := 24) rfl (by kernel_rfl) (by kernel_rfl) (by kernel_rfl) (fun _ _ _ h => h) rfl (by rfl) hS ?_
        simp only [List.setIfInBounds_toArray, List.set_cons_zero, List.set_cons_succ]
        refine skipH (i := 9) (d := 25) rfl (by kernel_rfl) (by kernel_rfl) (by kernel_rfl) (fun _ _ _ h => h) rfl (by rfl) hS ?_
        simp only [List.setIfInBounds_toArray, List.set_cons_zero, List.set_cons_succ]
        refine skipH (i := 10) (d := 26) rfl (by kernel_rfl) (by kernel_rfl) (by kernel_rfl) (fun _ _ _ h => h) rfl (by rfl) hS ?_
        simp only [List.setIfInBounds_toArray, List.set_cons_zero, List.set_cons_succ]
        refine skipH (i := 11) (d := 27) rfl (by kernel_rfl) (by kernel_rfl) (by kernel_rfl) (fun _ _ _ h => h) rfl (by rfl) hS ?_
        simp only [List.setIfInBounds_toArray, List.set_cons_zero, List.set_cons_succ]
        refine skipH (i := 12) (d := 28) rfl (by kernel_rfl) (by kernel_rfl) (by kernel_rfl) (fun _ _ _ h => h) rfl (by rfl) hS ?_
        simp only [List.setIfInBounds_toArray, List.set_cons_zero, List.set_cons_succ]
        refine skipH (i := 13) (d := 29) rfl (by kernel_rfl) (by kernel_rfl) (by kernel_rfl) (fun _ _ _ h => h) rfl (by rfl) hS ?_
        simp only [List.setIfInBounds_toArray, List.set_cons_zero, List.set_cons_succ]
        refine skipH (i := 14) (d := 30) rfl (by kernel_rfl) (by kernel_rfl) (by kernel_rfl) (fun _ _ _ h => h) rfl (by rfl) hS ?_
        simp only [List.setIfInBounds_toArray, List.set_cons_zero, List.set_cons_succ]
        refine takeH (i := 15) (d := 31) (v := ?vrf015) rfl (by kernel_rfl) (by kernel_rfl) (by kernel_rfl) (fun _ _ _ h => h) rfl (by rfl) ?yrf015 hS ?rrf015
        case yrf015 => (intro wz hz; have q2 : wz.cell? ⟨b, o + k * 4 + 2, none⟩ = some (.int .u64 (x.2.1 : Int)) := (hz.cell (p := ⟨b, o + k * 4 + 2, none⟩) hb).trans (R1.out 2 _ rfl); have q3 : wz.cell? ⟨b, o + k * 4 + 3, none⟩ = some (.int .i64 x.2.2) := (hz.cell (p := ⟨b, o + k * 4 + 3, none⟩) hb).trans (R1.out 3 _ rfl); go_simp <;> with_reducible rfl)
        simp only [List.setIfInBounds_toArray, List.set_cons_zero, List.set_cons_succ]
        refine takeH (i := 16) (d := 32) (v := ?vrf016) rfl (by kernel_rfl) (by kernel_rfl) (by kernel_rfl) (fun _ _ _ h => h) rfl (by rfl) ?yrf016 hS ?rrf016
        case yrf016 => (intro wz hz; have q2 : wz.cell? ⟨b, o + k * 4 + 2, none⟩ = some (.int .u64 (x.2.1 : Int)) := (hz.cell (p := ⟨b, o + k * 4 + 2, none⟩) hb).trans (R1.out 2 _ rfl); have q3 : wz.cell? ⟨b, o + k * 4 + 3, none⟩ = some (.int .i64 x.2.2) := (hz.cell (p := ⟨b, o + k * 4 + 3, none⟩) hb).trans (R1.out 3 _ rfl); go_simp <;> with_reducible rfl)
        simp only [List.setIfInBounds_toArray, List.set_cons_zero, List.set_cons_succ]
        refine skipH (i := 17) (d := 33) rfl (by kernel_rfl) (by kernel_rfl) (by kernel_rfl) (fun _ _ _ h => h) rfl (by rfl) hS ?_
        simp only [List.setIfInBounds_toArray, List.set_cons_zero, List.set_cons_succ]
        refine skipH (i := 18) (d := 34) rfl (by kernel_rfl) (by kernel_rfl) (by kernel_rfl) (fun _ _ _ h => h) rfl (by rfl) hS ?_
        simp only [List.setIfInBounds_toArray, List.set_cons_zero, List.set_cons_succ]
        refine skipH (i := 19) (d := 35) rfl (by kernel_rfl) (by kernel_rfl) (by kernel_rfl) (fun _ _ _ h => h) rfl (by rfl) hS ?_
        simp only [List.setIfInBounds_toArray, List.set_cons_zero, List.set_cons_succ]
        refine skipH (i := 20) (d := 36) rfl (by kernel_rfl) (by kernel_rfl) (by kernel_rfl) (fun _ _ _ h => h) rfl (by rfl) hS ?_
        simp only [List.setIfInBounds_toArray, List.set_cons_zero, List.set_cons_succ]
        refine skipH (i := 21) (d := 37) rfl (by kernel_rfl) (by kernel_rfl) (by kernel_rfl) (fun _ _ _ h => h) rfl (by rfl) hS ?_
        simp only [List.setIfInBounds_toArray, List.set_cons_zero, List.set_cons_succ]
        refine skipH (i := 22) (d := 38) rfl (by kernel_rfl) (by kernel_rfl) (by kernel_rfl) (fun _ _ _ h => h) rfl (by rfl) hS ?_
        simp only [List.setIfInBounds_toArray, List.set_cons_zero, List.set_cons_succ]
        refine skipH (i := 23) (d := 39) rfl (by kernel_rfl) (by kernel_rfl) (by kernel_rfl) (fun _ _ _ h => h) rfl (by rfl) hS ?_
        simp only [List.setIfInBounds_toArray, List.set_cons_zero, List.set_cons_succ]
        refine skipH (i := 24) (d := 40) rfl (by kernel_rfl) (by kernel_rfl) (by kernel_rfl) (fun _ _ _ h => h) rfl (by rfl) hS ?_
        simp only [List.setIfInBounds_toArray, List.set_cons_zero, List.set_cons_succ]
        refine takeH (i := 25) (d := 41) (v := ?vrf025) rfl (by kernel_rfl) (by kernel_rfl) (by kernel_rfl) (fun _ _ _ h => h) rfl (by rfl) ?yrf025 hS ?rrf025
        case yrf025 => (intro wz hz; have q2 : wz.cell? ⟨b, o + k * 4 + 2, none⟩ = some (.int .u64 (x.2.1 : Int)) := (hz.cell (p := ⟨b, o + k * 4 + 2, none⟩) hb).trans (R1.out 2 _ rfl); have q3 : wz.cell? ⟨b, o + k * 4 + 3, none⟩ = some (.int .i64 x.2.2) := (hz.cell (p := ⟨b, o + k * 4 + 3, none⟩) hb).trans (R1.out 3 _ rfl); go_simp <;> with_reducible rfl)
        simp only [List.setIfInBounds_toArray, List.set_cons_zero, List.set_cons_succ]
        refine wpAnyH_done (by kernel_rfl) ?_ _
        have HS := Lib.hid (HR.out.trans (hS.mono HR.out.size))
        clear hS
        go_wp2_with fail
        exact ⟨⟨k + 1, by omega, by go_num, HS, Lib.hid (sc_next (p := fun c => barR t r m c) HN.out hl (by rw [HX.out]; exact HB2.out))⟩, by simp [intOf]; omega⟩
      · cases bt
        · have HB2 : Hid (barR t r m x = false) := HBAR.out
          refine wp_region_held_drew (S := Below wr.heap.size wr) (by kernel_rfl) ((Below.refl _ wr).drew) (fun hS => ?_)
          refine takeH (i := 0) (d := 16) (v := ?vrf10) rfl (by kernel_rfl) (by kernel_rfl) (by kernel_rfl) (fun _ _ _ h => h) rfl (by rfl) ?yrf10 hS ?rrf10
          case yrf10 => (intro wz hz; have q2 : wz.cell? ⟨b, o + k * 4 + 2, none⟩ = some (.int .u64 (x.2.1 : Int)) := (hz.cell (p := ⟨b, o + k * 4 + 2, none⟩) hb).trans (R1.out 2 _ rfl); have q3 : wz.cell? ⟨b, o + k * 4 + 3, none⟩ = some (.int .i64 x.2.2) := (hz.cell (p := ⟨b, o + k * 4 + 3, none⟩) hb).trans (R1.out 3 _ rfl); go_simp <;> with_reducible rfl)
          simp only [List.setIfInBounds_toArray, List.set_cons_zero, List.set_cons_succ]
          refine takeH (i := 1) (d := 17) (v := ?vrf11) rfl (by kernel_rfl) (by kernel_rfl) (by kernel_rfl) (fun _ _ _ h => h) rfl (by rfl) ?yrf11 hS ?rrf11
          case yrf11 => (intro wz hz; have q2 : wz.cell? ⟨b, o + k * 4 + 2, none⟩ = some (.int .u64 (x.2.1 : Int)) := (hz.cell (p := ⟨b, o + k * 4 + 2, none⟩) hb).trans (R1.out 2 _ rfl); have q3 : wz.cell? ⟨b, o + k * 4 + 3, none⟩ = some (.int .i64 x.2.2) := (hz.cell (p := ⟨b, o + k * 4 + 3, none⟩) hb).trans (R1.out 3 _ rfl); go_simp <;> with_reducible rfl)
          simp only [List.setIfInBounds_toArray, List.set_cons_zero, List.set_cons_succ]
          refine takeH (i := 2) (d := 18) (v := ?vrf12) rfl (by kernel_rfl) (by kernel_rfl) (by kernel_rfl) (fun _ _ _ h => h) rfl (by rfl) ?yrf12 hS ?rrf12
          case yrf12 => (intro wz hz; have q2 : wz.cell? ⟨b, o + k * 4 + 2, none⟩ = some (.int .u64 (x.2.1 : Int)) := (hz.cell (p := ⟨b, o + k * 4 + 2, none⟩) hb).trans (R1.out 2 _ rfl); have q3 : wz.cell? ⟨b, o + k * 4 + 3, none⟩ = some (.int .i64 x.2.2) := (hz.cell (p := ⟨b, o + k * 4 + 3, none⟩) hb).trans (R1.out 3 _ rfl); go_simp <;> with_reducible rfl)
          simp only [List.setIfInBounds_toArray, List.set_cons_zero, List.set_cons_succ]
          refine takeH (i := 3) (d := 19) (v := ?vrf13) rfl (by kernel_rfl) (by kernel_rfl) (by kernel_rfl) (fun _ _ _ h => h) rfl (by rfl) ?yrf13 hS ?rrf13
          case yrf13 => (intro wz hz; have q2 : wz.cell? ⟨b, o + k * 4 + 2, none⟩ = some (.int .u64 (x.2.1 : Int)) := (hz.cell (p := ⟨b, o + k * 4 + 2, none⟩) hb).trans (R1.out 2 _ rfl); have q3 : wz.cell? ⟨b, o + k * 4 + 3, none⟩ = some (.int .i64 x.2.2) := (hz.cell (p := ⟨b, o + k * 4 + 3, none⟩) hb).trans (R1.out 3 _ rfl); go_simp <;> with_reducible rfl)
          simp only [List.setIfInBounds_toArray, List.set_cons_zero, List.set_cons_succ]
          refine takeH (i := 4) (d := 20) (v := .agg (rsA x.1)) rfl (by kernel_rfl) (by kernel_rfl) (by kernel_rfl) (fun _ _ _ h => h) rfl (by rfl) ?yrf14 hS ?rrf14
          case yrf14 => (intro wz hz; have q2 : wz.cell? ⟨b, o + k * 4 + 2, none⟩ = some (.int .u64 (x.2.1 : Int)) := (hz.cell (p := ⟨b, o + k * 4 + 2, none⟩) hb).trans (R1.out 2 _ rfl); have q3 : wz.cell? ⟨b, o + k * 4 + 3, none⟩ = some (.int .i64 x.2.2) := (hz.cell (p := ⟨b, o + k * 4 + 3, none⟩) hb).trans (R1.out 3 _ rfl); exact exec_load_in 33 (.tmp 19) rfl b (o + k * 4) rfl (encR x.1) 2 strR rfl (fun j v hv => (hz.cell (p := ⟨b, o + k * 4 + j, none⟩) hb).trans (R0.out j v hv)))
          simp only [List.setIfInBounds_toArray, List.set_cons_zero, List.set_cons_succ]
          refine takeH (i := 5) (d := 21) (v := .agg (rsA r)) rfl (by kernel_rfl) (by kernel_rfl) (by kernel_rfl) (fun _ _ _ h => h) rfl (by rfl) ?yrf15 hS ?rrf15
          case yrf15 => (intro wz hz; have q2 : wz.cell? ⟨b, o + k * 4 + 2, none⟩ = some (.int .u64 (x.2.1 : Int)) := (hz.cell (p := ⟨b, o + k * 4 + 2, none⟩) hb).trans (R1.out 2 _ rfl); have q3 : wz.cell? ⟨b, o + k * 4 + 3, none⟩ = some (.int .i64 x.2.2) := (hz.cell (p := ⟨b, o + k * 4 + 3, none⟩) hb).trans (R1.out 3 _ rfl); exact exec_load_at 33 (.tmp 6) rfl b6 rfl (rsA r) 2 strR rfl (A6R.out.under hz A6R.out.lt))
          simp only [List.setIfInBounds_toArray, List.set_cons_zero, List.set_cons_succ]
          refine takeH (i := 6) (d := 22) (v := .bool true) rfl (by kernel_rfl) (by kernel_rfl) (by kernel_rfl) (fun _ _ _ h => h) rfl (by rfl) ?yrf16 hS ?rrf16
          case yrf16 => (intro wz hz; have q2 : wz.cell? ⟨b, o + k * 4 + 2, none⟩ = some (.int .u64 (x.2.1 : Int)) := (hz.cell (p := ⟨b, o + k * 4 + 2, none⟩) hb).trans (R1.out 2 _ rfl); have q3 : wz.cell? ⟨b, o + k * 4 + 3, none⟩ = some (.int .i64 x.2.2) := (hz.cell (p := ⟨b, o + k * 4 + 3, none⟩) hb).trans (R1.out 3 _ rfl); exact exec_eqRb (.tmp 20) (.tmp 21) rfl x.1 r _ HBQ.out rfl rfl)
          simp only [List.setIfInBounds_toArray, List.set_cons_zero, List.set_cons_succ]
          refine takeH (i := 7) (d := 23) (v := ?vrf17) rfl (by kernel_rfl) (by kernel_rfl) (by kernel_rfl) (fun _ _ _ h => h) rfl (by rfl) ?yrf17 hS ?rrf17
          case yrf17 => (intro wz hz; have q2 : wz.cell? ⟨b, o + k * 4 + 2, none⟩ = some (.int .u64 (x.2.1 : Int)) := (hz.cell (p := ⟨b, o + k * 4 + 2, none⟩) hb).trans (R1.out 2 _ rfl); have q3 : wz.cell? ⟨b, o + k * 4 + 3, none⟩ = some (.int .i64 x.2.2) := (hz.cell (p := ⟨b, o + k * 4 + 3, none⟩) hb).trans (R1.out 3 _ rfl); go_simp <;> with_reducible rfl)
          simp only [List.setIfInBounds_toArray, List.set_cons_zero, List.set_cons_succ]
          refine takeH (i := 8) (d := 24) (v := ?vrf18) rfl (by kernel_rfl) (by kernel_rfl) (by kernel_rfl) (fun _ _ _ h => h) rfl (by rfl) ?yrf18 hS ?rrf18
          case yrf18 => (intro wz hz; have q2 : wz.cell? ⟨b, o + k * 4 + 2, none⟩ = some (.int .u64 (x.2.1 : Int)) := (hz.cell (p := ⟨b, o + k * 4 + 2, none⟩) hb).trans (R1.out 2 _ rfl); have q3 : wz.cell? ⟨b, o + k * 4 + 3, none⟩ = some (.int .i64 x.2.2) := (hz.cell (p := ⟨b, o + k * 4 + 3, none⟩) hb).trans (R1.out 3 _ rfl); go_simp <;> with_reducible rfl)
          simp only [List.setIfInBounds_toArray, List.set_cons_zero, List.set_cons_succ]
          refine takeH (i := 9) (d := 25) (v := ?vrf19) rfl (by kernel_rfl) (by kernel_rfl) (by kernel_rfl) (fun _ _ _ h => h) rfl (by rfl) ?yrf19 hS ?rrf19
          case yrf19 => (intro wz hz; have q2 : wz.cell? ⟨b, o + k * 4 + 2, none⟩ = some (.int .u64 (x.2.1 : Int)) := (hz.cell (p := ⟨b, o + k * 4 + 2, none⟩) hb).trans (R1.out 2 _ rfl); have q3 : wz.cell? ⟨b, o + k * 4 + 3, none⟩ = some (.int .i64 x.2.2) := (hz.cell (p := ⟨b, o + k * 4 + 3, none⟩) hb).trans (R1.out 3 _ rfl); go_simp <;> with_reducible rfl)
          simp only [List.setIfInBounds_toArray, List.set_cons_zero, List.set_cons_succ]
          refine takeH (i := 10) (d := 26) (v := ?vrf110) rfl (by kernel_rfl) (by kernel_rfl) (by kernel_rfl) (fun _ _ _ h => h) rfl (by rfl) ?yrf110 hS ?rrf110
          case yrf110 => (intro wz hz; have q2 : wz.cell? ⟨b, o + k * 4 + 2, none⟩ = some (.int .u64 (x.2.1 : Int)) := (hz.cell (p := ⟨b, o + k * 4 + 2, none⟩) hb).trans (R1.out 2 _ rfl); have q3 : wz.cell? ⟨b, o + k * 4 + 3, none⟩ = some (.int .i64 x.2.2) := (hz.cell (p := ⟨b, o + k * 4 + 3, none⟩) hb).trans (R1.out 3 _ rfl); go_simp <;> with_reducible rfl)
          simp only [List.setIfInBounds_toArray, List.set_cons_zero, List.set_cons_succ]
          refine takeH (i := 11) (d := 27) (v := ?vrf111) rfl (by kernel_rfl) (by kernel_rfl) (by kernel_rfl) (fun _ _ _ h => h) rfl (by rfl) ?yrf111 hS ?rrf111
          case yrf111 => (intro wz hz; have q2 : wz.cell? ⟨b, o + k * 4 + 2, none⟩ = some (.int .u64 (x.2.1 : Int)) := (hz.cell (p := ⟨b, o + k * 4 + 2, none⟩) hb).trans (R1.out 2 _ rfl); have q3 : wz.cell? ⟨b, o + k * 4 + 3, none⟩ = some (.int .i64 x.2.2) := (hz.cell (p := ⟨b, o + k * 4 + 3, none⟩) hb).trans (R1.out 3 _ rfl); go_simp <;> with_reducible rfl)
          simp only [List.setIfInBounds_toArray, List.set_cons_zero, List.set_cons_succ]
          refine takeH (i := 12) (d := 28) (v := ?vrf112) rfl (by kernel_rfl) (by kernel_rfl) (by kernel_rfl) (fun _ _ _ h => h) rfl (by rfl) ?yrf112 hS ?rrf112
          case yrf112 => (intro wz hz; have q2 : wz.cell? ⟨b, o + k * 4 + 2, none⟩ = some (.int .u64 (x.2.1 : Int)) := (hz.cell (p := ⟨b, o + k * 4 + 2, none⟩) hb).trans (R1.out 2 _ rfl); have q3 : wz.cell? ⟨b, o + k * 4 + 3, none⟩ = some (.int .i64 x.2.2) := (hz.cell (p := ⟨b, o + k * 4 + 3, none⟩) hb).trans (R1.out 3 _ rfl); go_simp <;> with_reducible rfl)
          simp only [List.setIfInBounds_toArray, List.set_cons_zero, List.set_cons_succ]
          refine takeH (i := 13) (d := 29) (v := ?vrf113) rfl (by kernel_rfl) (by kernel_rfl) (by kernel_rfl) (fun _ _ _ h => h) rfl (by rfl) ?yrf113 hS ?rrf113
          case yrf113 => (intro wz hz; have q2 : wz.cell? ⟨b, o + k * 4 + 2, none⟩ = some (.int .u64 (x.2.1 : Int)) := (hz.cell (p := ⟨b, o + k * 4 + 2, none⟩) hb).trans (R1.out 2 _ rfl); have q3 : wz.cell? ⟨b, o + k * 4 + 3, none⟩ = some (.int .i64 x.2.2) := (hz.cell (p := ⟨b, o + k * 4 + 3, none⟩) hb).trans (R1.out 3 _ rfl); go_simp <;> with_reducible rfl)
          simp only [List.setIfInBounds_toArray, List.set_cons_zero, List.set_cons_succ]
          refine takeH (i := 14) (d := 30) (v := ?vrf114) rfl (by kernel_rfl) (by kernel_rfl) (by kernel_rfl) (fun _ _ _ h => h) rfl (by rfl) ?yrf114 hS ?rrf114
          case yrf114 => (intro wz hz; have q2 : wz.cell? ⟨b, o + k * 4 + 2, none⟩ = some (.int .u64 (x.2.1 : Int)) := (hz.cell (p := ⟨b, o + k * 4 + 2, none⟩) hb).trans (R1.out 2 _ rfl); have q3 : wz.cell? ⟨b, o + k * 4 + 3, none⟩ = some (.int .i64 x.2.2) := (hz.cell (p := ⟨b, o + k * 4 + 3, none⟩) hb).trans (R1.out 3 _ rfl); go_simp <;> with_reducible rfl)
          simp only [List.setIfInBounds_toArray, List.set_cons_zero, List.set_cons_succ]
          refine takeH (i := 15) (d := 31) (v := ?vrf115) rfl (by kernel_rfl) (by kernel_rfl) (by kernel_rfl) (fun _ _ _ h => h) rfl (by rfl) ?yrf115 hS ?rrf115
          case yrf115 => (intro wz hz; have q2 : wz.cell? ⟨b, o + k * 4 + 2, none⟩ = some (.int .u64 (x.2.1 : Int)) := (hz.cell (p := ⟨b, o + k * 4 + 2, none⟩) hb).trans (R1.out 2 _ rfl); have q3 : wz.cell? ⟨b, o + k * 4 + 3, none⟩ = some (.int .i64 x.2.2) := (hz.cell (p := ⟨b, o + k * 4 + 3, none⟩) hb).trans (R1.out 3 _ rfl); go_simp <;> with_reducible rfl)
          simp only [List.setIfInBounds_toArray, List.set_cons_zero, List.set_cons_succ]
          refine takeH (i := 16) (d := 32) (v := ?vrf116) rfl (by kernel_rfl) (by kernel_rfl) (by kernel_rfl) (fun _ _ _ h => h) rfl (by rfl) ?yrf116 hS ?rrf116
          case yrf116 => (intro wz hz; have q2 : wz.cell? ⟨b, o + k * 4 + 2, none⟩ = some (.int .u64 (x.2.1 : Int)) := (hz.cell (p := ⟨b, o + k * 4 + 2, none⟩) hb).trans (R1.out 2 _ rfl); have q3 : wz.cell? ⟨b, o + k * 4 + 3, none⟩ = some (.int .i64 x.2.2) := (hz.cell (p := ⟨b, o + k * 4 + 3, none⟩) hb).trans (R1.out 3 _ rfl); go_simp <;> with_reducible rfl)
          simp only [List.setIfInBounds_toArray, List.set_cons_zero, List.set_cons_succ]
          refine skipH (i := 17) (d := 33) rfl (by kernel_rfl) (by kernel_rfl) (by kernel_rfl) (fun _ _ _ h => h) rfl (by rfl) hS ?_
          simp only [List.setIfInBounds_toArray, List.set_cons_zero, List.set_cons_succ]
          refine skipH (i := 18) (d := 34) rfl (by kernel_rfl) (by kernel_rfl) (by kernel_rfl) (fun _ _ _ h => h) rfl (by rfl) hS ?_
          simp only [List.setIfInBounds_toArray, List.set_cons_zero, List.set_cons_succ]
          refine skipH (i := 19) (d := 35) rfl (by kernel_rfl) (by kernel_rfl) (by kernel_rfl) (fun _ _ _ h => h) rfl (by rfl) hS ?_
          simp only [List.setIfInBounds_toArray, List.set_cons_zero, List.set_cons_succ]
          refine skipH (i := 20) (d := 36) rfl (by kernel_rfl) (by kernel_rfl) (by kernel_rfl) (fun _ _ _ h => h) rfl (by rfl) hS ?_
          simp only [List.setIfInBounds_toArray, List.set_cons_zero, List.set_cons_succ]
          refine skipH (i := 21) (d := 37) rfl (by kernel_rfl) (by kernel_rfl) (by kernel_rfl) (fun _ _ _ h => h) rfl (by rfl) hS ?_
          simp only [List.setIfInBounds_toArray, List.set_cons_zero, List.set_cons_succ]
          refine skipH (i := 22) (d := 38) rfl (by kernel_rfl) (by kernel_rfl) (by kernel_rfl) (fun _ _ _ h => h) rfl (by rfl) hS ?_
          simp only [List.setIfInBounds_toArray, List.set_cons_zero, List.set_cons_succ]
          refine skipH (i := 23) (d := 39) rfl (by kernel_rfl) (by kernel_rfl) (by kernel_rfl) (fun _ _ _ h => h) rfl (by rfl) hS ?_
          simp only [List.setIfInBounds_toArray, List.set_cons_zero, List.set_cons_succ]
          refine skipH (i := 24) (d := 40) rfl (by kernel_rfl) (by kernel_rfl) (by kernel_rfl) (fun _ _ _ h => h) rfl (by rfl) hS ?_
          simp only [List.setIfInBounds_toArray, List.set_cons_zero, List.set_cons_succ]
          refine takeH (i := 25) (d := 41) (v := ?vrf125) rfl (by kernel_rfl) (by kernel_rfl) (by kernel_rfl) (fun _ _ _ h => h) rfl (by rfl) ?yrf125 hS ?rrf125
          case yrf125 => (intro wz hz; have q2 : wz.cell? ⟨b, o + k * 4 + 2, none⟩ = some (.int .u64 (x.2.1 : Int)) := (hz.cell (p := ⟨b, o + k * 4 + 2, none⟩) hb).trans (R1.out 2 _ rfl); have q3 : wz.cell? ⟨b, o + k * 4 + 3, none⟩ = some (.int .i64 x.2.2) := (hz.cell (p := ⟨b, o + k * 4 + 3, none⟩) hb).trans (R1.out 3 _ rfl); go_simp <;> with_reducible rfl)
          simp only [List.setIfInBounds_toArray, List.set_cons_zero, List.set_cons_succ]
          refine wpAnyH_done (by kernel_rfl) ?_ _
          have HS := Lib.hid (HR.out.trans (hS.mono HR.out.size))
          clear hS
          go_wp2_with fail
          exact ⟨⟨k + 1, by omega, by go_num, HS, Lib.hid (sc_next (p := fun c => barR t r m c) HN.out hl (by rw [HX.out]; exact HB2.out))⟩, by simp [intOf]; omega⟩
        · have HB2 : Hid (barR t r m x = !tg) := HBAR.out
          refine wp_region_held_drew (S := Below wr.heap.size wr) (by kernel_rfl) ((Below.refl _ wr).drew) (fun hS => ?_)
          refine takeH (i := 0) (d := 16) (v := ?vrf20) rfl (by kernel_rfl) (by kernel_rfl) (by kernel_rfl) (fun _ _ _ h => h) rfl (by rfl) ?yrf20 hS ?rrf20
          case yrf20 => (intro wz hz; have q2 : wz.cell? ⟨b, o + k * 4 + 2, none⟩ = some (.int .u64 (x.2.1 : Int)) := (hz.cell (p := ⟨b, o + k * 4 + 2, none⟩) hb).trans (R1.out 2 _ rfl); have q3 : wz.cell? ⟨b, o + k * 4 + 3, none⟩ = some (.int .i64 x.2.2) := (hz.cell (p := ⟨b, o + k * 4 + 3, none⟩) hb).trans (R1.out 3 _ rfl); go_simp <;> with_reducible rfl)
          simp only [List.setIfInBounds_toArray, List.set_cons_zero, List.set_cons_succ]
          refine takeH (i := 1) (d := 17) (v := ?vrf21) rfl (by kernel_rfl) (by kernel_rfl) (by kernel_rfl) (fun _ _ _ h => h) rfl (by rfl) ?yrf21 hS ?rrf21
          case yrf21 => (intro wz hz; have q2 : wz.cell? ⟨b, o + k * 4 + 2, none⟩ = some (.int .u64 (x.2.1 : Int)) := (hz.cell (p := ⟨b, o + k * 4 + 2, none⟩) hb).trans (R1.out 2 _ rfl); have q3 : wz.cell? ⟨b, o + k * 4 + 3, none⟩ = some (.int .i64 x.2.2) := (hz.cell (p := ⟨b, o + k * 4 + 3, none⟩) hb).trans (R1.out 3 _ rfl); go_simp <;> with_reducible rfl)
          simp only [List.setIfInBounds_toArray, List.set_cons_zero, List.set_cons_succ]
          refine takeH (i := 2) (d := 18) (v := ?vrf22) rfl (by kernel_rfl) (by kernel_rfl) (by kernel_rfl) (fun _ _ _ h => h) rfl (by rfl) ?yrf22 hS ?rrf22
          case yrf22 => (intro wz hz; have q2 : wz.cell? ⟨b, o + k * 4 + 2, none⟩ = some (.int .u64 (x.2.1 : Int)) := (hz.cell (p := ⟨b, o + k * 4 + 2, none⟩) hb).trans (R1.out 2 _ rfl); have q3 : wz.cell? ⟨b, o + k * 4 + 3, none⟩ = some (.int .i64 x.2.2) := (hz.cell (p := ⟨b, o + k * 4 + 3, none⟩) hb).trans (R1.out 3 _ rfl); go_simp <;> with_reducible rfl)
          simp only [List.setIfInBounds_toArray, List.set_cons_zero, List.set_cons_succ]
          refine takeH (i := 3) (d := 19) (v := ?vrf23) rfl (by kernel_rfl) (by kernel_rfl) (by kernel_rfl) (fun _ _ _ h => h) rfl (by rfl) ?yrf23 hS ?rrf23
          case yrf23 => (intro wz hz; have q2 : wz.cell? ⟨b, o + k * 4 + 2, none⟩ = some (.int .u64 (x.2.1 : Int)) := (hz.cell (p := ⟨b, o + k * 4 + 2, none⟩) hb).trans (R1.out 2 _ rfl); have q3 : wz.cell? ⟨b, o + k * 4 + 3, none⟩ = some (.int .i64 x.2.2) := (hz.cell (p := ⟨b, o + k * 4 + 3, none⟩) hb).trans (R1.out 3 _ rfl); go_simp <;> with_reducible rfl)
          simp only [List.setIfInBounds_toArray, List.set_cons_zero, List.set_cons_succ]
          refine takeH (i := 4) (d := 20) (v := .agg (rsA x.1)) rfl (by kernel_rfl) (by kernel_rfl) (by kernel_rfl) (fun _ _ _ h => h) rfl (by rfl) ?yrf24 hS ?rrf24
          case yrf24 => (intro wz hz; have q2 : wz.cell? ⟨b, o + k * 4 + 2, none⟩ = some (.int .u64 (x.2.1 : Int)) := (hz.cell (p := ⟨b, o + k * 4 + 2, none⟩) hb).trans (R1.out 2 _ rfl); have q3 : wz.cell? ⟨b, o + k * 4 + 3, none⟩ = some (.int .i64 x.2.2) := (hz.cell (p := ⟨b, o + k * 4 + 3, none⟩) hb).trans (R1.out 3 _ rfl); exact exec_load_in 33 (.tmp 19) rfl b (o + k * 4) rfl (encR x.1) 2 strR rfl (fun j v hv => (hz.cell (p := ⟨b, o + k * 4 + j, none⟩) hb).trans (R0.out j v hv)))
          simp only [List.setIfInBounds_toArray, List.set_cons_zero, List.set_cons_succ]
          refine takeH (i := 5) (d := 21) (v := .agg (rsA r)) rfl (by kernel_rfl) (by kernel_rfl) (by kernel_rfl) (fun _ _ _ h => h) rfl (by rfl) ?yrf25 hS ?rrf25
          case yrf25 => (intro wz hz; have q2 : wz.cell? ⟨b, o + k * 4 + 2, none⟩ = some (.int .u64 (x.2.1 : Int)) := (hz.cell (p := ⟨b, o + k * 4 + 2, none⟩) hb).trans (R1.out 2 _ rfl); have q3 : wz.cell? ⟨b, o + k * 4 + 3, none⟩ = some (.int .i64 x.2.2) := (hz.cell (p := ⟨b, o + k * 4 + 3, none⟩) hb).trans (R1.out 3 _ rfl); exact exec_load_at 33 (.tmp 6) rfl b6 rfl (rsA r) 2 strR rfl (A6R.out.under hz A6R.out.lt))
          simp only [List.setIfInBounds_toArray, List.set_cons_zero, List.set_cons_succ]
          refine takeH (i := 6) (d := 22) (v := .bool true) rfl (by kernel_rfl) (by kernel_rfl) (by kernel_rfl) (fun _ _ _ h => h) rfl (by rfl) ?yrf26 hS ?rrf26
          case yrf26 => (intro wz hz; have q2 : wz.cell? ⟨b, o + k * 4 + 2, none⟩ = some (.int .u64 (x.2.1 : Int)) := (hz.cell (p := ⟨b, o + k * 4 + 2, none⟩) hb).trans (R1.out 2 _ rfl); have q3 : wz.cell? ⟨b, o + k * 4 + 3, none⟩ = some (.int .i64 x.2.2) := (hz.cell (p := ⟨b, o + k * 4 + 3, none⟩) hb).trans (R1.out 3 _ rfl); exact exec_eqRb (.tmp 20) (.tmp 21) rfl x.1 r _ HBQ.out rfl rfl)
          simp only [List.setIfInBounds_toArray, List.set_cons_zero, List.set_cons_succ]
          refine takeH (i := 7) (d := 23) (v := ?vrf27) rfl (by kernel_rfl) (by kernel_rfl) (by kernel_rfl) (fun _ _ _ h => h) rfl (by rfl) ?yrf27 hS ?rrf27
          case yrf27 => (intro wz hz; have q2 : wz.cell? ⟨b, o + k * 4 + 2, none⟩ = some (.int .u64 (x.2.1 : Int)) := (hz.cell (p := ⟨b, o + k * 4 + 2, none⟩) hb).trans (R1.out 2 _ rfl); have q3 : wz.cell? ⟨b, o + k * 4 + 3, none⟩ = some (.int .i64 x.2.2) := (hz.cell (p := ⟨b, o + k * 4 + 3, none⟩) hb).trans (R1.out 3 _ rfl); go_simp <;> with_reducible rfl)
          simp only [List.setIfInBounds_toArray, List.set_cons_zero, List.set_cons_succ]
          refine takeH (i := 8) (d := 24) (v := ?vrf28) rfl (by kernel_rfl) (by kernel_rfl) (by kernel_rfl) (fun _ _ _ h => h) rfl (by rfl) ?yrf28 hS ?rrf28
          case yrf28 => (intro wz hz; have q2 : wz.cell? ⟨b, o + k * 4 + 2, none⟩ = some (.int .u64 (x.2.1 : Int)) := (hz.cell (p := ⟨b, o + k * 4 + 2, none⟩) hb).trans (R1.out 2 _ rfl); have q3 : wz.cell? ⟨b, o + k * 4 + 3, none⟩ = some (.int .i64 x.2.2) := (hz.cell (p := ⟨b, o + k * 4 + 3, none⟩) hb).trans (R1.out 3 _ rfl); go_simp <;> with_reducible rfl)
          simp only [List.setIfInBounds_toArray, List.set_cons_zero, List.set_cons_succ]
          refine takeH (i := 9) (d := 25) (v := ?vrf29) rfl (by kernel_rfl) (by kernel_rfl) (by kernel_rfl) (fun _ _ _ h => h) rfl (by rfl) ?yrf29 hS ?rrf29
          case yrf29 => (intro wz hz; have q2 : wz.cell? ⟨b, o + k * 4 + 2, none⟩ = some (.int .u64 (x.2.1 : Int)) := (hz.cell (p := ⟨b, o + k * 4 + 2, none⟩) hb).trans (R1.out 2 _ rfl); have q3 : wz.cell? ⟨b, o + k * 4 + 3, none⟩ = some (.int .i64 x.2.2) := (hz.cell (p := ⟨b, o + k * 4 + 3, none⟩) hb).trans (R1.out 3 _ rfl); go_simp <;> with_reducible rfl)
          simp only [List.setIfInBounds_toArray, List.set_cons_zero, List.set_cons_succ]
          refine takeH (i := 10) (d := 26) (v := ?vrf210) rfl (by kernel_rfl) (by kernel_rfl) (by kernel_rfl) (fun _ _ _ h => h) rfl (by rfl) ?yrf210 hS ?rrf210
          case yrf210 => (intro wz hz; have q2 : wz.cell? ⟨b, o + k * 4 + 2, none⟩ = some (.int .u64 (x.2.1 : Int)) := (hz.cell (p := ⟨b, o + k * 4 + 2, none⟩) hb).trans (R1.out 2 _ rfl); have q3 : wz.cell? ⟨b, o + k * 4 + 3, none⟩ = some (.int .i64 x.2.2) := (hz.cell (p := ⟨b, o + k * 4 + 3, none⟩) hb).trans (R1.out 3 _ rfl); go_simp <;> with_reducible rfl)
          simp only [List.setIfInBounds_toArray, List.set_cons_zero, List.set_cons_succ]
          refine takeH (i := 11) (d := 27) (v := ?vrf211) rfl (by kernel_rfl) (by kernel_rfl) (by kernel_rfl) (fun _ _ _ h => h) rfl (by rfl) ?yrf211 hS ?rrf211
          case yrf211 => (intro wz hz; have q2 : wz.cell? ⟨b, o + k * 4 + 2, none⟩ = some (.int .u64 (x.2.1 : Int)) := (hz.cell (p := ⟨b, o + k * 4 + 2, none⟩) hb).trans (R1.out 2 _ rfl); have q3 : wz.cell? ⟨b, o + k * 4 + 3, none⟩ = some (.int .i64 x.2.2) := (hz.cell (p := ⟨b, o + k * 4 + 3, none⟩) hb).trans (R1.out 3 _ rfl); go_simp <;> with_reducible rfl)
          simp only [List.setIfInBounds_toArray, List.set_cons_zero, List.set_cons_succ]
          refine takeH (i := 12) (d := 28) (v := ?vrf212) rfl (by kernel_rfl) (by kernel_rfl) (by kernel_rfl) (fun _ _ _ h => h) rfl (by rfl) ?yrf212 hS ?rrf212
          case yrf212 => (intro wz hz; have q2 : wz.cell? ⟨b, o + k * 4 + 2, none⟩ = some (.int .u64 (x.2.1 : Int)) := (hz.cell (p := ⟨b, o + k * 4 + 2, none⟩) hb).trans (R1.out 2 _ rfl); have q3 : wz.cell? ⟨b, o + k * 4 + 3, none⟩ = some (.int .i64 x.2.2) := (hz.cell (p := ⟨b, o + k * 4 + 3, none⟩) hb).trans (R1.out 3 _ rfl); go_simp <;> with_reducible rfl)
          simp only [List.setIfInBounds_toArray, List.set_cons_zero, List.set_cons_succ]
          refine takeH (i := 13) (d := 29) (v := ?vrf213) rfl (by kernel_rfl) (by kernel_rfl) (by kernel_rfl) (fun _ _ _ h => h) rfl (by rfl) ?yrf213 hS ?rrf213
          case yrf213 => (intro wz hz; have q2 : wz.cell? ⟨b, o + k * 4 + 2, none⟩ = some (.int .u64 (x.2.1 : Int)) := (hz.cell (p := ⟨b, o + k * 4 + 2, none⟩) hb).trans (R1.out 2 _ rfl); have q3 : wz.cell? ⟨b, o + k * 4 + 3, none⟩ = some (.int .i64 x.2.2) := (hz.cell (p := ⟨b, o + k * 4 + 3, none⟩) hb).trans (R1.out 3 _ rfl); go_simp <;> with_reducible rfl)
          simp only [List.setIfInBounds_toArray, List.set_cons_zero, List.set_cons_succ]
          refine takeH (i := 14) (d := 30) (v := ?vrf214) rfl (by kernel_rfl) (by kernel_rfl) (by kernel_rfl) (fun _ _ _ h => h) rfl (by rfl) ?yrf214 hS ?rrf214
          case yrf214 => (intro wz hz; have q2 : wz.cell? ⟨b, o + k * 4 + 2, none⟩ = some (.int .u64 (x.2.1 : Int)) := (hz.cell (p := ⟨b, o + k * 4 + 2, none⟩) hb).trans (R1.out 2 _ rfl); have q3 : wz.cell? ⟨b, o + k * 4 + 3, none⟩ = some (.int .i64 x.2.2) := (hz.cell (p := ⟨b, o + k * 4 + 3, none⟩) hb).trans (R1.out 3 _ rfl); go_simp <;> with_reducible rfl)
          simp only [List.setIfInBounds_toArray, List.set_cons_zero, List.set_cons_succ]
          refine takeH (i := 15) (d := 31) (v := ?vrf215) rfl (by kernel_rfl) (by kernel_rfl) (by kernel_rfl) (fun _ _ _ h => h) rfl (by rfl) ?yrf215 hS ?rrf215
          case yrf215 => (intro wz hz; have q2 : wz.cell? ⟨b, o + k * 4 + 2, none⟩ = some (.int .u64 (x.2.1 : Int)) := (hz.cell (p := ⟨b, o + k * 4 + 2, none⟩) hb).trans (R1.out 2 _ rfl); have q3 : wz.cell? ⟨b, o + k * 4 + 3, none⟩ = some (.int .i64 x.2.2) := (hz.cell (p := ⟨b, o + k * 4 + 3, none⟩) hb).trans (R1.out 3 _ rfl); go_simp <;> with_reducible rfl)
          simp only [List.setIfInBounds_toArray, List.set_cons_zero, List.set_cons_succ]
          refine takeH (i := 16) (d := 32) (v := ?vrf216) rfl (by kernel_rfl) (by kernel_rfl) (by kernel_rfl) (fun _ _ _ h => h) rfl (by rfl) ?yrf216 hS ?rrf216
          case yrf216 => (intro wz hz; have q2 : wz.cell? ⟨b, o + k * 4 + 2, none⟩ = some (.int .u64 (x.2.1 : Int)) := (hz.cell (p := ⟨b, o + k * 4 + 2, none⟩) hb).trans (R1.out 2 _ rfl); have q3 : wz.cell? ⟨b, o + k * 4 + 3, none⟩ = some (.int .i64 x.2.2) := (hz.cell (p := ⟨b, o + k * 4 + 3, none⟩) hb).trans (R1.out 3 _ rfl); go_simp <;> with_reducible rfl)
          simp only [List.setIfInBounds_toArray, List.set_cons_zero, List.set_cons_succ]
          refine takeH (i := 17) (d := 33) (v := ?vrf217) rfl (by kernel_rfl) (by kernel_rfl) (by kernel_rfl) (fun _ _ _ h => h) rfl (by rfl) ?yrf217 hS ?rrf217
          case yrf217 => (intro wz hz; have q2 : wz.cell? ⟨b, o + k * 4 + 2, none⟩ = some (.int .u64 (x.2.1 : Int)) := (hz.cell (p := ⟨b, o + k * 4 + 2, none⟩) hb).trans (R1.out 2 _ rfl); have q3 : wz.cell? ⟨b, o + k * 4 + 3, none⟩ = some (.int .i64 x.2.2) := (hz.cell (p := ⟨b, o + k * 4 + 3, none⟩) hb).trans (R1.out 3 _ rfl); go_simp <;> with_reducible rfl)
          simp only [List.setIfInBounds_toArray, List.set_cons_zero, List.set_cons_succ]
          refine takeH (i := 18) (d := 34) (v := ?vrf218) rfl (by kernel_rfl) (by kernel_rfl) (by kernel_rfl) (fun _ _ _ h => h) rfl (by rfl) ?yrf218 hS ?rrf218
          case yrf218 => (intro wz hz; have q2 : wz.cell? ⟨b, o + k * 4 + 2, none⟩ = some (.int .u64 (x.2.1 : Int)) := (hz.cell (p := ⟨b, o + k * 4 + 2, none⟩) hb).trans (R1.out 2 _ rfl); have q3 : wz.cell? ⟨b, o + k * 4 + 3, none⟩ = some (.int .i64 x.2.2) := (hz.cell (p := ⟨b, o + k * 4 + 3, none⟩) hb).trans (R1.out 3 _ rfl); go_simp <;> with_reducible rfl)
          simp only [List.setIfInBounds_toArray, List.set_cons_zero, List.set_cons_succ]
          refine takeH (i := 19) (d := 35) (v := ?vrf219) rfl (by kernel_rfl) (by kernel_rfl) (by kernel_rfl) (fun _ _ _ h => h) rfl (by rfl) ?yrf219 hS ?rrf219
          case yrf219 => (intro wz hz; have q2 : wz.cell? ⟨b, o + k * 4 + 2, none⟩ = some (.int .u64 (x.2.1 : Int)) := (hz.cell (p := ⟨b, o + k * 4 + 2, none⟩) hb).trans (R1.out 2 _ rfl); have q3 : wz.cell? ⟨b, o + k * 4 + 3, none⟩ = some (.int .i64 x.2.2) := (hz.cell (p := ⟨b, o + k * 4 + 3, none⟩) hb).trans (R1.out 3 _ rfl); go_simp <;> with_reducible rfl)
          simp only [List.setIfInBounds_toArray, List.set_cons_zero, List.set_cons_succ]
          refine takeH (i := 20) (d := 36) (v := ?vrf220) rfl (by kernel_rfl) (by kernel_rfl) (by kernel_rfl) (fun _ _ _ h => h) rfl (by rfl) ?yrf220 hS ?rrf220
          case yrf220 => (intro wz hz; have q2 : wz.cell? ⟨b, o + k * 4 + 2, none⟩ = some (.int .u64 (x.2.1 : Int)) := (hz.cell (p := ⟨b, o + k * 4 + 2, none⟩) hb).trans (R1.out 2 _ rfl); have q3 : wz.cell? ⟨b, o + k * 4 + 3, none⟩ = some (.int .i64 x.2.2) := (hz.cell (p := ⟨b, o + k * 4 + 3, none⟩) hb).trans (R1.out 3 _ rfl); go_simp <;> with_reducible rfl)
          simp only [List.setIfInBounds_toArray, List.set_cons_zero, List.set_cons_succ]
          refine takeH (i := 21) (d := 37) (v := ?vrf221) rfl (by kernel_rfl) (by kernel_rfl) (by kernel_rfl) (fun _ _ _ h => h) rfl (by rfl) ?yrf221 hS ?rrf221
          case yrf221 => (intro wz hz; have q2 : wz.cell? ⟨b, o + k * 4 + 2, none⟩ = some (.int .u64 (x.2.1 : Int)) := (hz.cell (p := ⟨b, o + k * 4 + 2, none⟩) hb).trans (R1.out 2 _ rfl); have q3 : wz.cell? ⟨b, o + k * 4 + 3, none⟩ = some (.int .i64 x.2.2) := (hz.cell (p := ⟨b, o + k * 4 + 3, none⟩) hb).trans (R1.out 3 _ rfl); go_simp <;> with_reducible rfl)
          simp only [List.setIfInBounds_toArray, List.set_cons_zero, List.set_cons_succ]
          refine takeH (i := 22) (d := 38) (v := ?vrf222) rfl (by kernel_rfl) (by kernel_rfl) (by kernel_rfl) (fun _ _ _ h => h) rfl (by rfl) ?yrf222 hS ?rrf222
          case yrf222 => (intro wz hz; have q2 : wz.cell? ⟨b, o + k * 4 + 2, none⟩ = some (.int .u64 (x.2.1 : Int)) := (hz.cell (p := ⟨b, o + k * 4 + 2, none⟩) hb).trans (R1.out 2 _ rfl); have q3 : wz.cell? ⟨b, o + k * 4 + 3, none⟩ = some (.int .i64 x.2.2) := (hz.cell (p := ⟨b, o + k * 4 + 3, none⟩) hb).trans (R1.out 3 _ rfl); go_simp <;> with_reducible rfl)
          simp only [List.setIfInBounds_toArray, List.set_cons_zero, List.set_cons_succ]
          refine wpAnyH_ready (rs := [23]) (by kernel_rfl) (by simp) ?_
          refine AllReadyH.cons rfl (fun K hK => ?_) AllReadyH.nil
          go_simp
          refine (refTog_any x.2.2 m _).mono ?_
          rintro e y9 ⟨rfl, hy9⟩
          subst hy9
          have hb9 : True := trivial
          rw [HTG.out]
          refine hK.out _ _ (hS) (fun hT => ?_)
          clear hK hb9 hS
          have hS := hT
          clear hT
          refine takeH (i := 24) (d := 40) (v := ?vrf224) rfl (by kernel_rfl) (by kernel_rfl) (by kernel_rfl) (fun _ _ _ h => h) rfl (by rfl) ?yrf224 hS ?rrf224
          case yrf224 => (intro wz hz; have q2 : wz.cell? ⟨b, o + k * 4 + 2, none⟩ = some (.int .u64 (x.2.1 : Int)) := (hz.cell (p := ⟨b, o + k * 4 + 2, none⟩) hb).trans (R1.out 2 _ rfl); have q3 : wz.cell? ⟨b, o + k * 4 + 3, none⟩ = some (.int .i64 x.2.2) := (hz.cell (p := ⟨b, o + k * 4 + 3, none⟩) hb).trans (R1.out 3 _ rfl); go_simp <;> with_reducible rfl)
          simp only [List.setIfInBounds_toArray, List.set_cons_zero, List.set_cons_succ]
          refine takeH (i := 25) (d := 41) (v := ?vrf225) rfl (by kernel_rfl) (by kernel_rfl) (by kernel_rfl) (fun _ _ _ h => h) rfl (by rfl) ?yrf225 hS ?rrf225
          case yrf225 => (intro wz hz; have q2 : wz.cell? ⟨b, o + k * 4 + 2, none⟩ = some (.int .u64 (x.2.1 : Int)) := (hz.cell (p := ⟨b, o + k * 4 + 2, none⟩) hb).trans (R1.out 2 _ rfl); have q3 : wz.cell? ⟨b, o + k * 4 + 3, none⟩ = some (.int .i64 x.2.2) := (hz.cell (p := ⟨b, o + k * 4 + 3, none⟩) hb).trans (R1.out 3 _ rfl); go_simp <;> with_reducible rfl)
          simp only [List.setIfInBounds_toArray, List.set_cons_zero, List.set_cons_succ]
          refine wpAnyH_done (by kernel_rfl) ?_ _
          have HS := Lib.hid (HR.out.trans (hS.mono HR.out.size))
          clear hS
          cases tg
          · go_wp2_with fail
            go_ret
            exact ⟨by rw [freeR_at hl (by rw [HX.out]; exact HB2.out)]; rfl, HB.out.trans (HS.out.mono HB.out.size)⟩
          · go_wp2_with fail
            exact ⟨⟨k + 1, by omega, by go_num, HS, Lib.hid (sc_next (p := fun c => barR t r m c) HN.out hl (by rw [HX.out]; exact HB2.out))⟩, by simp [intOf]; omega⟩
    · obtain rfl : k = n := by omega
      go_wp2_with fail
      go_ret
      exact ⟨by rw [freeR_none (fun j hj => HN.out j hj (by omega))]; rfl, HB.out.trans (HR.out.mono HB.out.size)⟩
end Go.Proofs.YthbifccankfngaaGreatDoor
