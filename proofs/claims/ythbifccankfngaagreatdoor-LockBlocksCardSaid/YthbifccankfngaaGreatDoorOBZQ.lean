/-
  The reference's Blocks.
  Conditions: at most 100000 claims.
-/
import Derived.Test.YthbifccankfngaaGreatDoorR13ZQ
import Derived.Test.YthbifccankfngaaGreatDoorY1
namespace Go.Proofs.YthbifccankfngaaGreatDoor
open Go.RowKit Go.Shelf
attribute [local go_sem] Oper.semAt_some
set_option maxRecDepth 20000

theorem wait_idx : ∀ (q : List Cl) (t : Nat), (waitR q t = none ∧ wIdx q t = -1) ∨ ∃ (i : Nat) (h : i < q.length), wIdx q t = (i : Int) ∧ waitR q t = some q[i] ∧ q.takeWhile (fun d => d.2.1 != t) = q.take i
  | [], t => .inl ⟨rfl, rfl⟩
  | d :: q, t => by
    by_cases hd : d.2.1 = t
    · refine .inr ⟨0, Nat.zero_lt_succ _, ?_, ?_, ?_⟩
      · unfold wIdx
        rw [List.findIdx?_cons]
        simp [hd]
      · unfold waitR
        rw [List.find?_cons]
        simp [hd]
      · rw [List.takeWhile_cons]
        simp [hd]
    · have e1 : (d.2.1 == t) = false := by simpa using hd
      have e2 : (d.2.1 != t) = true := by simpa using hd
      have ew : waitR (d :: q) t = waitR q t := by
        unfold waitR
        rw [List.find?_cons, e1]
      have ei : (d :: q).findIdx? (fun c => c.2.1 == t) = (q.findIdx? fun c => c.2.1 == t).map (· + 1) := by
        rw [List.findIdx?_cons, e1]
        rfl
      rcases wait_idx q t with ⟨h1, h2⟩ | ⟨i, hi, h1, h2, h3⟩
      · refine .inl ⟨ew.trans h1, ?_⟩
        unfold wIdx at h2 ⊢
        rw [ei]
        cases hf : q.findIdx? fun c => c.2.1 == t with
        | none => rfl
        | some k =>
          rw [hf] at h2
          exact absurd h2 (by show ¬ ((k : Int) = -1); omega)
      · refine .inr ⟨i + 1, by simpa using hi, ?_, by rw [ew, h2]; rfl, ?_⟩
        · unfold wIdx at h1 ⊢
          rw [ei]
          cases hf : q.findIdx? fun c => c.2.1 == t with
          | none =>
            rw [hf] at h1
            exact absurd h1 (by show ¬ ((-1 : Int) = (i : Int)); omega)
          | some k =>
            rw [hf] at h1
            have : (k : Int) = (i : Int) := h1
            show ((k + 1 : Nat) : Int) = ((i + 1 : Nat) : Int)
            omega
        · rw [List.takeWhile_cons, if_pos e2, h3]
          rfl
theorem any_take {p : Cl → Bool} {q : List Cl} {i k : Nat} (hk : k < q.length) (hki : k < i) (h : p q[k] = true) : (q.take i).any p = true :=
  List.any_eq_true.2 ⟨q[k], List.mem_take_iff_getElem.2 ⟨k, by omega, rfl⟩, h⟩
theorem none_take {p : Cl → Bool} {q : List Cl} {i : Nat} (h : ∀ (j : Nat) (hj : j < q.length), j < i → p q[j] = false) : (q.take i).any p = false :=
  List.any_eq_false.2 fun x hx => by
    obtain ⟨j, hj, rfl⟩ := List.mem_take_iff_getElem.1 hx
    rw [h j (by omega) (by omega)]
    decide
def aheadR (r : Rs) (o : Nat) (d : Cl) : Bool := d.1 == r && d.2.1 == o
theorem blocks_val {u : TR} {t o : Nat} {c : Cl} (hw : waitR u.queue t = some c) : blocksR u t o = if o == t then false else (decide (0 < modeR u.held o c.1) && !tog (modeR u.held o c.1) c.2.2) || (u.queue.takeWhile fun d => d.2.1 != t).any (aheadR c.1 o) := by
  unfold blocksR
  rw [hw]
  rfl
set_option maxHeartbeats 6400000 in
theorem rBlocks_any (A1 A2 : Option Addr) (n1 c1 n2 c2 : Nat) (u : TR) (t o : Nat) (w : World) (h1 : Lz (fun _ => False) w 4 A1 n1 (rcL u.held)) (h2 : Lz (fun _ => False) w 4 A2 n2 (rcL u.queue)) (hn1 : n1 ≤ 100000) (hn2 : n2 ≤ 100000) :
    Calls Tryz.prog 17 #[.agg (rtA A1 A2 n1 c1 n2 c2), .int .u64 (t : Int), .int .u64 (o : Int)] w (RetB w (.bool (blocksR u t o))) := by
  obtain ⟨b3, hb3⟩ : ∃ b3, w.heap.size = b3 := ⟨_, rfl⟩
  have HB := Lib.hid (show Below w.heap.size w (w.alloc (.cells (rtA A1 A2 n1 c1 n2 c2) 28)) from (Below.refl _ w).alloc (Nat.le_refl _) _)
  have HL1 := Lib.hid (h1.below HB.out)
  have HL2 := Lib.hid (h2.below HB.out)
  have A3 := Lib.hid (At.new w 28 (rtA A1 A2 n1 c1 n2 c2))
  have hlen := h2.rclen
  clear h1 h2
  go_enter Tryz.func17, Tryz.ntmps17
  go_upto_region 1 with fail
  rw [hb3] at A3
  generalize w.alloc (.cells (rtA A1 A2 n1 c1 n2 c2) 28) = z at HB HL1 HL2 A3 ⊢
  clear hb3
  have HW := Lib.hid (rWaits_any A1 A2 n1 c1 n2 c2 u.queue t z HL2.out hn2)
  have hwi := wait_idx u.queue t
  obtain ⟨ix, hix⟩ : ∃ ix, wIdx u.queue t = ix := ⟨_, rfl⟩
  rw [hix] at HW hwi
  clear hix
  go_upto_region 2 with (refine wpList_load_at 28 11 (.tmp 3) rfl rfl rfl b3 rfl _ 2 strT rfl A3.out ?_)
  refine HW.out.mono ?_
  rintro e y1 ⟨rfl, hy1⟩
  have Y1 := Lib.hid hy1
  clear hy1 HW
  rcases hwi with ⟨hw, rfl⟩ | ⟨i, hi, rfl, hw, htk⟩
  · have HBV : Hid (blocksR u t o = false) := by show _ = _; unfold blocksR; rw [hw]
    clear hw
    go_wp2_with fail
    go_ret
    exact ⟨by rw [HBV.out]; rfl, HB.out.trans (Y1.out.mono HB.out.size)⟩
  have hBV := blocks_val (o := o) hw
  rw [htk] at hBV
  have HBV := Lib.hid hBV
  have HHI := Lib.hid hi
  have d0 : decide ((i : Int) < 0) = false := by simp
  clear hw htk hBV
  by_cases hot : o = t
  · have e : ((o : Int) == (t : Int)) = true := by rw [nat_beq, hot, beq_self_eq_true]
    have HOT := Lib.hid hot
    clear hot
    go_wp2_with fail
    go_ret
    exact ⟨by rw [HBV.out, if_pos (by simpa using HOT.out)]; rfl, HB.out.trans (Y1.out.mono HB.out.size)⟩
  have e : ((o : Int) == (t : Int)) = false := by rw [nat_beq]; simpa using hot
  have hB2 := HBV.out
  rw [if_neg (by simpa using hot)] at hB2
  have HB2 := Lib.hid hB2
  clear hB2 HBV hot
  have A3Y := Lib.hid (A3.out.under Y1.out A3.out.lt)
  have HL1Y := Lib.hid (HL1.out.below Y1.out)
  have HL2Y := Lib.hid (HL2.out.below Y1.out)
  have HBY := Lib.hid (HB.out.trans (Y1.out.mono HB.out.size))
  have hlt : i < n2 := by omega
  obtain ⟨b, o1, hl, rfl, hb0, hr⟩ := HL2Y.out.rc hlt
  obtain ⟨c, hc⟩ : ∃ c, u.queue[i] = c := ⟨_, rfl⟩
  rw [hc] at hr HB2
  have RC := Lib.hid hr
  have p1 : y1.cell? ⟨b3, 1, none⟩ = some (.slice (some ⟨b, o1, none⟩) n2 c2) := A3Y.out.cell 1
  have A8 := Lib.hid (At.new y1 72 (rcA c))
  have B8 := Lib.hid ((Below.refl y1.heap.size y1).alloc (Nat.le_refl _) (.cells (rcA c) 72))
  clear hr hc A3 HL1 HL2 Y1 HB
  go_upto_region 5 with (first
    | refine wpList_load_in 72 25 (.tmp 24) rfl rfl rfl b (o1 + i * 4) rfl (rcV c) 4 strrC rfl RC.out ?_
    | refine wpList_store_new 72 (.tmp 8) (.tmp 25) rfl rfl rfl _ y1 rfl rfl (rcA c) #[.int .i64 0, .int .u64 0, .int .u64 0, .int .i64 0] 4 rfl strrC rfl rfl (rcA_one c) rfl ?_)
  clear p1 RC
  have A3Z := Lib.hid (A3Y.out.under B8.out A3Y.out.lt)
  have HL1Z := Lib.hid (HL1Y.out.below B8.out)
  have HL2Z := Lib.hid (HL2Y.out.below B8.out)
  have HBZ := Lib.hid (HBY.out.trans (B8.out.mono HBY.out.size))
  generalize y1.alloc (.cells (rcA c) 72) = z8 at A8 A3Z HL1Z HL2Z HBZ ⊢
  generalize y1.heap.size = b8 at A8 ⊢
  clear A3Y HL1Y HL2Y HBY B8
  obtain ⟨md, hmd⟩ : ∃ md, modeR u.held o c.1 = md := ⟨_, rfl⟩
  have HM := rMode_any A1 n1 c1 u.held o c.1 z8 HL1Z.out hn1
  rw [hmd] at HM HB2
  have HMO := Lib.hid HM
  clear hmd HM
  have p0 : z8.cell? ⟨b3, 0, none⟩ = some (.slice A1 n1 c1) := A3Z.out.cell 0
  go_upto_region 6 with (refine wpList_load_in 33 30 (.tmp 29) rfl rfl rfl b8 0 rfl (encR c.1) 2 strR rfl (rcA_range A8.out) ?_)
  refine HMO.out.mono ?_
  rintro e y2 ⟨rfl, hy2⟩
  have A3W := Lib.hid (A3Z.out.under hy2 A3Z.out.lt)
  have A8W := Lib.hid (A8.out.under hy2 A8.out.lt)
  have HL2W := Lib.hid (HL2Z.out.below hy2)
  have HBW := Lib.hid (HBZ.out.trans (hy2.mono HBZ.out.size))
  have p3 : y2.cell? ⟨b8, 3, none⟩ = some (.int .i64 c.2.2) := A8W.out.cell 3
  clear hy2 A3Z A8 HL1Z HL2Z HBZ p0 HMO
  obtain ⟨tg, htg⟩ : ∃ tg, tog md c.2.2 = tg := ⟨_, rfl⟩
  rw [htg] at HB2
  have HTG := Lib.hid htg
  clear htg
  obtain ⟨cd, hcd⟩ : ∃ cd, (decide (0 < md) && !tg) = cd := ⟨_, rfl⟩
  rw [hcd] at HB2
  have HCD := Lib.hid hcd
  have HYS := Lib.hid (Below.refl y2.heap.size y2)
  clear hcd
  go_upto_region 6 with fail
  go_cut [40] from 32 to 40 (fun s40 wx => s40 = .bool cd ∧ wx = y2)
  case first =>
    by_cases h0 : 0 < md
    · have d1 : decide (0 < md) = true := by simpa using h0
      go_wp2_with fail
      refine (refTog_any md c.2.2 _).mono ?_
      rintro e y9 ⟨rfl, hy9⟩
      subst hy9
      rw [HTG.out]
      cases tg
      · go_wp2_with fail
        go_meet
        exact ⟨by rw [← HCD.out, d1]; rfl, rfl⟩
      · go_wp2_with fail
        go_meet
        exact ⟨by rw [← HCD.out, d1]; rfl, rfl⟩
    · have d1 : decide (0 < md) = false := by simpa using h0
      go_wp2_with fail
      go_meet
      exact ⟨by rw [← HCD.out, d1]; rfl, rfl⟩
  case rest =>
  obtain ⟨rfl, hwc⟩ := hcut
  subst hwc
  cases cd
  · go_wp2_with fail
    go_loopw [10] (fun j wr => ScL wc (aheadR c.1 o) u.queue i j wr) (fun j _ => i - (intOf j).toNat)
    case atStart => exact sc_start wc _ u.queue i
    case round =>
      obtain ⟨k, hk, rfl, HR, HN⟩ := hrel
      by_cases hki : k < i
      · have A3R := Lib.hid (A3W.out.under HR.out A3W.out.lt)
        have A8R := Lib.hid (A8W.out.under HR.out A8W.out.lt)
        have hkn : k < n2 := by omega
        obtain ⟨b', o', hlk, hbe, hbk, hrk⟩ := HL2W.out.rc hkn
        injection hbe with hbe
        injection hbe with hbe hoe
        subst hbe
        subst hoe
        have hb : b < wr.heap.size := Nat.lt_of_lt_of_le hbk HR.out.size
        have R1 : Hid (wr.rangeAt b (o1 + k * 4) (rcV u.queue[k])) := fun j v hv => (HR.out.cell (p := ⟨b, o1 + k * 4 + j, none⟩) hbk).trans (hrk j v hv)
        obtain ⟨x, hx⟩ : ∃ x, u.queue[k] = x := ⟨_, rfl⟩
        rw [hx] at R1
        have R0 : Hid (wr.rangeAt b (o1 + k * 4) (encR x.1)) := fun j v hv => R1.out j v (by
          match j, hv with
          | 0, hv => exact hv
          | 1, hv => exact hv)
        have HX := Lib.hid hx
        clear hx hrk
        go_upto_region 11 with fail
        obtain ⟨bq, hbq⟩ : ∃ bq, (x.1 == c.1) = bq := ⟨_, rfl⟩
        obtain ⟨bt, hbt⟩ : ∃ bt, (x.2.1 == o) = bt := ⟨_, rfl⟩
        have HBQ := Lib.hid hbq
        have et : ((x.2.1 : Int) == (o : Int)) = bt := by rw [nat_beq, hbt]
        have HAH : Hid (aheadR c.1 o x = (bq && bt)) := by show _ = _; unfold aheadR; rw [hbq, hbt]
        clear hbq hbt
        cases bq
        · have HAF : Hid (aheadR c.1 o x = false) := HAH.out
          refine wp_region_held_drew (S := Below wr.heap.size wr) (by kernel_rfl) ((Below.refl _ wr).drew) (fun hS => ?_)
          refine tk 0 hS ?_
          refine tk 1 hS ?_ (hy := by intro wz hz; have p1 : wz.cell? ⟨b3, 1, none⟩ = some (.slice (some ⟨b, o1, none⟩) n2 c2) := (A3R.out.under hz A3R.out.lt).cell 1; have q2 : wz.cell? ⟨b, o1 + k * 4 + 2, none⟩ = some (.int .u64 (x.2.1 : Int)) := (hz.cell (p := ⟨b, o1 + k * 4 + 2, none⟩) hb).trans (R1.out 2 _ rfl); go_simp <;> with_reducible rfl)
          refine tk 2 hS ?_
          refine tk 3 hS ?_
          refine tk 4 hS ?_
          refine tk (v := .agg (rsA x.1)) 5 hS ?_ (hy := by intro wz hz; have p1 : wz.cell? ⟨b3, 1, none⟩ = some (.slice (some ⟨b, o1, none⟩) n2 c2) := (A3R.out.under hz A3R.out.lt).cell 1; have q2 : wz.cell? ⟨b, o1 + k * 4 + 2, none⟩ = some (.int .u64 (x.2.1 : Int)) := (hz.cell (p := ⟨b, o1 + k * 4 + 2, none⟩) hb).trans (R1.out 2 _ rfl); exact exec_load_in 33 (.tmp 50) rfl b (o1 + k * 4) rfl (encR x.1) 2 strR rfl (fun j v hv => (hz.cell (p := ⟨b, o1 + k * 4 + j, none⟩) hb).trans (R0.out j v hv)))
          refine tk 6 hS ?_
          refine tk (v := .agg (rsA c.1)) 7 hS ?_ (hy := by intro wz hz; have p1 : wz.cell? ⟨b3, 1, none⟩ = some (.slice (some ⟨b, o1, none⟩) n2 c2) := (A3R.out.under hz A3R.out.lt).cell 1; have q2 : wz.cell? ⟨b, o1 + k * 4 + 2, none⟩ = some (.int .u64 (x.2.1 : Int)) := (hz.cell (p := ⟨b, o1 + k * 4 + 2, none⟩) hb).trans (R1.out 2 _ rfl); exact exec_load_in 33 (.tmp 52) rfl b8 0 rfl (encR c.1) 2 strR rfl (rcA_range (A8R.out.under hz A8R.out.lt)))
          refine tk (v := .bool false) 8 hS ?_ (hy := by intro wz hz; have p1 : wz.cell? ⟨b3, 1, none⟩ = some (.slice (some ⟨b, o1, none⟩) n2 c2) := (A3R.out.under hz A3R.out.lt).cell 1; have q2 : wz.cell? ⟨b, o1 + k * 4 + 2, none⟩ = some (.int .u64 (x.2.1 : Int)) := (hz.cell (p := ⟨b, o1 + k * 4 + 2, none⟩) hb).trans (R1.out 2 _ rfl); exact exec_eqRb (.tmp 51) (.tmp 53) rfl x.1 c.1 _ HBQ.out rfl rfl)
          refine tk 9 hS ?_
          refine sk 10 hS ?_
          refine sk 11 hS ?_
          refine sk 12 hS ?_
          refine sk 13 hS ?_
          refine sk 14 hS ?_
          refine sk 15 hS ?_
          refine sk 16 hS ?_
          refine sk 17 hS ?_
          refine tk 18 hS ?_
          refine wpAnyH_done (by kernel_rfl) ?_ _
          have HS := Lib.hid (HR.out.trans (hS.mono HR.out.size))
          clear hS
          go_wp2_with fail
          exact ⟨⟨k + 1, by omega, by go_num, HS, Lib.hid (sc_next (p := aheadR c.1 o) HN.out hlk (by rw [HX.out]; exact HAF.out))⟩, by simp [intOf]; omega⟩
        · have HAT : Hid (aheadR c.1 o x = bt) := HAH.out
          refine wp_region_held_drew (S := Below wr.heap.size wr) (by kernel_rfl) ((Below.refl _ wr).drew) (fun hS => ?_)
          refine tk 0 hS ?_
          refine tk 1 hS ?_ (hy := by intro wz hz; have p1 : wz.cell? ⟨b3, 1, none⟩ = some (.slice (some ⟨b, o1, none⟩) n2 c2) := (A3R.out.under hz A3R.out.lt).cell 1; have q2 : wz.cell? ⟨b, o1 + k * 4 + 2, none⟩ = some (.int .u64 (x.2.1 : Int)) := (hz.cell (p := ⟨b, o1 + k * 4 + 2, none⟩) hb).trans (R1.out 2 _ rfl); go_simp <;> with_reducible rfl)
          refine tk 2 hS ?_
          refine tk 3 hS ?_
          refine tk 4 hS ?_
          refine tk (v := .agg (rsA x.1)) 5 hS ?_ (hy := by intro wz hz; have p1 : wz.cell? ⟨b3, 1, none⟩ = some (.slice (some ⟨b, o1, none⟩) n2 c2) := (A3R.out.under hz A3R.out.lt).cell 1; have q2 : wz.cell? ⟨b, o1 + k * 4 + 2, none⟩ = some (.int .u64 (x.2.1 : Int)) := (hz.cell (p := ⟨b, o1 + k * 4 + 2, none⟩) hb).trans (R1.out 2 _ rfl); exact exec_load_in 33 (.tmp 50) rfl b (o1 + k * 4) rfl (encR x.1) 2 strR rfl (fun j v hv => (hz.cell (p := ⟨b, o1 + k * 4 + j, none⟩) hb).trans (R0.out j v hv)))
          refine tk 6 hS ?_
          refine tk (v := .agg (rsA c.1)) 7 hS ?_ (hy := by intro wz hz; have p1 : wz.cell? ⟨b3, 1, none⟩ = some (.slice (some ⟨b, o1, none⟩) n2 c2) := (A3R.out.under hz A3R.out.lt).cell 1; have q2 : wz.cell? ⟨b, o1 + k * 4 + 2, none⟩ = some (.int .u64 (x.2.1 : Int)) := (hz.cell (p := ⟨b, o1 + k * 4 + 2, none⟩) hb).trans (R1.out 2 _ rfl); exact exec_load_in 33 (.tmp 52) rfl b8 0 rfl (encR c.1) 2 strR rfl (rcA_range (A8R.out.under hz A8R.out.lt)))
          refine tk (v := .bool true) 8 hS ?_ (hy := by intro wz hz; have p1 : wz.cell? ⟨b3, 1, none⟩ = some (.slice (some ⟨b, o1, none⟩) n2 c2) := (A3R.out.under hz A3R.out.lt).cell 1; have q2 : wz.cell? ⟨b, o1 + k * 4 + 2, none⟩ = some (.int .u64 (x.2.1 : Int)) := (hz.cell (p := ⟨b, o1 + k * 4 + 2, none⟩) hb).trans (R1.out 2 _ rfl); exact exec_eqRb (.tmp 51) (.tmp 53) rfl x.1 c.1 _ HBQ.out rfl rfl)
          refine tk 9 hS ?_
          refine tk 10 hS ?_
          refine tk 11 hS ?_ (hy := by intro wz hz; have p1 : wz.cell? ⟨b3, 1, none⟩ = some (.slice (some ⟨b, o1, none⟩) n2 c2) := (A3R.out.under hz A3R.out.lt).cell 1; have q2 : wz.cell? ⟨b, o1 + k * 4 + 2, none⟩ = some (.int .u64 (x.2.1 : Int)) := (hz.cell (p := ⟨b, o1 + k * 4 + 2, none⟩) hb).trans (R1.out 2 _ rfl); go_simp <;> with_reducible rfl)
          refine tk 12 hS ?_
          refine tk 13 hS ?_
          refine tk 14 hS ?_
          refine tk 15 hS ?_ (hy := by intro wz hz; have p1 : wz.cell? ⟨b3, 1, none⟩ = some (.slice (some ⟨b, o1, none⟩) n2 c2) := (A3R.out.under hz A3R.out.lt).cell 1; have q2 : wz.cell? ⟨b, o1 + k * 4 + 2, none⟩ = some (.int .u64 (x.2.1 : Int)) := (hz.cell (p := ⟨b, o1 + k * 4 + 2, none⟩) hb).trans (R1.out 2 _ rfl); go_simp <;> with_reducible rfl)
          refine tk 16 hS ?_
          refine tk 17 hS ?_
          refine tk 18 hS ?_
          refine wpAnyH_done (by kernel_rfl) ?_ _
          have HS := Lib.hid (HR.out.trans (hS.mono HR.out.size))
          clear hS
          cases bt
          · go_wp2_with fail
            exact ⟨⟨k + 1, by omega, by go_num, HS, Lib.hid (sc_next (p := aheadR c.1 o) HN.out hlk (by rw [HX.out]; exact HAT.out))⟩, by simp [intOf]; omega⟩
          · go_wp2_with fail
            go_ret
            exact ⟨by rw [HB2.out, any_take hlk hki (by rw [HX.out]; exact HAT.out)]; rfl, HBW.out.trans (HS.out.mono HBW.out.size)⟩
      · obtain rfl : k = i := by omega
        go_wp2_with fail
        go_ret
        exact ⟨by rw [HB2.out, none_take HN.out]; rfl, HBW.out.trans (HR.out.mono HBW.out.size)⟩
  · go_wp2_with fail
    go_ret
    exact ⟨by rw [HB2.out]; rfl, HBW.out⟩
end Go.Proofs.YthbifccankfngaaGreatDoor
