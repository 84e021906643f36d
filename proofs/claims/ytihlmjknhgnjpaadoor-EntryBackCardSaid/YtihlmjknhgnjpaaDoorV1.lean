/-
  Walks: EntryRecs.
  Conditions: none beyond those that each theorem names.
-/
import Derived.Test.YtihlmjknhgnjpaaDoorU1
namespace Go.Proofs.YtihlmjknhgnjpaaDoor
open Go.RowKit
set_option maxRecDepth 20000

set_option maxHeartbeats 800000 in
theorem recs_big (r : Rc) (A : Option Addr) (n c : Nat) (w : World) (h : 15 < r.val.length ∨ 200 < n) : Calls Tryd.prog 5 #[.agg #[.int .u64 (r.id : Nat), .int .u64 (r.key : Nat), .int .u32 (r.x : Nat), .int .u32 (r.y : Nat), .string (strOf r.val), .bool r.ghost], .slice A n c] w (RetQ w true) := by
  have hs := strOf_size r.val
  have B0 := Lib.hid ((Below.refl w.heap.size w).alloc (Nat.le_refl _) (.cells #[.int .u64 (r.id : Nat), .int .u64 (r.key : Nat), .int .u32 (r.x : Nat), .int .u32 (r.y : Nat), .string (strOf r.val), .bool r.ghost] 25))
  by_cases h1 : 15 < r.val.length
  · go_enter Tryd.func5, Tryd.ntmps5
    go_wp2_with fail
    refine (works_any _).mono ?_
    rintro e w1 ⟨rfl, hb⟩
    have B1 := Lib.hid (B0.out.trans (hb.mono (by simp)))
    clear hb
    go_wp2_with fail
    go_ret
    exact ⟨rfl, B1.out⟩
  · have h2 : 200 < n := by omega
    go_enter Tryd.func5, Tryd.ntmps5
    go_wp2_with fail
    refine (works_any _).mono ?_
    rintro e w1 ⟨rfl, hb⟩
    have B1 := Lib.hid (B0.out.trans (hb.mono (by simp)))
    clear hb
    go_wp2_with fail
    go_ret
    exact ⟨rfl, B1.out⟩

theorem rr_head {l : List UInt8} (h : rrOk (l, false) = true) : 41 ≤ l.length ∧ l.take 41 = recL (rrRec (l, false)) := by
  obtain ⟨h1, _, _, h4⟩ := rr_inv h
  have hl := recL_length _ h4
  have e : l = recL (rrRec (l, false)) ++ (q6 (l, false)).1 := congrArg Prod.fst h1
  constructor
  · rw [e, List.length_append, hl]; omega
  · conv => lhs; rw [e]
    rw [List.take_append_of_le_length (by omega), List.take_of_length_le (by omega)]

theorem readRec_yes (g : Nat) (s : RS) (w : World) (hr : Rdr w g s.1 s.2) (hl : s.1.length ≤ 10000) (hok : rrOk s = true) : Calls Tryd.prog 18 #[.pointer (some ⟨g, 0, none⟩)] w (RrYes w g s) := by
  refine (readRec_any g s w hr hl).mono ?_
  intro e w' h
  rw [Rr, if_pos hok] at h
  exact h
theorem readRec_no (g : Nat) (s : RS) (w : World) (hr : Rdr w g s.1 s.2) (hl : s.1.length ≤ 10000) (hok : ¬ rrOk s = true) : Calls Tryd.prog 18 #[.pointer (some ⟨g, 0, none⟩)] w (RrNo w g s) := by
  refine (readRec_any g s w hr hl).mono ?_
  intro e w' h
  rw [Rr, if_neg hok] at h
  exact h

set_option maxHeartbeats 6400000 in
theorem recs_law (r : Rc) (A : Option Addr) (n c : Nat) (l : List UInt8) (w : World) (hr : r.ok) (hv : r.val.length ≤ 15) (hn : n ≤ 200) (hc : n ≤ c) (hm : c ≤ maxLen) (h : Lies w w.heap.size 1 A n (BC l)) :
    Calls Tryd.prog 5 #[.agg #[.int .u64 (r.id : Nat), .int .u64 (r.key : Nat), .int .u32 (r.x : Nat), .int .u32 (r.y : Nat), .string (strOf r.val), .bool r.ghost], .slice A n c] w (RetQ w true) := by
  have hs := strOf_size r.val
  have hl : l.length = n := by have := h.len; rw [BC_length] at this; omega
  have HL := Lib.hid hl
  have B0 := Lib.hid ((Below.refl w.heap.size w).alloc (Nat.le_refl _) (.cells #[.int .u64 (r.id : Nat), .int .u64 (r.key : Nat), .int .u32 (r.x : Nat), .int .u32 (r.y : Nat), .string (strOf r.val), .bool r.ghost] 25))
  have X0 := Lib.hid (At.new w 25 #[.int .u64 (r.id : Nat), .int .u64 (r.key : Nat), .int .u32 (r.x : Nat), .int .u32 (r.y : Nat), .string (strOf r.val), .bool r.ghost])
  have L0 := Lib.hid h
  have RR := Lib.hid (rr_put r [] hr hv)
  rw [List.append_nil] at RR
  unfold maxLen at hm
  clear h hl
  go_enter Tryd.func5, Tryd.ntmps5
  go_wp2_with (refine wpList_load_at 25 20 (.tmp 2) rfl rfl rfl w.heap.size rfl #[.int .u64 (r.id : Nat), .int .u64 (r.key : Nat), .int .u32 (r.x : Nat), .int .u32 (r.y : Nat), .string (strOf r.val), .bool r.ghost] 6 str25 rfl X0.out ?_)
  refine (rec_any r _ hr hv).mono ?_
  intro e w1 h1
  obtain ⟨A1, n1, c1, rfl, ho1, hb1⟩ := h1.n
  obtain rfl : n1 = 41 := by rw [← own_n ho1]; exact recL_length r hv
  have L1 := Lib.hid (Lies.of_own ho1)
  have X1 := Lib.hid (X0.out.under hb1 X0.out.lt)
  have B1 := Lib.hid (B0.out.trans (hb1.mono (by simp)))
  clear h1 ho1 hb1 B0 X0
  go_wp2_with fail
  refine (read_any w1.heap.size 41 c1 A1 (recL r) w1 L1.out (Nat.le_refl _) (by omega)).mono ?_
  rintro e w2 ⟨g2, rfl, hg2, hrd2, hb2⟩
  have X2 := Lib.hid (X1.out.under hb2 X1.out.lt)
  have B2 := Lib.hid (B1.out.trans (hb2.mono B1.out.size))
  have L2 := Lib.hid (L1.out.under hb2)
  have s2 := hb2.size
  have s1 := B1.out.size
  have sx := X1.out.lt
  clear hb2 X1 B1 L1
  go_wp2_with fail
  refine (readRec_yes g2 (recL r, false) w2 hrd2 (by show (recL r).length ≤ 10000; rw [recL_length r hv]; omega) RR.out.1).mono ?_
  rintro e w3 ⟨rfl, _, hgr⟩
  rw [RR.out.2.1]
  have gB : ∀ B', B' ≤ g2 → B' ≤ w2.heap.size → Below B' w2 w3 := fun B' h1 h2 => (Below.refl B' w2).grown hgr h2 (fun k hk => by injection hk with hk; omega)
  have X3 := Lib.hid ((X2.out.under (gB (w.heap.size + 1) (by omega) (by omega)) (by omega)).alloc (.cells #[.int .u64 (r.id : Nat), .int .u64 (r.key : Nat), .int .u32 (r.x : Nat), .int .u32 (r.y : Nat), .string (strOf r.val), .bool r.ghost] 25))
  have B3 := Lib.hid ((B2.out.trans (gB _ (by omega) B2.out.size)).alloc (Nat.le_trans B2.out.size hgr.size) (.cells #[.int .u64 (r.id : Nat), .int .u64 (r.key : Nat), .int .u32 (r.x : Nat), .int .u32 (r.y : Nat), .string (strOf r.val), .bool r.ghost] 25))
  have L3 := Lib.hid ((L2.out.under (gB w1.heap.size hg2 s2)).alloc (by have := hgr.size; omega) (.cells #[.int .u64 (r.id : Nat), .int .u64 (r.key : Nat), .int .u32 (r.x : Nat), .int .u32 (r.y : Nat), .string (strOf r.val), .bool r.ghost] 25))
  have R3 := Lib.hid (At.new w3 25 #[.int .u64 (r.id : Nat), .int .u64 (r.key : Nat), .int .u32 (r.x : Nat), .int .u32 (r.y : Nat), .string (strOf r.val), .bool r.ghost])
  have s3 := hgr.size
  clear hgr gB X2 B2 L2 hrd2
  go_wp2_with (first
    | refine wpList_store_new 25 (.tmp 6) (.tmp 26) rfl rfl rfl w3.heap.size w3 rfl rfl #[.int .u64 (r.id : Nat), .int .u64 (r.key : Nat), .int .u32 (r.x : Nat), .int .u32 (r.y : Nat), .string (strOf r.val), .bool r.ghost] _ 6 rfl str25 rfl rfl (rc_one _) rfl ?_
    | refine wpList_load_at 25 29 (.tmp 2) rfl rfl rfl w.heap.size rfl #[.int .u64 (r.id : Nat), .int .u64 (r.key : Nat), .int .u32 (r.x : Nat), .int .u32 (r.y : Nat), .string (strOf r.val), .bool r.ghost] 6 str25 rfl X3.out ?_)
  generalize hV : w3.alloc (.cells #[.int .u64 (r.id : Nat), .int .u64 (r.key : Nat), .int .u32 (r.x : Nat), .int .u32 (r.y : Nat), .string (strOf r.val), .bool r.ghost] 25) = w4 at *
  have s4 : w3.heap.size < w4.heap.size := by rw [← hV]; simp
  clear hV
  refine (refRec_any r w4 hr hv).mono ?_
  intro e w5 h5
  obtain ⟨A5, n5, c5, rfl, ho5, hb5⟩ := h5.n
  obtain rfl : n5 = 41 := by rw [← own_n ho5]; exact recL_length r hv
  have L5 := Lib.hid (Lies.of_own ho5)
  have M5 := Lib.hid (L3.out.under (hb5.mono (by omega)))
  have X5 := Lib.hid (X3.out.under hb5 X3.out.lt)
  have R5 := Lib.hid (R3.out.under hb5 R3.out.lt)
  have B5 := Lib.hid (B3.out.trans (hb5.mono B3.out.size))
  have s5 := hb5.size
  clear h5 ho5 hb5 X3 R3 B3 L3
  go_wp2_with fail
  refine (same_any _ _ _ _ _ _ _ _ _ _ w5 M5.out L5.out).mono ?_
  rintro e w6 ⟨rfl, rfl⟩
  rw [show (recL r == recL r) = true by simp]
  have qr : ∀ W, (binOp .neq 25 (.agg #[.int .u64 (r.id : Nat), .int .u64 (r.key : Nat), .int .u32 (r.x : Nat), .int .u32 (r.y : Nat), .string (strOf r.val), .bool r.ghost]) (.agg #[.int .u64 (r.id : Nat), .int .u64 (r.key : Nat), .int .u32 (r.x : Nat), .int .u32 (r.y : Nat), .string (strOf r.val), .bool r.ghost])).run Tryd.prog W = .ok (.bool false) W := fun W => by rw [neq_rc, sameR_refl]; rfl
  go_wp2_with (first
    | refine wpList_load_atG 25 38 (.tmp 6) rfl (by rfl) rfl w3.heap.size rfl #[.int .u64 (r.id : Nat), .int .u64 (r.key : Nat), .int .u32 (r.x : Nat), .int .u32 (r.y : Nat), .string (strOf r.val), .bool r.ghost] 6 str25 rfl R5.out ?_
    | refine wpList_load_atG 25 39 (.tmp 2) rfl (by rfl) rfl w.heap.size rfl #[.int .u64 (r.id : Nat), .int .u64 (r.key : Nat), .int .u32 (r.x : Nat), .int .u32 (r.y : Nat), .string (strOf r.val), .bool r.ghost] 6 str25 rfl X5.out ?_)
  clear qr
  have LB := Lib.hid (L0.out.under B5.out)
  refine (read_any w.heap.size n c A l w5 LB.out B5.out.size (by omega)).mono ?_
  rintro e w7 ⟨g7, rfl, hg7, hrd7, hb7⟩
  have B7 := Lib.hid (B5.out.trans (hb7.mono B5.out.size))
  have LB7 := Lib.hid (LB.out.under (hb7.mono B5.out.size))
  have s7 := hb7.size
  have sw := B5.out.size
  clear hb7 X5 R5 B5 L5 M5 L0 LB
  go_wp2_with fail
  by_cases hok : rrOk (l, false) = true
  · refine (readRec_yes g7 (l, false) w7 hrd7 (by show l.length ≤ 10000; rw [HL.out]; omega) hok).mono ?_
    rintro e w8 ⟨rfl, _, hgr⟩
    obtain ⟨h41, htk⟩ := rr_head hok
    obtain ⟨_, _, hrk, hrv⟩ := rr_inv hok
    rw [HL.out] at h41
    have HTK := Lib.hid htk
    generalize rrRec (l, false) = t at *
    have gB : Below w.heap.size w7 w8 := (Below.refl _ w7).grown hgr (by omega) (fun k hk => by injection hk with hk; omega)
    have B9 := Lib.hid ((B7.out.trans gB).alloc (Nat.le_trans B7.out.size hgr.size) (.cells #[.int .u64 (t.id : Nat), .int .u64 (t.key : Nat), .int .u32 (t.x : Nat), .int .u32 (t.y : Nat), .string (strOf t.val), .bool t.ghost] 25))
    have LB9 := Lib.hid ((LB7.out.under gB).alloc (by have := hgr.size; omega) (.cells #[.int .u64 (t.id : Nat), .int .u64 (t.key : Nat), .int .u32 (t.x : Nat), .int .u32 (t.y : Nat), .string (strOf t.val), .bool t.ghost] 25))
    have R9 := Lib.hid (At.new w8 25 #[.int .u64 (t.id : Nat), .int .u64 (t.key : Nat), .int .u32 (t.x : Nat), .int .u32 (t.y : Nat), .string (strOf t.val), .bool t.ghost])
    have s8 := hgr.size
    clear hgr gB B7 LB7 htk hok hrd7
    go_wp2_with (refine wpList_store_new 25 (.tmp 8) (.tmp 46) rfl rfl rfl w8.heap.size w8 rfl rfl #[.int .u64 (t.id : Nat), .int .u64 (t.key : Nat), .int .u32 (t.x : Nat), .int .u32 (t.y : Nat), .string (strOf t.val), .bool t.ghost] _ 6 rfl str25 rfl rfl (rc_one _) rfl ?_)
    have HD := Lib.hid (LB9.out.head (k := 41) h41)
    rw [BC_take, HTK.out] at HD
    have rh := fun W => run_head (P := Tryd.prog) 32 5 Tryd.underlying32 u8_size A n c 41 (by omega) W
    have hge : decide ((41 : Int) ≤ (n : Int)) = true := by simp; omega
    have hc41 : (41 : Int) ≤ (c : Int) := by omega
    refine wp_region_held_drew (S := fun z => At z w8.heap.size 25 #[.int .u64 (t.id : Nat), .int .u64 (t.key : Nat), .int .u32 (t.x : Nat), .int .u32 (t.y : Nat), .string (strOf t.val), .bool t.ghost]) (by kernel_rfl) R9.out (fun hS => ?_)
    refine takeH (i := 0) (d := 56) (v := ?vk0) rfl (by kernel_rfl) (by kernel_rfl) (by kernel_rfl) (fun _ _ _ h => h) rfl (by rfl) ?yk0 hS ?rk0
    case yk0 => (intro wz hz; go_simp <;> with_reducible rfl)
    simp only [List.setIfInBounds_toArray, List.set_cons_zero, List.set_cons_succ]
    refine takeH (i := 1) (d := 57) (v := ?vk1) rfl (by kernel_rfl) (by kernel_rfl) (by kernel_rfl) (fun _ _ _ h => h) rfl (by rfl) ?yk1 hS ?rk1
    case yk1 => (intro wz hz; go_simp <;> with_reducible rfl)
    simp only [List.setIfInBounds_toArray, List.set_cons_zero, List.set_cons_succ]
    refine takeH (i := 2) (d := 58) (v := ?vk2) rfl (by kernel_rfl) (by kernel_rfl) (by kernel_rfl) (fun _ _ _ h => h) rfl (by rfl) ?yk2 hS ?rk2
    case yk2 => (intro wz hz; go_simp <;> with_reducible rfl)
    simp only [List.setIfInBounds_toArray, List.set_cons_zero, List.set_cons_succ]
    refine takeH (i := 3) (d := 59) (v := ?vk3) rfl (by kernel_rfl) (by kernel_rfl) (by kernel_rfl) (fun _ _ _ h => h) rfl (by rfl) ?yk3 hS ?rk3
    case yk3 => (intro wz hz; go_simp <;> with_reducible rfl)
    simp only [List.setIfInBounds_toArray, List.set_cons_zero, List.set_cons_succ]
    refine takeH (i := 4) (d := 60) (v := .agg #[.int .u64 (t.id : Nat), .int .u64 (t.key : Nat), .int .u32 (t.x : Nat), .int .u32 (t.y : Nat), .string (strOf t.val), .bool t.ghost]) rfl (by kernel_rfl) (by kernel_rfl) (by kernel_rfl) (fun _ _ _ h => h) rfl (by rfl) ?yk4 hS ?rk4
    case yk4 => (intro wz hz; exact exec_load_at 25 (.tmp 8) rfl w8.heap.size rfl _ 6 str25 rfl hz)
    simp only [List.setIfInBounds_toArray, List.set_cons_zero, List.set_cons_succ]
    refine takeH (i := 6) (d := 62) (v := ?vk6) rfl (by kernel_rfl) (by kernel_rfl) (by kernel_rfl) (fun _ _ _ h => h) rfl (by rfl) ?yk6 hS ?rk6
    case yk6 => (intro wz hz; go_simp <;> with_reducible rfl)
    simp only [List.setIfInBounds_toArray, List.set_cons_zero, List.set_cons_succ]
    refine takeH (i := 7) (d := 63) (v := ?vk7) rfl (by kernel_rfl) (by kernel_rfl) (by kernel_rfl) (fun _ _ _ h => h) rfl (by rfl) ?yk7 hS ?rk7
    case yk7 => (intro wz hz; go_simp <;> with_reducible rfl)
    simp only [List.setIfInBounds_toArray, List.set_cons_zero, List.set_cons_succ]
    refine wpAnyH_ready (rs := [5]) (by kernel_rfl) (by simp) ?_
    refine AllReadyH.cons rfl (fun K hK => ?_) AllReadyH.nil
    go_simp
    refine (refRec_any t _ hrk hrv).mono ?_
    intro e wj hj
    obtain ⟨Aj, nj, cj, rfl, hoj, hbj⟩ := hj.n
    obtain rfl : nj = 41 := by rw [← own_n hoj]; exact recL_length t hrv
    have Lj := Lib.hid (Lies.of_own hoj)
    have Bj := Lib.hid (B9.out.drew.trans (hbj.mono B9.out.size))
    have HDj := Lib.hid ((HD.out.under (Below.refl _ _).drew).under (hbj.mono B9.out.size))
    have hSj := hS.under hbj hS.lt
    clear hj hoj hbj
    refine hK.out _ _ (hSj) (fun hT => ?_)
    clear hK  hS
    have hS := hT
    clear hT
    refine wpAnyH_ready (rs := [8]) (by kernel_rfl) (by simp) ?_
    refine AllReadyH.cons rfl (fun K hK => ?_) AllReadyH.nil
    go_simp
    refine (same_any _ _ _ _ _ _ _ _ _ _ wj Lj.out HDj.out).mono ?_
    rintro e wq ⟨rfl, rfl⟩
    rw [show (recL t == recL t) = true by simp]
    refine hK.out _ _ (hS) (fun hT => ?_)
    clear hK  hS
    have hS := hT
    clear hT
    refine takeH (i := 9) (d := 65) (v := ?vk9) rfl (by kernel_rfl) (by kernel_rfl) (by kernel_rfl) (fun _ _ _ h => h) rfl (by rfl) ?yk9 hS ?rk9
    case yk9 => (intro wz hz; go_simp <;> with_reducible rfl)
    simp only [List.setIfInBounds_toArray, List.set_cons_zero, List.set_cons_succ]
    refine takeH (i := 10) (d := 66) (v := ?vk10) rfl (by kernel_rfl) (by kernel_rfl) (by kernel_rfl) (fun _ _ _ h => h) rfl (by rfl) ?yk10 hS ?rk10
    case yk10 => (intro wz hz; go_simp <;> with_reducible rfl)
    simp only [List.setIfInBounds_toArray, List.set_cons_zero, List.set_cons_succ]
    refine wpAnyH_ready (rs := [11]) (by kernel_rfl) (by simp) ?_
    refine AllReadyH.cons rfl (fun K hK => ?_) AllReadyH.nil
    go_simp
    refine (works_any _).mono ?_
    rintro e wv ⟨rfl, hbv⟩
    have B12 := Lib.hid (Bj.out.trans (hbv.mono Bj.out.size))
    have hSv := hS.under hbv hS.lt
    clear hbv
    refine hK.out _ _ (hSv) (fun hT => ?_)
    clear hK  hS
    have hS := hT
    clear hT
    refine takeH (i := 12) (d := 68) (v := ?vk12) rfl (by kernel_rfl) (by kernel_rfl) (by kernel_rfl) (fun _ _ _ h => h) rfl (by rfl) ?yk12 hS ?rk12
    case yk12 => (intro wz hz; go_simp <;> with_reducible rfl)
    simp only [List.setIfInBounds_toArray, List.set_cons_zero, List.set_cons_succ]
    refine takeH (i := 13) (d := 4) (v := ?vk13) rfl (by kernel_rfl) (by kernel_rfl) (by kernel_rfl) (fun _ _ _ h => h) rfl (by rfl) ?yk13 hS ?rk13
    case yk13 => (intro wz hz; go_simp <;> with_reducible rfl)
    simp only [List.setIfInBounds_toArray, List.set_cons_zero, List.set_cons_succ]
    refine wpAnyH_done (by kernel_rfl) ?_ _
    go_wp2_with fail
    go_ret
    exact ⟨rfl, B12.out⟩
  · refine (readRec_no g7 (l, false) w7 hrd7 (by show l.length ≤ 10000; rw [HL.out]; omega) hok).mono ?_
    rintro e w8 ⟨rfl, _, hgr⟩
    have gB : Below w.heap.size w7 w8 := (Below.refl _ w7).grown hgr (by omega) (fun k hk => by injection hk with hk; omega)
    have B9 := Lib.hid ((B7.out.trans gB).alloc (Nat.le_trans B7.out.size hgr.size) (.cells #[.int .u64 (zrc.id : Nat), .int .u64 (zrc.key : Nat), .int .u32 (zrc.x : Nat), .int .u32 (zrc.y : Nat), .string (strOf zrc.val), .bool zrc.ghost] 25))
    have R9 := Lib.hid (At.new w8 25 #[.int .u64 (zrc.id : Nat), .int .u64 (zrc.key : Nat), .int .u32 (zrc.x : Nat), .int .u32 (zrc.y : Nat), .string (strOf zrc.val), .bool zrc.ghost])
    have qr : ∀ W, (binOp .eql 25 (.agg #[.int .u64 (zrc.id : Nat), .int .u64 (zrc.key : Nat), .int .u32 (zrc.x : Nat), .int .u32 (zrc.y : Nat), .string (strOf zrc.val), .bool zrc.ghost]) (.agg #[.int .u64 0, .int .u64 0, .int .u32 0, .int .u32 0, .string ⟨#[]⟩, .bool false])).run Tryd.prog W = .ok (.bool true) W := fun W => by
      have := eql_rc zrc zrc W
      rw [sameR_refl] at this
      exact this
    clear hgr gB B7 LB7 hok hrd7
    go_wp2_with (first
      | refine wpList_store_new 25 (.tmp 8) (.tmp 46) rfl rfl rfl w8.heap.size w8 rfl rfl #[.int .u64 (zrc.id : Nat), .int .u64 (zrc.key : Nat), .int .u32 (zrc.x : Nat), .int .u32 (zrc.y : Nat), .string (strOf zrc.val), .bool zrc.ghost] _ 6 rfl str25 rfl rfl (rc_one _) rfl ?_
      | refine wpList_load_at 25 50 (.tmp 8) rfl rfl rfl w8.heap.size rfl #[.int .u64 (zrc.id : Nat), .int .u64 (zrc.key : Nat), .int .u32 (zrc.x : Nat), .int .u32 (zrc.y : Nat), .string (strOf zrc.val), .bool zrc.ghost] 6 str25 rfl R9.out ?_
      | (go_at_call 7; refine (works_any _).mono ?_; rintro e w9 ⟨rfl, hb9⟩; have B10 := Lib.hid (B9.out.trans (hb9.mono B9.out.size)); clear hb9))
    go_ret
    exact ⟨rfl, B10.out⟩
end Go.Proofs.YtihlmjknhgnjpaaDoor
