/-
  The walk of the reference's Lock.
  Conditions: at most 1000 claims of both kinds together.
-/
import Derived.Test.YthbifccankfngaaGreatDoorR10ZQ
import Derived.Test.YthbifccankfngaaGreatDoorR13ZQ
namespace Go.Proofs.YthbifccankfngaaGreatDoor
open Go.RowKit Go.Shelf
attribute [local go_sem] Oper.semAt_some
set_option maxRecDepth 20000

set_option maxHeartbeats 12800000 in
theorem rLock_any (A1 A2 : Option Addr) (n1 c1 n2 c2 : Nat) (u : TR) (t : Nat) (r : Rs) (m : Int) (w : World) (X0 : Nat → Prop) (hX0 : ∀ j, X0 j → j < w.heap.size) (h : RtV X0 w A1 n1 A2 n2 u) (N : Nat) (hs : u.held.length + u.queue.length ≤ N) (hN : N ≤ 1000) :
    Calls Tryz.prog 24 #[.agg (rtA A1 A2 n1 c1 n2 c2), .int .u64 (t : Int), .agg (rsA r), .int .i64 m] w (LkR w X0 (lockR u t r m)) := by
  have hl1 := h.h.rclen
  have hl2 := h.q.rclen
  obtain ⟨b4, hb4⟩ : ∃ b4, w.heap.size = b4 := ⟨_, rfl⟩
  obtain ⟨z, hz⟩ : ∃ z, ((w.alloc (.cells (rtA A1 A2 n1 c1 n2 c2) 28)).alloc (.cells (rsA r) 33)).alloc (.cells (rtA none none 0 0 0 0) 28) = z := ⟨_, rfl⟩
  have hbel : Below w.heap.size w z := hz ▸ (((Below.refl _ w).alloc (Nat.le_refl _) _).alloc (by simp) _).alloc (by simp; omega) _
  have A4Z : Hid (At z b4 28 (rtA A1 A2 n1 c1 n2 c2)) := by
    have := ((At.new w 28 (rtA A1 A2 n1 c1 n2 c2)).alloc (.cells (rsA r) 33)).alloc (.cells (rtA none none 0 0 0 0) 28)
    rw [hz, hb4] at this
    exact this
  have A6Z : Hid (At z (b4 + 1) 33 (rsA r)) := by
    have := (At.new (w.alloc (.cells (rtA A1 A2 n1 c1 n2 c2) 28)) 33 (rsA r)).alloc (.cells (rtA none none 0 0 0 0) 28)
    rw [hz] at this
    simp only [World.size_alloc, hb4] at this
    exact this
  have A8Z : Hid (At z (b4 + 1 + 1) 28 (rtA none none 0 0 0 0)) := by
    have := At.new ((w.alloc (.cells (rtA A1 A2 n1 c1 n2 c2) 28)).alloc (.cells (rsA r) 33)) 28 (rtA none none 0 0 0 0)
    rw [hz] at this
    simp only [World.size_alloc, hb4] at this
    exact this
  have HB := Lib.hid hbel
  have HZ := Lib.hid hz
  have H0 := Lib.hid h
  have HX0 := Lib.hid hX0
  have HS0 := Lib.hid hs
  clear h hs hX0 hbel
  go_enter Tryz.func24, Tryz.ntmps24
  go_upto_region 1 with fail
  have hzz : ((w.alloc (.cells (rtA A1 A2 n1 c1 n2 c2) 28)).alloc (.cells #[.int .i64 r.1, .int .u64 (r.2 : Int)] 33)).alloc (.cells #[.slice none 0 0, .slice none 0 0] 28) = z := HZ.out
  have hzy : ((w.alloc (.cells (rtA A1 A2 n1 c1 n2 c2) 28)).alloc (.cells (rsA r) 33)).alloc (.cells #[.slice none 0 0, .slice none 0 0] 28) = z := HZ.out
  try rw [hzz]
  try rw [hzy]
  try rw [hb4]
  clear hz hzz hzy
  obtain ⟨b6, hb6⟩ : ∃ b6, b4 + 1 = b6 := ⟨_, rfl⟩
  obtain ⟨b8, hb8⟩ : ∃ b8, b6 + 1 = b8 := ⟨_, rfl⟩
  rw [hb6] at A6Z A8Z ⊢
  rw [hb8] at A8Z ⊢
  have hb46 : b4 ≠ b6 := by omega
  have hb48 : b4 ≠ b8 := by omega
  have hb68 : b6 ≠ b8 := by omega
  have hw4 : w.heap.size ≤ b4 := by omega
  have hw8 : w.heap.size ≤ b8 := by omega
  have h8z : b8 < z.heap.size := A8Z.out.lt
  clear hb4 hb6 hb8
  have HBK : Hid (∀ (y w9 : World), Below z.heap.size z y → y.grownBy w9 (some b8) → RtV X0 w9 A1 n1 A2 n2 u) := fun y w9 hy hg => by
    have hwy := HB.out.trans (hy.mono HB.out.size)
    have h1 : RtV (fun j => X0 j ∨ j = b8) y A1 n1 A2 n2 u := (H0.out.wide (Y := fun j => X0 j ∨ j = b8) (fun j hj hjj => by
      rcases hjj with hjj | hjj
      · exact hjj
      · omega)).kept (Mod.of_below hwy _)
    exact (h1.kept ((grown_mod hg).mono fun j _ hj => .inr hj)).wide (fun j _ hj => .inl hj)
  have BELOW : Hid (∀ (y w9 : World), Below z.heap.size z y → y.grownBy w9 (some b8) → Below w.heap.size w w9) := fun y w9 hy hg => by
    have hwy := HB.out.trans (hy.mono HB.out.size)
    exact hwy.grown hg hwy.size (fun j hj => by injection hj with hj; omega)
  have HA1 : Hid (∀ Wx, Below z.heap.size z Wx → Lz (fun _ => False) Wx 4 A1 n1 (rcL u.held)) := fun Wx hW => (lz_wide (Y := fun _ => False) H0.out.h (fun _ _ h => h.elim)).below (HB.out.trans (hW.mono HB.out.size))
  have HA2 : Hid (∀ Wx, Below z.heap.size z Wx → Lz (fun _ => False) Wx 4 A2 n2 (rcL u.queue)) := fun Wx hW => (lz_wide (Y := fun _ => False) H0.out.q (fun _ _ h => h.elim)).below (HB.out.trans (hW.mono HB.out.size))
  by_cases hm : m < 1 ∨ 5 < m
  · have HE : Hid (lockR u t r m = (u, 14)) := by show _ = _; unfold lockR; rw [if_pos hm]
    have A4Q := A4Z
    have BQ := Lib.hid (Below.refl z.heap.size z)
    rcases hm with hm | hm
    · have d1 : decide (m < 1) = true := by simpa using hm
      go_wp2_with ((with_reducible show wpList _ _ _ (_ :: _) _ _); first
        | refine wpList_load_at 28 23 (.tmp 4) rfl rfl rfl b4 rfl (rtA A1 A2 n1 c1 n2 c2) 2 strT rfl A4Q.out ?_
        | (refine wpList_store_at 28 (.tmp 8) (.tmp 23) rfl rfl rfl b8 rfl (rtA A1 A2 n1 c1 n2 c2) (rtA none none 0 0 0 0) 2 rfl strT rfl rfl (rtA_one _ _ _ _ _ _) A8Z.out ?_; intro w9 ha9 hg9))
      refine bodyPost_ret (v := .tuple #[.agg (rtA A1 A2 n1 c1 n2 c2), .int .i64 14]) ?_ rfl ?_
      · exact results_at2 (p := 8) (t := 9) (g := b8) (n := 2) (cs := rtA A1 A2 n1 c1 n2 c2) rfl ha9 strT rfl rfl rfl
      · rw [HE.out]
        exact ⟨A1, n1, c1, A2, n2, c2, rfl, HBK.out _ _ BQ.out hg9, BELOW.out _ _ BQ.out hg9⟩
    · have d1 : decide (m < 1) = false := by simp; omega
      have d2 : decide (5 < m) = true := by simpa using hm
      go_wp2_with ((with_reducible show wpList _ _ _ (_ :: _) _ _); first
        | refine wpList_load_at 28 23 (.tmp 4) rfl rfl rfl b4 rfl (rtA A1 A2 n1 c1 n2 c2) 2 strT rfl A4Q.out ?_
        | (refine wpList_store_at 28 (.tmp 8) (.tmp 23) rfl rfl rfl b8 rfl (rtA A1 A2 n1 c1 n2 c2) (rtA none none 0 0 0 0) 2 rfl strT rfl rfl (rtA_one _ _ _ _ _ _) A8Z.out ?_; intro w9 ha9 hg9))
      refine bodyPost_ret (v := .tuple #[.agg (rtA A1 A2 n1 c1 n2 c2), .int .i64 14]) ?_ rfl ?_
      · exact results_at2 (p := 8) (t := 9) (g := b8) (n := 2) (cs := rtA A1 A2 n1 c1 n2 c2) rfl ha9 strT rfl rfl rfl
      · rw [HE.out]
        exact ⟨A1, n1, c1, A2, n2, c2, rfl, HBK.out _ _ BQ.out hg9, BELOW.out _ _ BQ.out hg9⟩
  have d1 : decide (m < 1) = false := by simp; omega
  have d2 : decide (5 < m) = false := by simp; omega
  have HM := Lib.hid hm
  obtain ⟨ix, hix⟩ : ∃ ix, wIdx u.queue t = ix := ⟨_, rfl⟩
  have HWT := Lib.hid (rWaits_any A1 A2 n1 c1 n2 c2 u.queue t z (HA2.out z (Below.refl _ _)) (by have := HS0.out; omega))
  rw [hix] at HWT
  have HIX := Lib.hid hix
  clear hix hm
  go_upto_region 3 with fail
  go_upto_region 4 with ((with_reducible show wpList _ _ _ (_ :: _) _ _); refine wpList_load_at 28 24 (.tmp 4) rfl rfl rfl b4 rfl (rtA A1 A2 n1 c1 n2 c2) 2 strT rfl A4Z.out ?_)
  refine HWT.out.mono ?_
  rintro e y1 ⟨rfl, hb1⟩
  have B1 := Lib.hid hb1
  have A4Y := Lib.hid (A4Z.out.under hb1 A4Z.out.lt)
  have A6Y := Lib.hid (A6Z.out.under hb1 A6Z.out.lt)
  have A8Y := Lib.hid (A8Z.out.under hb1 A8Z.out.lt)
  clear hb1 HWT A4Z A6Z A8Z
  rcases wIdx_cases u.queue t with ⟨hw1, hw2⟩ | ⟨i, hi, hw1, hw2⟩
  rotate_left
  · have HE : Hid (lockR u t r m = (u, 10)) := by
      show _ = _
      unfold lockR
      rw [if_neg HM.out, if_pos (by rw [hw2]; rfl)]
    rw [HIX.out] at hw1
    subst hw1
    have A4Q := A4Y
    have BQ := B1
    have d3 : decide ((0 : Int) ≤ (i : Int)) = true := by simp
    clear hw2
    go_wp2_with ((with_reducible show wpList _ _ _ (_ :: _) _ _); first
      | refine wpList_load_at 28 28 (.tmp 4) rfl rfl rfl b4 rfl (rtA A1 A2 n1 c1 n2 c2) 2 strT rfl A4Q.out ?_
      | (refine wpList_store_at 28 (.tmp 8) (.tmp 28) rfl rfl rfl b8 rfl (rtA A1 A2 n1 c1 n2 c2) (rtA none none 0 0 0 0) 2 rfl strT rfl rfl (rtA_one _ _ _ _ _ _) A8Y.out ?_; intro w9 ha9 hg9))
    refine bodyPost_ret (v := .tuple #[.agg (rtA A1 A2 n1 c1 n2 c2), .int .i64 10]) ?_ rfl ?_
    · exact results_at2 (p := 8) (t := 9) (g := b8) (n := 2) (cs := rtA A1 A2 n1 c1 n2 c2) rfl ha9 strT rfl rfl rfl
    · rw [HE.out]
      exact ⟨A1, n1, c1, A2, n2, c2, rfl, HBK.out _ _ BQ.out hg9, BELOW.out _ _ BQ.out hg9⟩
  rw [HIX.out] at hw1
  subst hw1
  have HW2 := Lib.hid hw2
  clear hw2
  have p0 : y1.cell? ⟨b4, 0, none⟩ = some (.slice A1 n1 c1) := A4Y.out.cell 0
  obtain ⟨a, ha⟩ : ∃ a, modeR u.held t r = a := ⟨_, rfl⟩
  have HMD := Lib.hid (rMode_any A1 n1 c1 u.held t r y1 (HA1.out y1 B1.out) (by have := HS0.out; omega))
  rw [ha] at HMD
  have HA := Lib.hid ha
  clear ha
  go_upto_region 5 with fail
  go_upto_region 6 with ((with_reducible show wpList _ _ _ (_ :: _) _ _); refine wpList_load_at 33 32 (.tmp 6) rfl rfl rfl b6 rfl (rsA r) 2 strR rfl A6Y.out ?_)
  refine HMD.out.mono ?_
  rintro e y2 ⟨rfl, hb2⟩
  have B2 := Lib.hid (B1.out.trans (hb2.mono B1.out.size))
  have A4X := Lib.hid (A4Y.out.under hb2 A4Y.out.lt)
  have A6X := Lib.hid (A6Y.out.under hb2 A6Y.out.lt)
  have A8X := Lib.hid (A8Y.out.under hb2 A8Y.out.lt)
  clear hb2 HMD A4Y A6Y A8Y p0 B1
  go_upto_region 6 with fail
  obtain ⟨j, hj⟩ : ∃ j, jn a m = j := ⟨_, rfl⟩
  have HJN := Lib.hid (refJn_any a m y2)
  rw [hj] at HJN
  have HJ := Lib.hid hj
  clear hj
  go_upto_region 7 with fail
  refine HJN.out.mono ?_
  rintro e y3 ⟨rfl, rfl⟩
  go_upto_region 7 with fail
  obtain ⟨bq, hbq⟩ : ∃ bq, (a == j) = bq := ⟨_, rfl⟩
  have HBQ := Lib.hid hbq
  cases bq
  rotate_left
  · have HE : Hid (lockR u t r m = (u, 0)) := by
      show _ = _
      have e : a = j := by simpa using HBQ.out
      unfold lockR
      rw [if_neg HM.out, if_neg (by rw [HW2.out]; simp), if_pos (by rw [HA.out, HJ.out, e])]
    have A4Q := A4X
    have BQ := B2
    go_wp2_with ((with_reducible show wpList _ _ _ (_ :: _) _ _); first
      | refine wpList_load_at 28 40 (.tmp 4) rfl rfl rfl b4 rfl (rtA A1 A2 n1 c1 n2 c2) 2 strT rfl A4Q.out ?_
      | (refine wpList_store_at 28 (.tmp 8) (.tmp 40) rfl rfl rfl b8 rfl (rtA A1 A2 n1 c1 n2 c2) (rtA none none 0 0 0 0) 2 rfl strT rfl rfl (rtA_one _ _ _ _ _ _) A8X.out ?_; intro w9 ha9 hg9))
    refine bodyPost_ret (v := .tuple #[.agg (rtA A1 A2 n1 c1 n2 c2), .int .i64 0]) ?_ rfl ?_
    · exact results_at2 (p := 8) (t := 9) (g := b8) (n := 2) (cs := rtA A1 A2 n1 c1 n2 c2) rfl ha9 strT rfl rfl rfl
    · rw [HE.out]
      exact ⟨A1, n1, c1, A2, n2, c2, rfl, HBK.out _ _ BQ.out hg9, BELOW.out _ _ BQ.out hg9⟩
  have HNE : Hid (¬ a = j) := by show ¬ _; simpa using HBQ.out
  obtain ⟨c, hc⟩ : ∃ c : Cl, c = (r, t, j) := ⟨_, rfl⟩
  obtain ⟨fr, hfr⟩ : ∃ fr, freeR u.held t r j = fr := ⟨_, rfl⟩
  obtain ⟨em, hem⟩ : ∃ em, (ofR u.queue r).isEmpty = em := ⟨_, rfl⟩
  obtain ⟨cd, hcd⟩ : ∃ cd, (fr && (decide (0 < a) || em)) = cd := ⟨_, rfl⟩
  have HE : Hid (lockR u t r m = if cd then (⟨grantR u.held c, u.queue⟩, 0) else (⟨u.held, insA a u.held c u.queue⟩, 12)) := by
    show _ = _
    unfold lockR insA
    rw [if_neg HM.out, if_neg (by rw [HW2.out]; simp), HA.out, HJ.out, if_neg HNE.out, hfr, hem, hcd, hc]
  have HC := Lib.hid hc
  have HCD := Lib.hid hcd
  have HEM := Lib.hid hem
  have hbo : ∃ no, (ofR u.queue r).length = no := ⟨_, rfl⟩
  obtain ⟨no, hno⟩ := hbo
  have hemn : em = decide (no = 0) := by
    rw [← hem, ← hno]
    cases ofR u.queue r <;> simp
  have HFR : Hid (∀ Wx, Below z.heap.size z Wx → Calls Tryz.prog 54 #[.slice A1 n1 c1, .int .u64 (t : Int), .agg (rsA r), .int .i64 j] Wx (RetB Wx (.bool fr))) := fun Wx hW => by
    have := rFree_any A1 n1 c1 u.held t r j Wx (HA1.out Wx hW) (by have := HS0.out; omega)
    rw [hfr] at this
    exact this
  have HOF : Hid (∀ Wx, Below z.heap.size z Wx → Calls Tryz.prog 30 #[.slice A2 n2 c2, .agg (rsA r)] Wx (BuN Wx (ofR u.queue r) no)) := fun Wx hW =>
    (rOf_any A2 n2 c2 u.queue r Wx (HA2.out Wx hW) (by have := HS0.out; omega)).mono fun _ _ h => h.named hno
  have hnN : no ≤ N := by
    rw [← hno]
    have h1 : (ofR u.queue r).length ≤ u.queue.length := List.length_filter_le _ _
    have := HS0.out
    omega
  have A12 := Lib.hid (At.new y2 72 (rcA c))
  have B3 := Lib.hid (B2.out.alloc B2.out.size (.cells (rcA c) 72))
  have A4W := Lib.hid (A4X.out.alloc (.cells (rcA c) 72))
  have A6W := Lib.hid (A6X.out.alloc (.cells (rcA c) 72))
  have A8W := Lib.hid (A8X.out.alloc (.cells (rcA c) 72))
  have h12 : b8 < y2.heap.size := A8X.out.lt
  have HYS := Lib.hid B2.out.size
  clear hfr hem hcd hno A4X A8X hc
  go_upto_region 9 with fail
  clear hbq
  go_upto_region 10 with ((with_reducible show wpList _ _ _ (_ :: _) _ _); first
    | refine wpList_load_at 33 41 (.tmp 6) rfl rfl rfl b6 rfl (rsA r) 2 strR rfl A6X.out ?_
    | refine wpList_execG 44 rfl rfl (exec_build_rc r t j c HC.out (.tmp 41) (.tmp 42) (.tmp 43) rfl rfl rfl rfl) ?_
    | refine wpList_store_new 72 (.tmp 12) (.tmp 44) rfl rfl rfl y2.heap.size y2 rfl rfl (rcA c) #[.int .i64 0, .int .u64 0, .int .u64 0, .int .i64 0] 4 rfl strrC rfl rfl (rcA_one c) rfl ?_)
  obtain ⟨b12, hb12⟩ : ∃ b12, y2.heap.size = b12 := ⟨_, rfl⟩
  rw [hb12] at A12 h12 ⊢
  generalize y2.alloc (.cells (rcA c) 72) = y3 at A12 B3 A4W A6W A8W ⊢
  clear hb12 HYS A6X B2
  have p0 : y3.cell? ⟨b4, 0, none⟩ = some (.slice A1 n1 c1) := A4W.out.cell 0
  have hn0 : ((no : Int) == 0) = em := by rw [hemn]; cases no <;> simp; omega
  dsimp only [Act.put]
  go_cut [62] from 45 to 63 (fun s62 wx => s62 = .bool cd ∧ Hid (Below y3.heap.size y3 wx))
  case first =>
    go_wp2_with ((with_reducible show wpList _ _ _ (_ :: _) _ _); refine wpList_load_at 33 48 (.tmp 6) rfl rfl rfl b6 rfl (rsA r) 2 strR rfl A6W.out ?_)
    refine (HFR.out y3 B3.out).mono ?_
    rintro e y4 ⟨rfl, hb4⟩
    have B4 := Lib.hid hb4
    have p1 : y4.cell? ⟨b4, 1, none⟩ = some (.slice A2 n2 c2) := (A4W.out.under hb4 A4W.out.lt).cell 1
    have A6V := Lib.hid (A6W.out.under hb4 A6W.out.lt)
    clear hb4
    cases fr
    · go_wp2_with fail
      go_meet
      exact ⟨by rw [← HCD.out]; rfl, B4⟩
    · by_cases h0 : 0 < a
      · have d0 : decide (0 < a) = true := by simpa using h0
        go_wp2_with fail
        go_meet
        exact ⟨by rw [← HCD.out, d0]; rfl, B4⟩
      · have d0 : decide (0 < a) = false := by simpa using h0
        go_wp2_with ((with_reducible show wpList _ _ _ (_ :: _) _ _); refine wpList_execG 57 rfl rfl (exec_load_at 33 (.tmp 6) rfl b6 rfl (rsA r) 2 strR rfl A6V.out) ?_)
        refine (HOF.out y4 (B3.out.trans (B4.out.mono B3.out.size))).mono ?_
        rintro e y5 ⟨AO, cO, rfl, hoO, hbO⟩
        have B5 := Lib.hid (B4.out.trans (hbO.mono B4.out.size))
        clear hoO hbO
        go_wp2_with fail
        go_meet
        exact ⟨by rw [← HCD.out, d0, hemn]; rfl, B5⟩
  obtain ⟨rfl, HY⟩ := hcut
  rename World => y
  have BY := Lib.hid (B3.out.trans (HY.out.mono B3.out.size))
  have A4V := Lib.hid (A4W.out.under HY.out A4W.out.lt)
  have A6V := Lib.hid (A6W.out.under HY.out A6W.out.lt)
  have A8V := Lib.hid (A8W.out.under HY.out A8W.out.lt)
  have A12V := Lib.hid (A12.out.under HY.out A12.out.lt)
  clear HFR HOF hn0 p0 A4W A6W A8W A12 B3 HY hemn
  go_upto_if 62 with fail
  cases cd
  rotate_left
  · obtain ⟨nG, hnG⟩ : ∃ nG, (grantR u.held c).length = nG := ⟨_, rfl⟩
    have HGR : Hid (∀ Wx, Below y.heap.size y Wx → Calls Tryz.prog 55 #[.slice A1 n1 c1, .agg (rcA c)] Wx (BuN Wx (grantR u.held c) nG)) := fun Wx hW =>
      (rGrant_any A1 n1 c1 u.held c Wx (HA1.out Wx (BY.out.trans (hW.mono BY.out.size))) (by have := HS0.out; omega)).mono fun _ _ h => h.named hnG
    clear hnG
    go_upto_region 11 with fail
    refine wp_region_held_drew (S := fun wz => At wz b4 28 (rtA A1 A2 n1 c1 n2 c2) ∧ At wz b12 72 (rcA c)) (by kernel_rfl) ⟨A4V.out, A12V.out⟩ (fun hS => ?_)
    have C0 := Lib.hid ((Below.refl y.heap.size y).drew)
    refine tk 0 hS ?_
    refine tk 1 hS ?_ (hy := by intro wz hz; have p0 : wz.cell? ⟨b4, 0, none⟩ = some (.slice A1 n1 c1) := hz.1.cell 0; have p1 : wz.cell? ⟨b4, 1, none⟩ = some (.slice A2 n2 c2) := hz.1.cell 1; go_simp <;> with_reducible rfl)
    refine tk (v := .agg (rcA c)) 2 hS ?_ (hy := by intro wz hz; have p0 : wz.cell? ⟨b4, 0, none⟩ = some (.slice A1 n1 c1) := hz.1.cell 0; have p1 : wz.cell? ⟨b4, 1, none⟩ = some (.slice A2 n2 c2) := hz.1.cell 1; exact exec_load_at 72 (.tmp 12) rfl b12 rfl (rcA c) 4 strrC rfl hz.2)
    refine tk 4 hS ?_
    refine tk 5 hS ?_ (hy := by intro wz hz; have p0 : wz.cell? ⟨b4, 0, none⟩ = some (.slice A1 n1 c1) := hz.1.cell 0; have p1 : wz.cell? ⟨b4, 1, none⟩ = some (.slice A2 n2 c2) := hz.1.cell 1; go_simp <;> with_reducible rfl)
    refine wpAnyH_ready (rs := [3]) (by kernel_rfl) (by simp) ?_
    refine AllReadyH.cons rfl (fun K hK => ?_) AllReadyH.nil
    go_simp
    refine (HGR.out y.drew C0.out).mono ?_
    rintro e yg ⟨AG, cG, rfl, hoG, hbG⟩
    have OG := Lib.hid hoG
    have BG := Lib.hid (C0.out.trans (hbG.mono C0.out.size))
    have BX := Lib.hid hbG
    clear hoG hbG
    refine hK.out _ _ (⟨hS.1.under BX.out hS.1.lt, hS.2.under BX.out hS.2.lt⟩) (fun hT => ?_)
    clear hK hS
    have hS := hT
    clear hT
    refine tk 6 hS ?_
    have A8G := Lib.hid (A8V.out.under BG.out A8V.out.lt)
    refine wpAnyH_ready (rs := [7]) (by kernel_rfl) (by simp) ?_
    refine AllReadyH.cons rfl (fun K hK => ?_) AllReadyH.nil
    rw [if_pos (by rfl)]
    refine wp_store_at 28 (.tmp 8) (.tmp 69) rfl rfl b8 rfl (rtA AG A2 nG cG n2 c2) (rtA none none 0 0 0 0) 2 rfl strT rfl rfl (rtA_one _ _ _ _ _ _) A8G.out ?_
    intro w9 ha9 hg9
    have HA9 := Lib.hid ha9
    have HG9 := Lib.hid hg9
    have KA := (⟨hS.1.grown hg9 (fun e => hb48 (Option.some.inj e)), hS.2.grown hg9 (fun e => by have := Option.some.inj e; omega)⟩ : At w9 b4 28 (rtA A1 A2 n1 c1 n2 c2) ∧ At w9 b12 72 (rcA c))
    clear ha9 hg9
    refine hK.out _ _ (KA) (fun hT => ?_)
    clear hK hS
    have hS := hT
    clear hT
    dsimp only [Act.put]
    refine tk 8 hS ?_
    refine wpAnyH_done (by kernel_rfl) ?_ _
    clear hS
    go_wp2_with fail
    refine bodyPost_ret (v := .tuple #[.agg (rtA AG A2 nG cG n2 c2), .int .i64 0]) ?_ rfl ?_
    · exact results_at2 (p := 8) (t := 9) (g := b8) (n := 2) (cs := rtA AG A2 nG cG n2 c2) rfl HA9.out strT rfl rfl rfl
    · rw [HE.out]
      have hzg := BY.out.trans (BG.out.mono BY.out.size)
      have hq := (HBK.out _ _ hzg HG9.out).q
      have ho9 := OG.out.kept HG9.out (.inr (Ne.symm (own_ne OG.out A8G.out (by decide))))
      refine ⟨AG, nG, cG, A2, n2, c2, rfl, ⟨lz_own_off ho9 (fun k hk e => ?_), hq⟩, BELOW.out _ _ hzg HG9.out⟩
      have h1 := (ho9.lt k e.symm).1
      have h2 := HX0.out k hk
      have h3 := HB.out.size
      have h4 := BY.out.size
      simp at h1
      omega
  · have p0 : y.cell? ⟨b4, 0, none⟩ = some (.slice A1 n1 c1) := A4V.out.cell 0
    go_upto_region 13 with ((with_reducible show wpList _ _ _ (_ :: _) _ _); refine wpList_store_new 28 (.tmp 13) (.tmp 72) rfl rfl rfl y.heap.size y rfl rfl (rtA A1 none n1 c1 0 0) (rtA none none 0 0 0 0) 2 rfl strT rfl rfl (rtA_one _ _ _ _ _ _) rfl ?_)
    have A13 : Hid (At (y.alloc (.cells (rtA A1 none n1 c1 0 0) 28)) y.heap.size 28 (rtA A1 none n1 c1 0 0)) := At.new y _ _
    have BZ := Lib.hid (BY.out.alloc BY.out.size (.cells (rtA A1 none n1 c1 0 0) 28))
    have A4U := Lib.hid (A4V.out.alloc (.cells (rtA A1 none n1 c1 0 0) 28))
    have A6U := Lib.hid (A6V.out.alloc (.cells (rtA A1 none n1 c1 0 0) 28))
    have A8U := Lib.hid (A8V.out.alloc (.cells (rtA A1 none n1 c1 0 0) 28))
    have A12U := Lib.hid (A12V.out.alloc (.cells (rtA A1 none n1 c1 0 0) 28))
    have h8y := A8V.out.lt
    have h12y := A12V.out.lt
    have h4y := A4V.out.lt
    have h6y := A6V.out.lt
    obtain ⟨b13, hb13⟩ : ∃ b13, y.heap.size = b13 := ⟨_, rfl⟩
    rw [hb13] at A13 h8y h12y h4y h6y ⊢
    generalize y.alloc (.cells (rtA A1 none n1 c1 0 0) 28) = z5 at A13 BZ A4U A6U A8U A12U ⊢
    have h13 : b13 < z5.heap.size := A13.out.lt
    have hw13 : w.heap.size ≤ b13 := by omega
    have hz13 : z.heap.size ≤ b13 := by have := BY.out.size; omega
    clear hb13 p0 A4V A6V A8V A12V BY
    have HLQ : Hid (Lz (fun k => k = b13) z5 4 A2 n2 (rcL u.queue)) :=
      (lz_wide (Y := fun k => k = b13) H0.out.q (fun k hk e => by omega)).kept (Mod.of_below (HB.out.trans (BZ.out.mono HB.out.size)) _)
    have ST : Hid (GaS z5 b13 (fun v => #[.slice A1 n1 c1, v]) [] (.slice none 0 0) z5) := GaS.start A13.out
    have LS0 := Lib.hid (LoS.start a u.held c u.queue)
    have HMO : Hid (∀ (Wx : World) (x : Cl), Below z.heap.size z Wx → Calls Tryz.prog 31 #[.slice A1 n1 c1, .int .u64 (x.2.1 : Int), .agg (rsA r)] Wx (RetB Wx (.int .i64 (modeR u.held x.2.1 r)))) := fun Wx x hW =>
      rMode_any A1 n1 c1 u.held x.2.1 r Wx (HA1.out Wx hW) (by have := HS0.out; omega)
    have hn2N : n2 ≤ 1000 := by have := HS0.out; omega
    obtain ⟨i0, hi0, hz0, hz1, hz2⟩ := rc_info
    have HEX : Hid (lockR u t r m = (⟨u.held, insA a u.held c u.queue⟩, 12)) := HE.out
    have HCR : Hid (c.1 = r) := by show c.1 = r; rw [HC.out]
    clear HE HCD HJN
    go_wp2_with fail
    go_loopw [14, 15] (fun d i wr => ∃ (k : Nat) (dd : Bool) (F : List Cl) (nF : Nat) (AF : Option Addr) (cF : Nat), k ≤ n2 ∧ d = .bool dd ∧ i = .int .i64 (k : Int) ∧ Hid (F.length = nF) ∧ Hid (LoS a u.held c u.queue k dd F) ∧ Hid (GaS z5 b13 (fun v => #[.slice A1 n1 c1, v]) F (.slice AF nF cF) wr)) (fun _ i _ => n2 - (intOf i).toNat)
    case atStart => exact ⟨0, false, [], 0, none, 0, Nat.zero_le _, rfl, rfl, rfl, LS0, ST⟩
    case round =>
      obtain ⟨k, dd, F, nF, AF, cF, hk, rfl, rfl, HNF, HLS, HS⟩ := hrel
      have hnF : nF ≤ k + 1 := by
        have := HLS.out.len
        rw [HNF.out] at this
        cases dd <;> simp at this <;> omega
      have A4R := Lib.hid (A4U.out.mod HS.out.mod (by omega))
      have A6R := Lib.hid (A6U.out.mod HS.out.mod (by omega))
      have A8R := Lib.hid (A8U.out.mod HS.out.mod (by omega))
      have A12R := Lib.hid (A12U.out.mod HS.out.mod (by omega))
      have p1 : wr.cell? ⟨b4, 1, none⟩ = some (.slice A2 n2 c2) := A4R.out.cell 1
      by_cases hlt : k < n2
      · obtain ⟨b, o, hl, hAe, hbz, hr, hb13b⟩ := HLQ.out.rcX hlt
        subst hAe
        obtain ⟨x, hx⟩ : ∃ x, u.queue[k] = x := ⟨_, rfl⟩
        rw [hx] at hr
        have R1 : Hid (wr.rangeAt b (o + k * 4) (rcV x)) := pl_rangeAt_block hr (HS.out.mod.block b hbz hb13b)
        have HX := Lib.hid hx
        clear hr hx
        have A16 : Hid (At (wr.alloc (.cells (rcA x) 72)) wr.heap.size 72 (rcA x)) := At.new wr _ _
        go_upto_region 18 with ((with_reducible show wpList _ _ _ (_ :: _) _ _); first
          | refine wpList_load_in 72 84 (.tmp 83) rfl rfl rfl b (o + k * 4) rfl (rcV x) 4 strrC rfl R1.out ?_
          | refine wpList_store_new 72 (.tmp 16) (.tmp 84) rfl rfl rfl wr.heap.size wr rfl rfl (rcA x) #[.int .i64 0, .int .u64 0, .int .u64 0, .int .i64 0] 4 rfl strrC rfl rfl (rcA_one x) rfl ?_)
        have HSQ : Hid (GaS z5 b13 (fun v => #[.slice A1 n1 c1, v]) F (.slice AF nF cF) (wr.alloc (.cells (rcA x) 72))) := HS.out.under ((Below.refl _ wr).alloc (Nat.le_refl _) _)
        have A4Q := Lib.hid (A4R.out.alloc (.cells (rcA x) 72))
        have A6Q := Lib.hid (A6R.out.alloc (.cells (rcA x) 72))
        have A12Q := Lib.hid (A12R.out.alloc (.cells (rcA x) 72))
        have H16O : Hid (∀ j, (Value.slice AF nF cF).ownBlock = some j → j < wr.heap.size) := fun j hj => (HS.out.own.lt j hj).2
        have h1613 : b13 < wr.heap.size := HS.out.box.lt
        have BQ : Hid (Below z.heap.size z (wr.alloc (.cells (rcA x) 72))) := Mod.below BZ.out HSQ.out.mod (fun j hj => by omega) BZ.out.size
        obtain ⟨b16, hb16⟩ : ∃ b16, wr.heap.size = b16 := ⟨_, rfl⟩
        rw [hb16] at A16 H16O h1613 ⊢
        generalize wr.alloc (.cells (rcA x) 72) = wq at A16 HSQ A4Q A6Q A12Q BQ ⊢
        clear hb16 HS A4R A6R A8R A12R R1 p1
        obtain ⟨cd2, hcd2⟩ : ∃ cd2, insC a u.held c dd x = cd2 := ⟨_, rfl⟩
        have HC2 := Lib.hid hcd2
        clear hcd2
        dsimp only [Act.put]
        go_cut [105] from 85 to 106 (fun s105 wx => s105 = .bool cd2 ∧ Hid (Below wq.heap.size wq wx))
        case first =>
          have BR := Lib.hid (Below.refl wq.heap.size wq)
          cases dd
          rotate_left
          · go_wp2_with fail
            go_meet
            exact ⟨by rw [← HC2.out]; simp [insC], BR⟩
          · by_cases h0 : 0 < a
            rotate_left
            · have d0 : decide (0 < a) = false := by simpa using h0
              go_wp2_with fail
              go_meet
              exact ⟨by rw [← HC2.out]; simp only [insC]; rw [d0]; rfl, BR⟩
            · have d0 : decide (0 < a) = true := by simpa using h0
              obtain ⟨er, her⟩ : ∃ er, (x.1 == r) = er := ⟨_, rfl⟩
              have HER := Lib.hid her
              have p0 : wq.cell? ⟨b4, 0, none⟩ = some (.slice A1 n1 c1) := A4Q.out.cell 0
              have p2 : wq.cell? ⟨b16, 2, none⟩ = some (.int .u64 (x.2.1 : Int)) := A16.out.cell 2
              obtain ⟨mo, hmo⟩ : ∃ mo, modeR u.held x.2.1 r = mo := ⟨_, rfl⟩
              have HMX := Lib.hid (HMO.out wq x BQ.out)
              rw [hmo] at HMX
              have HMOE := Lib.hid hmo
              clear her hmo
              cases er
              · go_wp2_with (first
                  | ((with_reducible show wpList _ _ _ (⟨some 93, _, _, _, _, _⟩ :: _) _ _); refine wpList_execG 93 rfl rfl (exec_load_in 33 (.tmp 92) rfl b16 0 rfl (encR x.1) 2 strR rfl (rcA_range A16.out)) ?_)
                  | ((with_reducible show wpList _ _ _ (⟨some 94, _, _, _, _, _⟩ :: _) _ _); refine wpList_execG 94 rfl rfl (exec_load_at 33 (.tmp 6) rfl b6 rfl (rsA r) 2 strR rfl A6Q.out) ?_)
                  | ((with_reducible show wpList _ _ _ (⟨some 95, _, _, _, _, _⟩ :: _) _ _); refine wpList_execG 95 rfl rfl (exec_eqRb (.tmp 93) (.tmp 94) rfl x.1 r _ HER.out rfl rfl) ?_))
                go_meet
                exact ⟨by rw [← HC2.out]; simp only [insC]; rw [HCR.out, HER.out, d0]; rfl, BR⟩
              · go_wp2_with (first
                  | ((with_reducible show wpList _ _ _ (⟨some 93, _, _, _, _, _⟩ :: _) _ _); refine wpList_execG 93 rfl rfl (exec_load_in 33 (.tmp 92) rfl b16 0 rfl (encR x.1) 2 strR rfl (rcA_range A16.out)) ?_)
                  | ((with_reducible show wpList _ _ _ (⟨some 94, _, _, _, _, _⟩ :: _) _ _); refine wpList_execG 94 rfl rfl (exec_load_at 33 (.tmp 6) rfl b6 rfl (rsA r) 2 strR rfl A6Q.out) ?_)
                  | ((with_reducible show wpList _ _ _ (⟨some 95, _, _, _, _, _⟩ :: _) _ _); refine wpList_execG 95 rfl rfl (exec_eqRb (.tmp 93) (.tmp 94) rfl x.1 r _ HER.out rfl rfl) ?_)
                  | ((with_reducible show wpList _ _ _ (⟨some 102, _, _, _, _, _⟩ :: _) _ _); refine wpList_execG 102 rfl rfl (exec_load_at 33 (.tmp 6) rfl b6 rfl (rsA r) 2 strR rfl A6Q.out) ?_))
                refine HMX.out.mono ?_
                rintro e w6 ⟨rfl, hb6⟩
                have B6 := Lib.hid hb6
                obtain ⟨b0, hb0⟩ : ∃ b0, (mo == 0) = b0 := ⟨_, rfl⟩
                clear hb6
                go_wp2_with fail
                go_meet
                exact ⟨by rw [← HC2.out]; simp only [insC]; rw [HCR.out, HER.out, HMOE.out, d0, hb0]; rfl, B6⟩
        obtain ⟨rfl, HQ⟩ := hcut
        rename World => wd
        have HD := Lib.hid (HSQ.out.under HQ.out)
        have A12D := Lib.hid (A12Q.out.under HQ.out A12Q.out.lt)
        have A16D := Lib.hid (A16.out.under HQ.out A16.out.lt)
        clear HSQ A12Q A16 HQ A4Q A6Q BQ
        go_upto_if 105 with fail
        have HN5 := HNF
        have HM5 : Hid (nF + 1 = F.length + 1) := by show _ = _; rw [HNF.out]
        cases cd2
        · skip
          have OWN5 : Hid ((wd.alloc (.cells (rcA x) 72)).ownsRow z5.heap.size 72 4 (.slice AF nF cF) (nF) (rcL (F))) := by
            have := own_under HD.out.own ((Below.refl _ wd).alloc (Nat.le_refl _) (.cells (rcA x) 72)) (Nat.le_refl _)
            rw [HN5.out] at this
            exact this
          have LN5 : Hid (Lies (wd.alloc (.cells (rcA x) 72)) (wd.alloc (.cells (rcA x) 72)).heap.size 4 (some ⟨wd.heap.size, 0, none⟩) 1 (rcL [x])) := lies_rc (At.new wd 72 (rcA x))
          have HSZ5 : Hid (z5.heap.size ≤ (wd.alloc (.cells (rcA x) 72)).heap.size) := by have := HD.out.mod.size; show _ ≤ _; simp; omega
          have pf5 : wd.cell? ⟨b13, 1, none⟩ = some (.slice AF (nF) cF) := HD.out.box.cell 1
          go_wp2_with ((with_reducible show wpList _ _ _ (_ :: _) _ _); first
        | refine wpList_load_at 72 114 (.tmp 16) rfl rfl rfl b16 rfl (rcA x) 4 strrC rfl A16D.out ?_
        | refine wpList_lit1r rfl 115 (.tmp 114) 26 72 4 zcC (rcA x) rfl rfl rfl Tryz.underlying26 (by kernel_rfl) (by omega) (by omega) rfl ?_
        | (at_builtin; refine wpList_app2 _ rfl (.tmp 113) (.tmp 115) 26 rfl z5.heap.size 72 i0 zcC 4 32 Tryz.underlying26 hi0 hz0 hz1 hz2 rfl (by omega) (.slice AF (nF) cF) (nF) (rcL (F)) rfl OWN5.out _ (some ⟨wd.heap.size, 0, none⟩) 1 1 (rcL [x]) rfl LN5.out (rc_one1 [x]) (by omega) (by simp only [maxLen]; omega) (by omega) HSZ5.out ?_; intro v5 w5 ho5 hg5 hb5; obtain ⟨A5, c5, rfl, _⟩ := own_slice ho5; have HAP5 := Lib.hid (HD.out.app (i := 1) (x := x) h13 HM5.out ho5 hg5 rfl); have q15 : w5.cell? ⟨b13, 1, none⟩ = some (.slice AF (nF) cF) := HAP5.out.1.cell 1; have f15 : w5.frozen? ⟨b13, 1, none⟩ = false := HAP5.out.1.frozen 1))
          exact ⟨⟨k + 1, dd, F ++ [x], nF + 1, A5, c5, by omega, rfl, by go_num, Lib.hid (by rw [List.length_append, HNF.out]; rfl), Lib.hid (by have := HLS.out.no hl (by rw [HX.out]; exact HC2.out); rw [HX.out] at this; exact this), Lib.hid HAP5.out.2⟩, by simp [intOf]; omega⟩
        · skip
          have OWN5 : Hid ((wd.alloc (.cells (rcA c) 72)).ownsRow z5.heap.size 72 4 (.slice AF nF cF) (nF) (rcL (F))) := by
            have := own_under HD.out.own ((Below.refl _ wd).alloc (Nat.le_refl _) (.cells (rcA c) 72)) (Nat.le_refl _)
            rw [HN5.out] at this
            exact this
          have LN5 : Hid (Lies (wd.alloc (.cells (rcA c) 72)) (wd.alloc (.cells (rcA c) 72)).heap.size 4 (some ⟨wd.heap.size, 0, none⟩) 1 (rcL [c])) := lies_rc (At.new wd 72 (rcA c))
          have HSZ5 : Hid (z5.heap.size ≤ (wd.alloc (.cells (rcA c) 72)).heap.size) := by have := HD.out.mod.size; show _ ≤ _; simp; omega
          have pf5 : wd.cell? ⟨b13, 1, none⟩ = some (.slice AF (nF) cF) := HD.out.box.cell 1
          have HK16 : Hid (∀ w5, (wd.alloc (.cells (rcA c) 72)).grownBy w5 (Value.slice AF nF cF).ownBlock → At w5 b16 72 (rcA x)) := fun w5 hg => (A16D.out.alloc _).grown hg (fun e => by have := H16O.out b16 e.symm; omega)
          go_upto_region 21 with ((with_reducible show wpList _ _ _ (_ :: _) _ _); first
        | refine wpList_load_at 72 108 (.tmp 12) rfl rfl rfl b12 rfl (rcA c) 4 strrC rfl A12D.out ?_
        | refine wpList_lit1r rfl 109 (.tmp 108) 26 72 4 zcC (rcA c) rfl rfl rfl Tryz.underlying26 (by kernel_rfl) (by omega) (by omega) rfl ?_
        | (at_builtin; refine wpList_app2 _ rfl (.tmp 107) (.tmp 109) 26 rfl z5.heap.size 72 i0 zcC 4 32 Tryz.underlying26 hi0 hz0 hz1 hz2 rfl (by omega) (.slice AF (nF) cF) (nF) (rcL (F)) rfl OWN5.out _ (some ⟨wd.heap.size, 0, none⟩) 1 1 (rcL [c]) rfl LN5.out (rc_one1 [c]) (by omega) (by simp only [maxLen]; omega) (by omega) HSZ5.out ?_; intro v5 w5 ho5 hg5 hb5; obtain ⟨A5, c5, rfl, _⟩ := own_slice ho5; have HAP5 := Lib.hid (HD.out.app (i := 1) (x := c) h13 HM5.out ho5 hg5 rfl); have q15 : w5.cell? ⟨b13, 1, none⟩ = some (.slice AF (nF) cF) := HAP5.out.1.cell 1; have f15 : w5.frozen? ⟨b13, 1, none⟩ = false := HAP5.out.1.frozen 1; have A165 := Lib.hid (HK16.out w5 hg5)))
          have HD6 := Lib.hid HAP5.out.2
          have A166 : Hid (At (w5.setCell ⟨b13, 1, none⟩ (.slice A5 (nF + 1) c5)) b16 72 (rcA x)) := A165.out.other (p := ⟨b13, 1, none⟩) (show b16 ≠ b13 by omega) _
          generalize w5.setCell ⟨b13, 1, none⟩ (.slice A5 (nF + 1) c5) = wf at HD6 A166 ⊢
          clear HAP5 q15 f15 ho5 hg5 hb5 A165 OWN5 LN5 HSZ5 pf5
          have HN7 : Hid ((F ++ [c]).length = nF + 1) := by show _ = _; rw [List.length_append, HNF.out]; rfl
          have HM7 : Hid (nF + 1 + 1 = (F ++ [c]).length + 1) := by show _ = _; rw [HN7.out]
          have OWN7 : Hid ((wf.alloc (.cells (rcA x) 72)).ownsRow z5.heap.size 72 4 (.slice A5 (nF + 1) c5) (nF + 1) (rcL (F ++ [c]))) := by
            have := own_under HD6.out.own ((Below.refl _ wf).alloc (Nat.le_refl _) (.cells (rcA x) 72)) (Nat.le_refl _)
            rw [HN7.out] at this
            exact this
          have LN7 : Hid (Lies (wf.alloc (.cells (rcA x) 72)) (wf.alloc (.cells (rcA x) 72)).heap.size 4 (some ⟨wf.heap.size, 0, none⟩) 1 (rcL [x])) := lies_rc (At.new wf 72 (rcA x))
          have HSZ7 : Hid (z5.heap.size ≤ (wf.alloc (.cells (rcA x) 72)).heap.size) := by have := HD6.out.mod.size; show _ ≤ _; simp; omega
          have pf7 : wf.cell? ⟨b13, 1, none⟩ = some (.slice A5 (nF + 1) c5) := HD6.out.box.cell 1
          go_wp2_with ((with_reducible show wpList _ _ _ (_ :: _) _ _); first
        | refine wpList_load_at 72 114 (.tmp 16) rfl rfl rfl b16 rfl (rcA x) 4 strrC rfl A166.out ?_
        | refine wpList_lit1r rfl 115 (.tmp 114) 26 72 4 zcC (rcA x) rfl rfl rfl Tryz.underlying26 (by kernel_rfl) (by omega) (by omega) rfl ?_
        | (at_builtin; refine wpList_app2 _ rfl (.tmp 113) (.tmp 115) 26 rfl z5.heap.size 72 i0 zcC 4 32 Tryz.underlying26 hi0 hz0 hz1 hz2 rfl (by omega) (.slice A5 (nF + 1) c5) (nF + 1) (rcL (F ++ [c])) rfl OWN7.out _ (some ⟨wf.heap.size, 0, none⟩) 1 1 (rcL [x]) rfl LN7.out (rc_one1 [x]) (by omega) (by simp only [maxLen]; omega) (by omega) HSZ7.out ?_; intro v7 w7 ho7 hg7 hb7; obtain ⟨A7, c7, rfl, _⟩ := own_slice ho7; have HAP7 := Lib.hid (HD6.out.app (i := 1) (x := x) h13 HM7.out ho7 hg7 rfl); have q17 : w7.cell? ⟨b13, 1, none⟩ = some (.slice A5 (nF + 1) c5) := HAP7.out.1.cell 1; have f17 : w7.frozen? ⟨b13, 1, none⟩ = false := HAP7.out.1.frozen 1))
          exact ⟨⟨k + 1, true, (F ++ [c]) ++ [x], nF + 1 + 1, A7, c7, by omega, rfl, by go_num, Lib.hid (by rw [List.length_append, HN7.out]; rfl), Lib.hid (by have := HLS.out.yes hl (by rw [HX.out]; exact HC2.out); rw [HX.out] at this; exact this), Lib.hid HAP7.out.2⟩, by simp [intOf]; omega⟩
      · obtain rfl : n2 = k := by omega
        have HFIN := Lib.hid (HLS.out.fin hl2.symm)
        have h8z5 : b8 < z5.heap.size := by omega
        cases dd
        · have HN5 := HNF
          have HM5 : Hid (nF + 1 = F.length + 1) := by show _ = _; rw [HNF.out]
          have HK8 : Hid (∀ w5, (wr.alloc (.cells (rcA c) 72)).grownBy w5 (Value.slice AF nF cF).ownBlock → At w5 b8 28 (rtA none none 0 0 0 0)) := fun w5 hg => (A8R.out.alloc _).grown hg (fun e => by have := (HS.out.own.lt b8 e.symm).1; omega)
          have OWN5 : Hid ((wr.alloc (.cells (rcA c) 72)).ownsRow z5.heap.size 72 4 (.slice AF nF cF) (nF) (rcL (F))) := by
            have := own_under HS.out.own ((Below.refl _ wr).alloc (Nat.le_refl _) (.cells (rcA c) 72)) (Nat.le_refl _)
            rw [HN5.out] at this
            exact this
          have LN5 : Hid (Lies (wr.alloc (.cells (rcA c) 72)) (wr.alloc (.cells (rcA c) 72)).heap.size 4 (some ⟨wr.heap.size, 0, none⟩) 1 (rcL [c])) := lies_rc (At.new wr 72 (rcA c))
          have HSZ5 : Hid (z5.heap.size ≤ (wr.alloc (.cells (rcA c) 72)).heap.size) := by have := HS.out.mod.size; show _ ≤ _; simp; omega
          have pf5 : wr.cell? ⟨b13, 1, none⟩ = some (.slice AF (nF) cF) := HS.out.box.cell 1
          go_upto_region 24 with ((with_reducible show wpList _ _ _ (_ :: _) _ _); first
        | refine wpList_load_at 72 122 (.tmp 12) rfl rfl rfl b12 rfl (rcA c) 4 strrC rfl A12R.out ?_
        | refine wpList_lit1r rfl 123 (.tmp 122) 26 72 4 zcC (rcA c) rfl rfl rfl Tryz.underlying26 (by kernel_rfl) (by omega) (by omega) rfl ?_
        | (at_builtin; refine wpList_app2 _ rfl (.tmp 121) (.tmp 123) 26 rfl z5.heap.size 72 i0 zcC 4 32 Tryz.underlying26 hi0 hz0 hz1 hz2 rfl (by omega) (.slice AF (nF) cF) (nF) (rcL (F)) rfl OWN5.out _ (some ⟨wr.heap.size, 0, none⟩) 1 1 (rcL [c]) rfl LN5.out (rc_one1 [c]) (by omega) (by simp only [maxLen]; omega) (by omega) HSZ5.out ?_; intro v5 w5 ho5 hg5 hb5; obtain ⟨A5, c5, rfl, _⟩ := own_slice ho5; have HAP5 := Lib.hid (HS.out.app (i := 1) (x := c) h13 HM5.out ho5 hg5 rfl); have q15 : w5.cell? ⟨b13, 1, none⟩ = some (.slice AF (nF) cF) := HAP5.out.1.cell 1; have f15 : w5.frozen? ⟨b13, 1, none⟩ = false := HAP5.out.1.frozen 1; have A85 := Lib.hid (HK8.out w5 hg5)))
          have HD6 := Lib.hid HAP5.out.2
          have A86 : Hid (At (w5.setCell ⟨b13, 1, none⟩ (.slice A5 (nF + 1) c5)) b8 28 (rtA none none 0 0 0 0)) := A85.out.other (p := ⟨b13, 1, none⟩) (show b8 ≠ b13 by omega) _
          generalize w5.setCell ⟨b13, 1, none⟩ (.slice A5 (nF + 1) c5) = wf at HD6 A86 ⊢
          have HFF : (F ++ [c]).length = nF + 1 ∧ insA a u.held c u.queue = F ++ [c] := ⟨by rw [List.length_append, HNF.out]; rfl, by rw [HFIN.out]; rfl⟩
          clear HAP5 q15 f15 ho5 hg5 hb5 A85 OWN5 LN5 HSZ5 pf5
          have A13F : Hid (At wf b13 28 (rtA A1 A5 n1 c1 (nF + 1) c5)) := HD6.out.box
          go_wp2_with ((with_reducible show wpList _ _ _ (_ :: _) _ _); first
            | refine wpList_load_at 28 126 (.tmp 13) rfl rfl rfl b13 rfl (rtA A1 A5 n1 c1 (nF + 1) c5) 2 strT rfl A13F.out ?_
            | (refine wpList_store_at 28 (.tmp 8) (.tmp 126) rfl rfl rfl b8 rfl (rtA A1 A5 n1 c1 (nF + 1) c5) (rtA none none 0 0 0 0) 2 rfl strT rfl rfl (rtA_one _ _ _ _ _ _) A86.out ?_; intro w9 ha9 hg9))
          refine bodyPost_ret (v := .tuple #[.agg (rtA A1 A5 n1 c1 (nF + 1) c5), .int .i64 12]) ?_ rfl ?_
          · exact results_at2 (p := 8) (t := 9) (g := b8) (n := 2) (cs := rtA A1 A5 n1 c1 (nF + 1) c5) rfl ha9 strT rfl rfl rfl
          · have hz5 := BZ.out.size
            have hzz := HB.out.size
            have hbf : Below w.heap.size w wf := Mod.below (HB.out.trans (BZ.out.mono hzz)) HD6.out.mod (fun j hj => by omega) (by omega)
            have hb9 : Below w.heap.size w w9 := hbf.grown hg9 hbf.size (fun j hj => by injection hj with hj; omega)
            have ho9 := HD6.out.own.kept hg9 (.inr (fun e => by have := (HD6.out.own.lt b8 e).1; omega))
            rw [HFF.1] at ho9
            rw [HEX.out]
            refine ⟨A1, n1, c1, A5, nF + 1, c5, rfl, ⟨H0.out.h.below hb9, ?_⟩, hb9⟩
            show Lz X0 w9 4 A5 (nF + 1) (rcL (insA a u.held c u.queue))
            rw [HFF.2]
            exact lz_own_off ho9 (fun j hj e => by have h1 := (ho9.lt j e.symm).1; have h2 := HX0.out j hj; omega)
        · have HFF : F.length = nF ∧ insA a u.held c u.queue = F := ⟨HNF.out, by rw [HFIN.out]; simp⟩
          have A13F : Hid (At wr b13 28 (rtA A1 AF n1 c1 (nF) cF)) := HS.out.box
          go_wp2_with ((with_reducible show wpList _ _ _ (_ :: _) _ _); first
            | refine wpList_load_at 28 126 (.tmp 13) rfl rfl rfl b13 rfl (rtA A1 AF n1 c1 (nF) cF) 2 strT rfl A13F.out ?_
            | (refine wpList_store_at 28 (.tmp 8) (.tmp 126) rfl rfl rfl b8 rfl (rtA A1 AF n1 c1 (nF) cF) (rtA none none 0 0 0 0) 2 rfl strT rfl rfl (rtA_one _ _ _ _ _ _) A8R.out ?_; intro w9 ha9 hg9))
          refine bodyPost_ret (v := .tuple #[.agg (rtA A1 AF n1 c1 (nF) cF), .int .i64 12]) ?_ rfl ?_
          · exact results_at2 (p := 8) (t := 9) (g := b8) (n := 2) (cs := rtA A1 AF n1 c1 (nF) cF) rfl ha9 strT rfl rfl rfl
          · have hz5 := BZ.out.size
            have hzz := HB.out.size
            have hbf : Below w.heap.size w wr := Mod.below (HB.out.trans (BZ.out.mono hzz)) HS.out.mod (fun j hj => by omega) (by omega)
            have hb9 : Below w.heap.size w w9 := hbf.grown hg9 hbf.size (fun j hj => by injection hj with hj; omega)
            have ho9 := HS.out.own.kept hg9 (.inr (fun e => by have := (HS.out.own.lt b8 e).1; omega))
            rw [HFF.1] at ho9
            rw [HEX.out]
            refine ⟨A1, n1, c1, AF, nF, cF, rfl, ⟨H0.out.h.below hb9, ?_⟩, hb9⟩
            show Lz X0 w9 4 AF (nF) (rcL (insA a u.held c u.queue))
            rw [HFF.2]
            exact lz_own_off ho9 (fun j hj e => by have h1 := (ho9.lt j e.symm).1; have h2 := HX0.out j hj; omega)
end Go.Proofs.YthbifccankfngaaGreatDoor
