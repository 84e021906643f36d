/-
  The example says yes.
  Conditions: none.
-/
import Derived.Test.YtjbohnnknfcjeaaSO
namespace Go.Proofs.Ytjbohnnknfcjeaa
open Go.RowKit
attribute [local go_sem] Oper.semAt_some
set_option maxRecDepth 20000

theorem lz_at {w : World} {g n : Nat} {l : List Nat} (h : At w g 23 (UC l).toArray) (hn : l.length = n) : Lz (fun _ => False) w 1 (some ⟨g, 0, none⟩) n (UC l) :=
  ⟨by rw [UC_length, hn]; omega, fun _ => ⟨g, 0, rfl, fun h => h, h.lt, fun j u hu => by
    rw [Nat.zero_add, h.cell, List.getElem?_toArray]
    exact hu⟩⟩
theorem lz_lit (w : World) (l : List Nat) {n : Nat} (hn : l.length = n) : Lz (fun _ => False) (w.alloc (.cells (UC l).toArray 23)) 1 (some ⟨w.heap.size, 0, none⟩) n (UC l) := lz_at (At.new w _ _) hn
theorem len_w1 : w1L.length = 2 := rfl
theorem len_w2 : w2L.length = 3 := rfl
/-- The two scales of the example. -/
structure Wk (w : World) (g1 g5 : Nat) (z : World) : Prop where
  a1 : At z g1 27 (scA w1L)
  a5 : At z g5 27 (scA w2L)
  b : Below w.heap.size w z
theorem Wk.under {w z y : World} {g1 g5 : Nat} (h : Wk w g1 g5 z) (hb : Below z.heap.size z y) : Wk w g1 g5 y := ⟨h.a1.under hb h.a1.lt, h.a5.under hb h.a5.lt, h.b.trans (hb.mono h.b.size)⟩
theorem Wk.alloc {w z : World} {g1 g5 : Nat} (h : Wk w g1 g5 z) (o : Obj) : Wk w g1 g5 (z.alloc o) := ⟨h.a1.alloc o, h.a5.alloc o, h.b.alloc h.b.size o⟩
theorem cells_w1 {z : World} {g : Nat} (h : At z g 27 (scA w1L)) : z.cell? ⟨g, 0, none⟩ = some (.int .i64 2) ∧ z.cell? ⟨g, 1, none⟩ = some (.int .u32 10) ∧ z.cell? ⟨g, 2, none⟩ = some (.int .u32 20) ∧ z.cell? ⟨g, 3, none⟩ = some (.int .u32 0) ∧ z.cell? ⟨g, 4, none⟩ = some (.int .u32 0) ∧ z.cell? ⟨g, 5, none⟩ = some (.int .u32 0) ∧ z.cell? ⟨g, 6, none⟩ = some (.int .u32 0) ∧ z.cell? ⟨g, 7, none⟩ = some (.int .u32 0) := ⟨h.cell 0, h.cell 1, h.cell 2, h.cell 3, h.cell 4, h.cell 5, h.cell 6, h.cell 7⟩
theorem cells_w2 {z : World} {g : Nat} (h : At z g 27 (scA w2L)) : z.cell? ⟨g, 0, none⟩ = some (.int .i64 3) ∧ z.cell? ⟨g, 1, none⟩ = some (.int .u32 10) ∧ z.cell? ⟨g, 2, none⟩ = some (.int .u32 15) ∧ z.cell? ⟨g, 3, none⟩ = some (.int .u32 20) ∧ z.cell? ⟨g, 4, none⟩ = some (.int .u32 0) ∧ z.cell? ⟨g, 5, none⟩ = some (.int .u32 0) ∧ z.cell? ⟨g, 6, none⟩ = some (.int .u32 0) ∧ z.cell? ⟨g, 7, none⟩ = some (.int .u32 0) := ⟨h.cell 0, h.cell 1, h.cell 2, h.cell 3, h.cell 4, h.cell 5, h.cell 6, h.cell 7⟩
set_option maxHeartbeats 12800000 in
theorem works_any (w : World) : Calls Try.prog 7 #[] w (RetB w (.bool true)) := by
  have hz0 : (#[.int .i64 0, .int .u32 0, .int .u32 0, .int .u32 0, .int .u32 0, .int .u32 0, .int .u32 0, .int .u32 0] : Array Value) = zS := rfl
  have HL1 := Lib.hid (lz_lit w w1L len_w1)
  have HB1 : Hid (Below w.heap.size w (w.alloc (.cells (UC w1L).toArray 23))) := (Below.refl _ w).alloc (Nat.le_refl _) _
  go_enter Try.func7, Try.ntmps7
  go_wp2_with fail
  refine (Of_any _ 2 2 w1L _ HL1.out).mono ?_
  rintro e z ⟨rfl, hb⟩
  have HB2 := Lib.hid (HB1.out.trans (hb.mono HB1.out.size))
  clear hb HL1 HB1
  rw [ofV_w1]
  go_upto_region 2 with (refine wpList_store_new 27 (.tmp 1) (.tmp 20) rfl rfl rfl z.heap.size z rfl rfl (scA w1L) zS 8 rfl strS sz_w1 zS_size (scA_one _) rfl ?_)
  have HA1 : Hid (At (z.alloc (.cells (scA w1L) 27)) z.heap.size 27 (scA w1L)) := At.new z _ _
  have HB3 : Hid (Below w.heap.size w (z.alloc (.cells (scA w1L) 27))) := HB2.out.alloc HB2.out.size _
  generalize z.alloc (.cells (scA w1L) 27) = z1 at HA1 HB3 ⊢
  generalize z.heap.size = g1 at HA1 ⊢
  clear HB2
  have HL2 := Lib.hid (lz_lit z1 [10, 10] (n := 2) rfl)
  have HA2 := Lib.hid (HA1.out.alloc (.cells (UC [10, 10]).toArray 23))
  have HB4 := Lib.hid (HB3.out.alloc HB3.out.size (.cells (UC [10, 10]).toArray 23))
  clear HA1 HB3
  go_wp2_with fail
  refine (Of_any _ 2 2 [10, 10] _ HL2.out).mono ?_
  rintro e z2 ⟨rfl, hb⟩
  have HB5 := Lib.hid (HB4.out.trans (hb.mono HB4.out.size))
  have HA3 := Lib.hid (HA2.out.under hb HA2.out.lt)
  clear hb HL2 HB4 HA2
  rw [ofV_no']
  go_upto_region 3 with (refine wpList_store_new 27 (.tmp 3) (.tmp 25) rfl rfl rfl z2.heap.size z2 rfl rfl zS zS 8 rfl strS zS_size zS_size zS_one rfl ?_)
  have HA4 := Lib.hid (HA3.out.alloc (.cells zS 27))
  have HB6 := Lib.hid (HB5.out.alloc HB5.out.size (.cells zS 27))
  generalize z2.alloc (.cells zS 27) = z3 at HA4 HB6 ⊢
  generalize z2.heap.size = g3 at *
  clear HB5 HA3
  go_wp2_with (refine wpList_load_at 27 28 (.tmp 1) rfl rfl rfl g1 rfl (scA w1L) 8 strS sz_w1 HA4.out ?_)
  refine (sCut_any w1L gd_w1 15 _).mono ?_
  rintro e z4 ⟨rfl, hb⟩
  have HB7 := Lib.hid (HB6.out.trans (hb.mono HB6.out.size))
  have HA5 := Lib.hid (HA4.out.under hb HA4.out.lt)
  clear hb HA4 HB6
  rw [cutV_w1]
  go_upto_region 4 with (refine wpList_store_new 27 (.tmp 5) (.tmp 30) rfl rfl rfl z4.heap.size z4 rfl rfl (scA w2L) zS 8 rfl strS sz_w2 zS_size (scA_one _) rfl ?_)
  have HW : Hid (Wk w g1 z4.heap.size (z4.alloc (.cells (scA w2L) 27))) := ⟨HA5.out.alloc _, At.new z4 _ _, HB7.out.alloc HB7.out.size _⟩
  generalize z4.alloc (.cells (scA w2L) 27) = z5 at HW ⊢
  generalize z4.heap.size = g5 at HW ⊢
  clear HB7 HA5
  go_wp2_with (refine wpList_load_at 27 34 (.tmp 1) rfl rfl rfl g1 rfl (scA w1L) 8 strS sz_w1 HW.out.a1 ?_)
  refine (sCut_any w1L gd_w1 20 _).mono ?_
  rintro e z6 ⟨rfl, hb⟩
  have HW6 := Lib.hid (HW.out.under hb)
  clear hb HW
  rw [cutV_w1']
  go_upto_region 5 with (refine wpList_store_new 27 (.tmp 8) (.tmp 36) rfl rfl rfl z6.heap.size z6 rfl rfl (scA w1L) zS 8 rfl strS sz_w1 zS_size (scA_one _) rfl ?_)
  have HW7 := Lib.hid (HW6.out.alloc (.cells (scA w1L) 27))
  generalize z6.alloc (.cells (scA w1L) 27) = z7 at HW7 ⊢
  generalize z6.heap.size = g8
  clear HW6
  go_wp2_with (refine wpList_load_at 27 40 (.tmp 5) rfl rfl rfl g5 rfl (scA w2L) 8 strS sz_w2 HW7.out.a5 ?_)
  refine (sEnds_any w2L gd_w2 1 (by decide) _).mono ?_
  rintro e z8 ⟨rfl, hb⟩
  have HW8 := Lib.hid (HW7.out.under hb)
  clear hb HW7
  rw [least_w2, most_w2]
  go_upto_region 6 with fail
  have HL3 := Lib.hid (lz_lit z8 [5, 1, 9, 9] (n := 4) rfl)
  have HW9 := Lib.hid (HW8.out.alloc (.cells (UC [5, 1, 9, 9]).toArray 23))
  clear HW8
  go_wp2_with fail
  refine (Middle_any _ 4 4 [5, 1, 9, 9] _ HL3.out (by decide)).mono ?_
  rintro e z9 ⟨x, ok, rfl, hm, hb⟩
  obtain ⟨rfl, rfl⟩ := mid_a_is hm
  have HW10 := Lib.hid (HW9.out.under hb)
  clear hb HW9 hm HL3
  go_upto_region 7 with fail
  have HL4 := Lib.hid (lz_lit z9 [3, 3] (n := 2) rfl)
  have HW11 := Lib.hid (HW10.out.alloc (.cells (UC [3, 3]).toArray 23))
  clear HW10
  go_wp2_with fail
  refine (Middle_any _ 2 2 [3, 3] _ HL4.out (by decide)).mono ?_
  rintro e y0 ⟨x, ok, rfl, hm, hb⟩
  obtain ⟨rfl, rfl⟩ := mid_b_is hm
  have HW12 := Lib.hid (HW11.out.under hb)
  clear hb HW11 hm HL4
  go_upto_region 8 with fail
  obtain ⟨p10, p11, p12, p13, p14, p15, p16, p17⟩ := cells_w1 HW12.out.a1
  go_wp2_with fail
  refine (sLen_any w1L (by decide) _).mono ?_
  rintro e y12 ⟨rfl, hb⟩
  have HW13 := Lib.hid (HW12.out.under hb)
  clear p10 p11 p12 p13 p14 p15 p16 p17
  clear hb HW12
  rw [len_w1]
  obtain ⟨p10, p11, p12, p13, p14, p15, p16, p17⟩ := cells_w1 HW13.out.a1
  go_wp2_with fail
  refine (sAt_any w1L gd_w1 10 _).mono ?_
  rintro e y13 ⟨rfl, hb⟩
  have HW14 := Lib.hid (HW13.out.under hb)
  clear p10 p11 p12 p13 p14 p15 p16 p17
  clear hb HW13
  rw [at_w1]
  obtain ⟨p10, p11, p12, p13, p14, p15, p16, p17⟩ := cells_w1 HW14.out.a1
  go_wp2_with fail
  refine (sAt_any w1L gd_w1 9 _).mono ?_
  rintro e y14 ⟨rfl, hb⟩
  have HW15 := Lib.hid (HW14.out.under hb)
  clear p10 p11 p12 p13 p14 p15 p16 p17
  clear hb HW14
  rw [at_w1']
  obtain ⟨p50, p51, p52, p53, p54, p55, p56, p57⟩ := cells_w2 HW15.out.a5
  go_wp2_with fail
  refine (sLen_any w2L (by decide) _).mono ?_
  rintro e y15 ⟨rfl, hb⟩
  have HW16 := Lib.hid (HW15.out.under hb)
  clear p50 p51 p52 p53 p54 p55 p56 p57
  clear hb HW15
  rw [len_w2]
  obtain ⟨p10, p11, p12, p13, p14, p15, p16, p17⟩ := cells_w1 HW16.out.a1
  go_wp2_with fail
  refine (sSame_any w1L w1L (by decide) (by decide) true eq_w11 _).mono ?_
  rintro e y16 ⟨rfl, hb⟩
  have HW17 := Lib.hid (HW16.out.under hb)
  clear p10 p11 p12 p13 p14 p15 p16 p17
  clear hb HW16
  obtain ⟨p10, p11, p12, p13, p14, p15, p16, p17⟩ := cells_w1 HW17.out.a1
  obtain ⟨p50, p51, p52, p53, p54, p55, p56, p57⟩ := cells_w2 HW17.out.a5
  go_wp2_with fail
  refine (sSame_any w1L w2L (by decide) (by decide) false eq_w12 _).mono ?_
  rintro e y17 ⟨rfl, hb⟩
  have HW18 := Lib.hid (HW17.out.under hb)
  clear p10 p11 p12 p13 p14 p15 p16 p17 p50 p51 p52 p53 p54 p55 p56 p57
  clear hb HW17
  obtain ⟨p50, p51, p52, p53, p54, p55, p56, p57⟩ := cells_w2 HW18.out.a5
  go_wp2_with fail
  refine (sCuts_any w2L (by decide) _).mono ?_
  rintro e y18 ⟨A, c, rfl, hr⟩
  have HB := (HW18.out.under hr.below).b
  clear p50 p51 p52 p53 p54 p55 p56 p57
  clear hr HW18
  rw [len_w2]
  go_wp2_with fail
  go_ret
  exact ⟨rfl, HB⟩
end Go.Proofs.Ytjbohnnknfcjeaa
