/-
  The law's example.
  Conditions: none beyond the two tables.
-/
import Derived.Test.YthbifccankfngaaGreatDoorL9ZQ
namespace Go.Proofs.YthbifccankfngaaGreatDoor
open Go.RowKit Go.Shelf
attribute [local go_sem] Oper.semAt_some
set_option maxRecDepth 20000

theorem Wq.box {w0 w : World} {g : Nat} {X : Nat → Prop} {u : TR} {ps : List (Addr × Value)} (h : Wq w0 w g X u ps) : Wq w0 (w.alloc (.cells (rsA wr5) 33)) g X u ((⟨w.heap.size, 0, none⟩, .int .i64 2) :: (⟨w.heap.size, 1, none⟩, .int .u64 5) :: ps) := by
  have hal : Below w.heap.size w (w.alloc (.cells (rsA wr5) 33)) := (Below.refl _ w).alloc (Nat.le_refl _) _
  have ha := At.new w 33 (rsA wr5)
  obtain ⟨s, hs⟩ := h.ex
  have hn : ¬ X w.heap.size := fun hk => by have := hs.tt.lt _ hk; omega
  exact ((h.below hal).cons (p := ⟨w.heap.size, 1, none⟩) (ha.cell 1) hn).cons (p := ⟨w.heap.size, 0, none⟩) (ha.cell 0) hn
theorem two_range {w : World} {b o : Nat} {u v : Value} (h1 : w.cell? ⟨b, o, none⟩ = some u) (h2 : w.cell? ⟨b, o + 1, none⟩ = some v) : w.rangeAt b o [u, v] := fun j x hx => by
  match j, hx with
  | 0, hx => injection hx with hx; subst hx; exact h1
  | 1, hx => injection hx with hx; subst hx; exact h2
theorem exec_eqC25 {o : Oper} {a : Act} {w : World} (x y : Operand) (ho : o.op = .binOp .eql 54 x y 54) (hx : a.eval x = .agg #[.int .u64 2, .int .i64 5]) (hy : a.eval y = .agg #[.int .u64 2, .int .i64 5]) : (execOp a.eval o).run Tryz.prog w = .ok (.value (.bool true)) w := by
  unfold execOp
  rw [ho]
  simp only [hx, hy]
  go_simp
theorem grd_below {w w' : World} (h : GrD w w') : Below w.heap.size w w' := by
  obtain ⟨q, os, rfl⟩ := h
  exact ⟨rfl, rfl, rfl, by simp [Go.Sort.grow], fun k hk => by
    have := Go.Sort.heap_grow_old (w.drewN q) os (k := k) hk
    exact this⟩
theorem wr5_ok : RsOk wr5 := ⟨⟨by decide, by decide⟩, by unfold U64; decide⟩
set_option maxHeartbeats 12800000 in
theorem works_any (w : World) (hT : Tab w) : Calls Tryz.prog 6 #[] w (RetB w (.bool true)) := by
  have HT := Lib.hid hT
  clear hT
  go_enter Tryz.func6, Tryz.ntmps6
  go_wp2_with fail
  refine (new_any w).mono ?_
  rintro e z1 ⟨g, X0, rfl, hg, hx, hb⟩
  have HG := Lib.hid hg
  have HX := Lib.hid hx
  have HB := Lib.hid hb
  clear hg hx hb
  go_upto_region 5 with ((with_reducible show wpList _ _ _ (⟨none, _, _, _, _, _⟩ :: _) _ _); refine wpList_store_new 33 (.tmp 2) (.tmp 17) rfl rfl rfl z1.heap.size z1 rfl rfl (rsA wr5) (rsA (0, 0)) 2 rfl strR rfl rfl (rsA_one _) rfl ?_)
  have HQ1 : Hid (Wq w (z1.alloc (.cells (rsA wr5) 33)) g X0 ⟨[], []⟩ [(⟨z1.heap.size, 0, none⟩, .int .i64 2), (⟨z1.heap.size, 1, none⟩, .int .u64 5)]) := by
    have hal : Below z1.heap.size z1 (z1.alloc (.cells (rsA wr5) 33)) := (Below.refl _ z1).alloc (Nat.le_refl _) _
    have hlow := HB.out.trans (hal.mono HB.out.size)
    have hs := HT.out.size
    have ha := At.new z1 33 (rsA wr5)
    have hn : ¬ X0 z1.heap.size := fun hk => by have := HG.out.lt _ hk; omega
    have h0 : Wq w (z1.alloc (.cells (rsA wr5) 33)) g X0 ⟨[], []⟩ [] := ⟨⟨emptyS, HG.out.below hal, rel_empty, ⟨(fun c h => by cases h), (fun c h => by cases h)⟩, by decide, fun k hk => by have := HX.out k hk; omega, tab_mod HT.out (Mod.of_below hlow (fun _ => False)) (fun _ h => h.elim)⟩, Kp.nil _ _, hlow, HX.out⟩
    exact (h0.cons (p := ⟨z1.heap.size, 1, none⟩) (ha.cell 1) hn).cons (p := ⟨z1.heap.size, 0, none⟩) (ha.cell 0) hn
  generalize z1.alloc (.cells (rsA wr5) 33) = y1 at HQ1 ⊢
  generalize z1.heap.size = b2 at HQ1 ⊢
  clear HG HX HB
  have R1 : Hid (y1.rangeAt b2 0 (encR wr5)) := Wq.res HQ1.out (by simp [wr5]) (by simp [wr5])
  have HC := Lib.hid (show Calls Tryz.prog 18 #[.pointer (some ⟨g, 0, none⟩), .int .u64 1, .agg (rsA wr5), .int .i64 3] y1 _ from lock_q HQ1.out 1 wr5 3 (by unfold U64; decide) wr5_ok (by decide) wu1 0 wk1)
  go_upto_region 6 with ((with_reducible show wpList _ _ _ (⟨some 19, _, _, _, _, _⟩ :: _) _ _); refine wpList_load_in 33 19 (.tmp 2) rfl rfl rfl b2 0 rfl (encR wr5) 2 strR rfl R1.out ?_)
  refine HC.out.mono ?_
  rintro e y2 ⟨rfl, X1, hq⟩
  have HQ2 := Lib.hid hq
  clear hq HC R1 HQ1
  have R2 : Hid (y2.rangeAt b2 0 (encR wr5)) := Wq.res HQ2.out (by simp [wr5]) (by simp [wr5])
  have HC := Lib.hid (show Calls Tryz.prog 18 #[.pointer (some ⟨g, 0, none⟩), .int .u64 2, .agg (rsA wr5), .int .i64 5] y2 _ from lock_q HQ2.out 2 wr5 5 (by unfold U64; decide) wr5_ok (by decide) wu2 12 wk2)
  go_upto_region 7 with ((with_reducible show wpList _ _ _ (⟨some 22, _, _, _, _, _⟩ :: _) _ _); refine wpList_load_in 33 22 (.tmp 2) rfl rfl rfl b2 0 rfl (encR wr5) 2 strR rfl R2.out ?_)
  refine HC.out.mono ?_
  rintro e y3 ⟨rfl, X2, hq⟩
  have HQ3 := Lib.hid hq
  clear hq HC R2 HQ2
  have R3 : Hid (y3.rangeAt b2 0 (encR wr5)) := Wq.res HQ3.out (by simp [wr5]) (by simp [wr5])
  have HC := Lib.hid (show Calls Tryz.prog 18 #[.pointer (some ⟨g, 0, none⟩), .int .u64 3, .agg (rsA wr5), .int .i64 3] y3 _ from lock_q HQ3.out 3 wr5 3 (by unfold U64; decide) wr5_ok (by decide) wu3 12 wk3)
  go_upto_region 8 with ((with_reducible show wpList _ _ _ (⟨some 25, _, _, _, _, _⟩ :: _) _ _); refine wpList_load_in 33 25 (.tmp 2) rfl rfl rfl b2 0 rfl (encR wr5) 2 strR rfl R3.out ?_)
  refine HC.out.mono ?_
  rintro e y4 ⟨rfl, X3, hq⟩
  have HQ4 := Lib.hid hq
  clear hq HC R3 HQ3
  have R4 : Hid (y4.rangeAt b2 0 (encR wr5)) := Wq.res HQ4.out (by simp [wr5]) (by simp [wr5])
  have HC := Lib.hid (show Calls Tryz.prog 18 #[.pointer (some ⟨g, 0, none⟩), .int .u64 2, .agg (rsA wr5), .int .i64 3] y4 _ from lock_q HQ4.out 2 wr5 3 (by unfold U64; decide) wr5_ok (by decide) wu3 10 wk4)
  go_upto_region 9 with ((with_reducible show wpList _ _ _ (⟨some 28, _, _, _, _, _⟩ :: _) _ _); refine wpList_load_in 33 28 (.tmp 2) rfl rfl rfl b2 0 rfl (encR wr5) 2 strR rfl R4.out ?_)
  refine HC.out.mono ?_
  rintro e y5 ⟨rfl, X4, hq⟩
  have HQ5 := Lib.hid hq
  clear hq HC R4 HQ4
  have HC := Lib.hid (show Calls Tryz.prog 15 #[.pointer (some ⟨g, 0, none⟩), .int .u64 3] y5 _ from blocks_q HQ5.out 3 wr5 2 (by unfold U64; decide) (by kernel_rfl) 1 (by decide) (by kernel_rfl) (by kernel_rfl))
  go_upto_region 10 with fail
  refine HC.out.mono ?_
  rintro e y6 ⟨bx, ox, cx, rfl, hq⟩
  have HQ6 := Lib.hid hq
  clear hq HC HQ5
  have R6 : Hid (y6.rangeAt b2 0 (encR wr5)) := Wq.res HQ6.out (by simp [wr5]) (by simp [wr5])
  have HC := Lib.hid (show Calls Tryz.prog 14 #[.pointer (some ⟨g, 0, none⟩), .agg (rsA wr5)] y6 _ from queue_q HQ6.out wr5 wr5_ok (2, 5) (3, 3) (by kernel_rfl))
  go_upto_region 11 with ((with_reducible show wpList _ _ _ (⟨some 33, _, _, _, _, _⟩ :: _) _ _); refine wpList_load_in 33 33 (.tmp 2) rfl rfl rfl b2 0 rfl (encR wr5) 2 strR rfl R6.out ?_)
  refine HC.out.mono ?_
  rintro e y7 ⟨bh, oh, ch, rfl, hq⟩
  have HQ7 := Lib.hid hq
  clear hq HC R6 HQ6
  have HC := Lib.hid (show Calls Tryz.prog 19 #[.pointer (some ⟨g, 0, none⟩), .int .u64 1] y7 _ from release_q HQ7.out 1 (by unfold U64; decide) wu4 2 wk5)
  go_upto_region 12 with fail
  refine HC.out.mono ?_
  rintro e y8 ⟨bw, ow, cw, X5, rfl, hq⟩
  have HQ8 := Lib.hid hq
  clear hq HC HQ7
  have HC := Lib.hid (show Calls Tryz.prog 20 #[.pointer (some ⟨g, 0, none⟩), .int .u64 3] y8 _ from waits_q HQ8.out 3 (by unfold U64; decide) wr5 (by kernel_rfl))
  go_upto_region 13 with fail
  refine HC.out.mono ?_
  rintro e y9 ⟨rfl, hq⟩
  have HQ9 := Lib.hid hq
  clear hq HC HQ8
  go_upto_region 13 with ((with_reducible show wpList _ _ _ (⟨none, _, _, _, _, _⟩ :: _) _ _); refine wpList_store_new 33 (.tmp 10) (.tmp 40) rfl rfl rfl y9.heap.size y9 rfl rfl (rsA wr5) (rsA (0, 0)) 2 rfl strR rfl rfl (rsA_one _) rfl ?_)
  have HQA := Lib.hid (HQ9.out.box)
  generalize y9.alloc (.cells (rsA wr5) 33) = y10 at HQA ⊢
  generalize y9.heap.size = b10 at HQA ⊢
  have HQ10 := HQA
  clear HQA HQ9
  have HC := Lib.hid (show Calls Tryz.prog 19 #[.pointer (some ⟨g, 0, none⟩), .int .u64 2] y10 _ from release_q HQ10.out 2 (by unfold U64; decide) wu5 3 wk6)
  go_upto_region 14 with fail
  refine HC.out.mono ?_
  rintro e y11 ⟨bu, ou, cu, X6, rfl, hq⟩
  have HQ11 := Lib.hid hq
  clear hq HC HQ10
  have HC := Lib.hid (show Calls Tryz.prog 11 #[.pointer (some ⟨g, 0, none⟩)] y11 _ from things_q HQ11.out 1 (by kernel_rfl))
  go_upto_region 15 with fail
  refine HC.out.mono ?_
  rintro e y12 ⟨AT, cT, rfl, hq⟩
  have HQ12 := Lib.hid hq
  clear hq HC HQ11
  go_upto_region 15 with fail
  have qx : y12.cell? ⟨bx, ox, none⟩ = some (.int .u64 2) := HQ12.out.get (by simp)
  have qw : y12.cell? ⟨bw, ow, none⟩ = some (.int .u64 2) := HQ12.out.get (by simp)
  have qu : y12.cell? ⟨bu, ou, none⟩ = some (.int .u64 3) := HQ12.out.get (by simp)
  have RH : Hid (y12.rangeAt bh oh [.int .u64 2, .int .i64 5]) := two_range (HQ12.out.get (by simp)) (HQ12.out.get (by simp))
  have R10 : Hid (y12.rangeAt b10 0 (encR wr5)) := Wq.res HQ12.out (by simp [wr5]) (by simp [wr5])
  have R2 : Hid (y12.rangeAt b2 0 (encR wr5)) := Wq.res HQ12.out (by simp [wr5]) (by simp [wr5])
  have HC := Lib.hid (show Calls Tryz.prog 21 #[.pointer (some ⟨g, 0, none⟩), .int .u64 3, .agg (rsA wr5)] y12 _ from held_q HQ12.out 3 wr5 wr5_ok 3 (by kernel_rfl))
  have qh0 : y12.cell? ⟨bh, oh, none⟩ = some (.int .u64 2) := HQ12.out.get (by simp)
  have qh1 : y12.cell? ⟨bh, oh + 1, none⟩ = some (.int .i64 5) := HQ12.out.get (by simp)
  have qta : y12.cell? ⟨b10, 0, none⟩ = some (.int .i64 2) := HQ12.out.get (by simp)
  have qtb : y12.cell? ⟨b10, 1, none⟩ = some (.int .u64 5) := HQ12.out.get (by simp)
  have qa : y12.cell? ⟨b2, 0, none⟩ = some (.int .i64 2) := HQ12.out.get (by simp)
  have qb : y12.cell? ⟨b2, 1, none⟩ = some (.int .u64 5) := HQ12.out.get (by simp)
  clear RH R10
  go_wp2_with fail
  refine HC.out.mono ?_
  rintro e y13 ⟨rfl, hq⟩
  have HQ13 := Lib.hid hq
  clear hq HC R2 qa qb
  have qa : y13.cell? ⟨b2, 0, none⟩ = some (.int .i64 2) := HQ13.out.get (by simp)
  have qb : y13.cell? ⟨b2, 1, none⟩ = some (.int .u64 5) := HQ13.out.get (by simp)
  have R2 : Hid (y13.rangeAt b2 0 (encR wr5)) := Wq.res HQ13.out (by simp [wr5]) (by simp [wr5])
  have HC := Lib.hid (show Calls Tryz.prog 13 #[.pointer (some ⟨g, 0, none⟩), .agg (rsA wr5)] y13 _ from holders_q HQ13.out wr5 wr5_ok 1 (by kernel_rfl))
  clear qx qw qu qh0 qh1 qta qtb
  go_wp2_with fail
  refine HC.out.mono ?_
  rintro e y14 ⟨AH, cH, rfl, hq⟩
  have HQ14 := Lib.hid hq
  clear hq HC R2 qa qb
  have qa : y14.cell? ⟨b2, 0, none⟩ = some (.int .i64 2) := HQ14.out.get (by simp)
  have qb : y14.cell? ⟨b2, 1, none⟩ = some (.int .u64 5) := HQ14.out.get (by simp)
  have R2 : Hid (y14.rangeAt b2 0 (encR wr5)) := Wq.res HQ14.out (by simp [wr5]) (by simp [wr5])
  have HC := Lib.hid (show Calls Tryz.prog 22 #[.pointer (some ⟨g, 0, none⟩), .int .u64 3] y14 _ from cancel_q HQ14.out 3 (by unfold U64; decide) wu5 wk7)
  go_wp2_with fail
  refine HC.out.mono ?_
  rintro e y15 ⟨AC, cC, X7, rfl, hq⟩
  have HQ15 := Lib.hid hq
  clear hq HC R2 qa qb
  have qa : y15.cell? ⟨b2, 0, none⟩ = some (.int .i64 2) := HQ15.out.get (by simp)
  have qb : y15.cell? ⟨b2, 1, none⟩ = some (.int .u64 5) := HQ15.out.get (by simp)
  have R2 : Hid (y15.rangeAt b2 0 (encR wr5)) := Wq.res HQ15.out (by simp [wr5]) (by simp [wr5])
  have HC := Lib.hid (show Calls Tryz.prog 23 #[.agg (rsA wr5), .agg #[.int .i64 0, .int .u64 0]] y15 _ from compare_any wr5 (0, 0) y15)
  go_wp2_with fail
  refine HC.out.mono ?_
  rintro e y16 ⟨rfl, hgd⟩
  have HQ16 := Lib.hid (HQ15.out.below (grd_below hgd))
  rw [show cmpR wr5 (0, 0) = 1 from by kernel_rfl]
  clear hgd HC R2 qa qb
  have qa : y16.cell? ⟨b2, 0, none⟩ = some (.int .i64 2) := HQ16.out.get (by simp)
  have qb : y16.cell? ⟨b2, 1, none⟩ = some (.int .u64 5) := HQ16.out.get (by simp)
  have HC := Lib.hid (show Calls Tryz.prog 18 #[.pointer (some ⟨g, 0, none⟩), .int .u64 4, .agg (rsA wr5), .int .i64 0] y16 _ from lock_q HQ16.out 4 wr5 0 (by unfold U64; decide) wr5_ok (by decide) wu5 14 wk8)
  go_wp2_with fail
  refine HC.out.mono ?_
  rintro e y17 ⟨rfl, X8, hq⟩
  have HQ17 := Lib.hid hq
  clear hq HC
  go_wp2_with fail
  go_ret
  exact ⟨rfl, HQ17.out.low⟩
end Go.Proofs.YthbifccankfngaaGreatDoor
