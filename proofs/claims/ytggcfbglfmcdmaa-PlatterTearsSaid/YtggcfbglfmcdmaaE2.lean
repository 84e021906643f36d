/-
  The walk of works.
  Conditions: none.
-/
import Derived.Test.YtggcfbglfmcdmaaE1
namespace Go.Proofs.Ytggcfbglfmcdmaa
open Go.RowKit

theorem plat_self {X : Nat → Prop} {w : World} {g gs : Nat} {S : List Int} {nw fu : Int} {kp : List Bool} {dn : Bool} (h : Plat X w g gs S nw fu kp dn) : Plat (own g gs) w g gs S nw fu kp dn := by
  obtain ⟨cap, sp, A, c, h⟩ := h
  refine ⟨cap, sp, A, c, h.box, h.row, h.ne, h.cap1, h.cap2, h.lies.mono fun k hk hy => ?_, h.c1, h.c2⟩
  rcases hy with hy | hy | hy | hy
  · exact .inl hy
  · exact .inr (.inl hy)
  · exact .inl hy
  · exact .inr (.inl hy)
theorem lit2 (w : World) (a b : Int) (t : TypeId) (X : Nat → Prop) (hX : ∀ k, X k → k < w.heap.size) : Lz X (w.alloc (.cells #[.int .u8 a, .int .u8 b] t)) 1 (some ⟨w.heap.size, 0, none⟩) 2 (IL [a, b]) :=
  ⟨rfl, fun _ => ⟨w.heap.size, 0, rfl, fun h => by have := hX _ h; omega, by simp, row_range _ _ _ _ (heap_alloc_new w _)⟩⟩
theorem lit2b (w : World) (a b : Bool) (t : TypeId) (X : Nat → Prop) (hX : ∀ k, X k → k < w.heap.size) : Lz X (w.alloc (.cells #[.bool a, .bool b] t)) 1 (some ⟨w.heap.size, 0, none⟩) 2 (BL [a, b]) :=
  ⟨rfl, fun _ => ⟨w.heap.size, 0, rfl, fun h => by have := hX _ h; omega, by simp, row_range _ _ _ _ (heap_alloc_new w _)⟩⟩

section
theorem exec_eql {op : Oper} {a : Act} (u v : Operand) (ho : op.op = .binOp .eql 48 u v 48) (x y : Int) (w : World) (hu : a.eval u = .agg (secA x)) (hv : a.eval v = .agg (secA y)) :
    (execOp a.eval op).run Try.prog w = .ok (.value (.bool (x == y))) w := by
  unfold execOp
  simp only [ho, hu, hv, Sem.run_bind, run_eqGuard_agg w .eql 48 u v _ _ guard48, Result.andThen_ok, eql_sec, Sem.run_pure]
end

theorem exec_eql_same {op : Oper} {a : Act} (u v : Operand) (ho : op.op = .binOp .eql 48 u v 48) (x : Int) (w : World) (hu : a.eval u = .agg (secA x)) (hv : a.eval v = .agg (secA x)) :
    (execOp a.eval op).run Try.prog w = .ok (.value (.bool true)) w := by
  have := exec_eql (op := op) (a := a) u v ho x x w hu hv
  rwa [beq_self_eq_true] at this
theorem wp_load_sec {w : World} {ts : Array Value} {ds : List Deferred} {op : Oper} {K : Act → World → Prop} {Q : Exit → Act → World → Prop} (d : Nat) (x : Operand) (hop : op.dst = some d) (ho : op.op = .load 48 x) (b o : Nat) (hx : Act.eval ⟨ts, ds⟩ x = .pointer (some ⟨b, o, none⟩)) (v : Int) (hc : w.rangeAt b o (sec v))
    (h : K ⟨ts.setIfInBounds d (.agg (secA v)), ds⟩ w) : Oper.wp Try.prog op ⟨ts, ds⟩ w K Q := by
  refine wp_load_mid 48 x ho b o hx (sec v) _ hc Try.underlying48 rfl (by rw [sec_length]; exact arr_size) ?_
  rw [hop]
  exact h

/-- A disk with its twin, behind the call's beginning. -/
structure Two (w z : World) (g gs g2 gs2 : Nat) (S : List Int) (nw fu : Int) (kp : List Bool) (dn : Bool) : Prop where
  below : Below w.heap.size w z
  le1 : w.heap.size ≤ g
  le2 : w.heap.size ≤ gs
  p : Plat (own g gs) z g gs S nw fu kp dn
  t : Plat (own g gs) z g2 gs2 [0, 5, 6, 0] 1 (-1) [] false
  n1 : ¬ own g gs g2
  n2 : ¬ own g gs gs2
section
variable {w z z' : World} {g gs g2 gs2 : Nat} {S : List Int} {nw fu : Int} {kp : List Bool} {dn : Bool}
theorem Two.lt (h : Two w z g gs g2 gs2 S nw fu kp dn) : ∀ k, own g gs k → k < z.heap.size := fun k hk => by
  rcases hk with rfl | rfl
  · exact h.p.lt.1
  · exact h.p.lt.2.1
theorem Two.under (h : Two w z g gs g2 gs2 S nw fu kp dn) (hb : Below z.heap.size z z') : Two w z' g gs g2 gs2 S nw fu kp dn :=
  ⟨h.below.trans (hb.mono h.below.size), h.le1, h.le2, h.p.below hb, h.t.below hb, h.n1, h.n2⟩
theorem Two.turn (h : Two w z g gs g2 gs2 S nw fu kp dn) {S' : List Int} {nw' fu' : Int} {kp' : List Bool} {dn' : Bool} (hp : Plat (own g gs) z' g gs S' nw' fu' kp' dn') (hm : Mod (own g gs) z z') : Two w z' g gs g2 gs2 S' nw' fu' kp' dn' :=
  ⟨hm.below h.below (fun k hk => by rcases hk with rfl | rfl; exact h.le1; exact h.le2) h.below.size, h.le1, h.le2, hp, h.t.kept hm h.n1 h.n2 (fun _ _ h => h), h.n1, h.n2⟩
end

set_option maxHeartbeats 8000000 in
set_option maxRecDepth 100000 in
theorem works_any (w : World) : Calls Try.prog 6 #[] w fun e w' => e = .returned (.bool true) ∧ Below w.heap.size w w' := by
  go_enter Try.func6, Try.ntmps6
  go_wp2_with fail
  refine (new_ok (fun _ => False) 4 w (by omega) (by omega)).mono ?_
  rintro e w1 ⟨g, gs, rfl, hg1, hg2, hp, hb⟩
  have P1 : Hid (Plat (own g gs) w1 g gs [0, 0, 0, 0] 0 (-1) [] false) := plat_self hp
  have B1 := Lib.hid hb
  clear hp hb
  go_wp2_with fail
  refine (new_bad 0 _ (by omega)).mono ?_
  rintro e _ ⟨rfl, rfl⟩
  go_wp2_with fail
  refine (sectors_any (fun _ => False) 2 2 _ _ _ (lit2 _ _ _ _ _ (fun _ h => h.elim)) (by omega)).mono ?_
  rintro e w2 ⟨AL, cL, rfl, hoL, hbL⟩
  have P2 := Lib.hid ((P1.out.below ((Below.refl _ _).alloc (Nat.le_refl _) _)).below hbL)
  have B2 := Lib.hid ((B1.out.alloc (Nat.le_trans (Nat.le_refl _) B1.out.size) _).trans (hbL.mono (by have := B1.out.size; simp; omega)))
  have W2 := Lib.hid (write_ok (own g gs) g gs [0, 0, 0, 0] 0 (-1) [] w2 1 2 cL [5, 6] AL P2.out (by decide) rfl (by decide) (by decide) (Lz.of_own hoL (fun k hk => by
    have := P1.out.lt
    rcases hk with rfl | rfl <;> (simp; omega))) (by decide) (by decide) (by decide) (by decide) (by decide))
  clear hoL hbL
  go_wp2_with fail
  refine W2.out.mono ?_
  rintro e w3 ⟨rfl, hp3, hm3⟩
  have P3 : Hid (Plat (own g gs) w3 g gs [0, 5, 6, 0] 1 (-1) [] false) := hp3
  have B3 := Lib.hid (hm3.below B2.out (fun k hk => by rcases hk with rfl | rfl; exact hg1; exact hg2) B2.out.size)
  clear hp3 hm3
  go_wp2_with fail
  refine (sectors_any (fun _ => False) 2 2 _ _ _ (lit2 _ _ _ _ _ (fun _ h => h.elim)) (by omega)).mono ?_
  rintro e w4 ⟨AM, cM, rfl, hoM, hbM⟩
  have P4 := Lib.hid ((P3.out.below ((Below.refl _ _).alloc (Nat.le_refl _) _)).below hbM)
  have B4 := Lib.hid ((B3.out.alloc B3.out.size _).trans (hbM.mono (by have := B3.out.size; simp; omega)))
  have W4 := Lib.hid (write_no g w4 3 2 cM AM 2 (by decide) (cut_bad (own g gs) g gs [0, 5, 6, 0] 1 (-1) [] false w4 3 2 P4.out (by decide) (by decide)))
  clear hoM hbM
  go_wp2_with fail
  refine W4.out.mono ?_
  rintro e _ ⟨rfl, rfl⟩
  clear W2 W4 P1 P2 P3 B1 B2 B3
  go_wp2_with fail
  refine (twin_any (own g gs) g gs [0, 5, 6, 0] 1 (-1) [] false w4 P4.out (by decide) (by decide) (by decide) (fun k hk => by rcases hk with rfl | rfl; exact P4.out.lt.1; exact P4.out.lt.2.1)).mono ?_
  rintro e w5 ⟨g2, gs2, rfl, hg3, hg4, hpt, hbt⟩
  have T5 : Hid (Two w w5 g gs g2 gs2 [0, 5, 6, 0] 1 (-1) [] false) := by
    have hl := P4.out.lt
    refine ⟨B4.out.trans (hbt.mono B4.out.size), hg1, hg2, P4.out.below hbt, hpt, ?_, ?_⟩
    · rintro (h | h) <;> omega
    · rintro (h | h) <;> omega
  clear hpt hbt P4 B4
  go_wp2_with fail
  have T6 := Lib.hid (T5.out.under ((Below.refl _ _).alloc (Nat.le_refl _) (.cells #[.bool false, .bool true] 4)))
  refine (fuse_any (own g gs) g gs [0, 5, 6, 0] 1 (-1) [] false _ 0 _ 2 2 [false, true] T6.out.p (lit2b _ _ _ _ _ T5.out.lt) (by decide) (by decide) (by decide) T6.out.lt).mono ?_
  rintro e w6 ⟨rfl, hp6, hm6⟩
  have T7 : Hid (Two w w6 g gs g2 gs2 [0, 5, 6, 0] 1 0 [false, true] false) := T6.out.turn hp6 hm6
  clear hp6 hm6 T5 T6
  go_wp2_with fail
  refine (sectors_any (fun _ => False) 2 2 _ _ _ (lit2 _ _ _ _ _ (fun _ h => h.elim)) (by omega)).mono ?_
  rintro e w7 ⟨AN, cN, rfl, hoN, hbN⟩
  have T8 := Lib.hid ((T7.out.under ((Below.refl _ _).alloc (Nat.le_refl _) _)).under hbN)
  have W8 := Lib.hid (write_torn (own g gs) g gs [0, 5, 6, 0] 1 [false, true] w7 0 2 cN [7, 8] AN T8.out.p (by decide) rfl (by decide) (by decide) (Lz.of_own hoN (fun k hk => by have := T7.out.lt k hk; simp; omega)) (by decide) T8.out.lt)
  clear hoN hbN T7
  go_wp2_with fail
  refine W8.out.mono ?_
  rintro e w8 ⟨rfl, hp8, hm8⟩
  have T9 : Hid (Two w w8 g gs g2 gs2 [0, 8, 6, 0] 1 (-1) [] true) := T8.out.turn hp8 hm8
  clear hp8 hm8 T8 W8
  go_wp2_with fail
  refine (read_no g w8 0 1 4 (cut_down (own g gs) g gs [0, 8, 6, 0] 1 (-1) [] w8 0 1 T9.out.p (by decide) (by decide))).mono ?_
  rintro e _ ⟨rfl, rfl⟩
  go_wp2_with fail
  refine (down_any (own g gs) g gs [0, 8, 6, 0] 1 (-1) [] true w8 T9.out.p).mono ?_
  rintro e _ ⟨rfl, rfl⟩
  go_wp2_with fail
  refine (up_any (own g gs) g gs [0, 8, 6, 0] 1 (-1) [] true w8 T9.out.p (by decide) T9.out.lt).mono ?_
  rintro e w9 ⟨rfl, hp9, hm9⟩
  have TA := Lib.hid (T9.out.turn hp9 hm9)
  clear hp9 hm9 T9
  go_wp2_with fail
  refine (read_ok (own g gs) g gs [0, 8, 6, 0] 1 (-1) [] w9 0 3 TA.out.p (by decide) (by decide) (by decide)).mono ?_
  rintro e wa ⟨AR, cR, rfl, hoR, hbW⟩
  have TB := Lib.hid (TA.out.under hbW)
  have LR : Hid (Lz (fun _ => False) wa 64 AR 3 (flat [0, 8, 6])) := Lz.of_own hoR (fun _ h => h.elim)
  obtain ⟨bR, oR, rfl, _, hbR, hR⟩ := LR.out.spot (by omega)
  have R0 := Lib.hid (show wa.rangeAt bR oR (sec 0) from flat_range (k := 0) hR (by decide))
  have R1 := Lib.hid (show wa.rangeAt bR (oR + 64) (sec 8) from flat_range (k := 1) hR (by decide))
  have R2 := Lib.hid (show wa.rangeAt bR (oR + 128) (sec 6) from flat_range (k := 2) hR (by decide))
  clear hoR hbW TA hR
  go_wp2_with fail
  refine wp_region_held_drew (S := fun z => Below wa.heap.size wa z) (by kernel_rfl) (Below.refl _ _).drew (fun hS => ?_)
  refine takeH (i := 0) (d := 62) (v := ?vm0) rfl (by kernel_rfl) (by kernel_rfl) (by kernel_rfl) (fun _ _ _ h => h) rfl (by rfl) ?ym0 hS ?rm0
  case ym0 => (intro wz hz; go_simp <;> with_reducible rfl)
  simp only [List.setIfInBounds_toArray, List.set_cons_zero, List.set_cons_succ]
  refine takeH (i := 1) (d := 63) (v := ?vm1) rfl (by kernel_rfl) (by kernel_rfl) (by kernel_rfl) (fun _ _ _ h => h) rfl (by rfl) ?ym1 hS ?rm1
  case ym1 => (intro wz hz; go_simp <;> with_reducible rfl)
  simp only [List.setIfInBounds_toArray, List.set_cons_zero, List.set_cons_succ]
  refine takeH (i := 2) (d := 64) (v := ?vm2) rfl (by kernel_rfl) (by kernel_rfl) (by kernel_rfl) (fun _ _ _ h => h) rfl (by rfl) ?ym2 hS ?rm2
  case ym2 => (intro wz hz; go_simp <;> with_reducible rfl)
  simp only [List.setIfInBounds_toArray, List.set_cons_zero, List.set_cons_succ]
  refine takeH (i := 3) (d := 65) (v := ?vm3) rfl (by kernel_rfl) (by kernel_rfl) (by kernel_rfl) (fun _ _ _ h => h) rfl (by rfl) ?ym3 hS ?rm3
  case ym3 => (intro wz hz; go_simp <;> with_reducible rfl)
  simp only [List.setIfInBounds_toArray, List.set_cons_zero, List.set_cons_succ]
  refine takeH (i := 4) (d := 66) (v := ?vm4) rfl (by kernel_rfl) (by kernel_rfl) (by kernel_rfl) (fun _ _ _ h => h) rfl (by rfl) ?ym4 hS ?rm4
  case ym4 => (intro wz hz; go_simp <;> with_reducible rfl)
  simp only [List.setIfInBounds_toArray, List.set_cons_zero, List.set_cons_succ]
  refine takeH (i := 5) (d := 67) (v := ?vm5) rfl (by kernel_rfl) (by kernel_rfl) (by kernel_rfl) (fun _ _ _ h => h) rfl (by rfl) ?ym5 hS ?rm5
  case ym5 => (intro wz hz; go_simp <;> with_reducible rfl)
  simp only [List.setIfInBounds_toArray, List.set_cons_zero, List.set_cons_succ]
  refine takeH (i := 6) (d := 68) (v := ?vm6) rfl (by kernel_rfl) (by kernel_rfl) (by kernel_rfl) (fun _ _ _ h => h) rfl (by rfl) ?ym6 hS ?rm6
  case ym6 => (intro wz hz; go_simp <;> with_reducible rfl)
  simp only [List.setIfInBounds_toArray, List.set_cons_zero, List.set_cons_succ]
  refine takeH (i := 7) (d := 69) (v := ?vm7) rfl (by kernel_rfl) (by kernel_rfl) (by kernel_rfl) (fun _ _ _ h => h) rfl (by rfl) ?ym7 hS ?rm7
  case ym7 => (intro wz hz; go_simp <;> with_reducible rfl)
  simp only [List.setIfInBounds_toArray, List.set_cons_zero, List.set_cons_succ]
  refine takeH (i := 8) (d := 70) (v := ?vm8) rfl (by kernel_rfl) (by kernel_rfl) (by kernel_rfl) (fun _ _ _ h => h) rfl (by rfl) ?ym8 hS ?rm8
  case ym8 => (intro wz hz; go_simp <;> with_reducible rfl)
  simp only [List.setIfInBounds_toArray, List.set_cons_zero, List.set_cons_succ]
  refine takeH (i := 9) (d := 71) (v := ?vm9) rfl (by kernel_rfl) (by kernel_rfl) (by kernel_rfl) (fun _ _ _ h => h) rfl (by rfl) ?ym9 hS ?rm9
  case ym9 => (intro wz hz; go_simp <;> with_reducible rfl)
  simp only [List.setIfInBounds_toArray, List.set_cons_zero, List.set_cons_succ]
  refine takeH (i := 10) (d := 72) (v := ?vm10) rfl (by kernel_rfl) (by kernel_rfl) (by kernel_rfl) (fun _ _ _ h => h) rfl (by rfl) ?ym10 hS ?rm10
  case ym10 => (intro wz hz; go_simp <;> with_reducible rfl)
  simp only [List.setIfInBounds_toArray, List.set_cons_zero, List.set_cons_succ]
  refine takeH (i := 11) (d := 73) (v := ?vm11) rfl (by kernel_rfl) (by kernel_rfl) (by kernel_rfl) (fun _ _ _ h => h) rfl (by rfl) ?ym11 hS ?rm11
  case ym11 => (intro wz hz; go_simp <;> with_reducible rfl)
  simp only [List.setIfInBounds_toArray, List.set_cons_zero, List.set_cons_succ]
  refine takeH (i := 12) (d := 74) (v := ?vm12) rfl (by kernel_rfl) (by kernel_rfl) (by kernel_rfl) (fun _ _ _ h => h) rfl (by rfl) ?ym12 hS ?rm12
  case ym12 => (intro wz hz; go_simp <;> with_reducible rfl)
  simp only [List.setIfInBounds_toArray, List.set_cons_zero, List.set_cons_succ]
  refine takeH (i := 13) (d := 75) (v := ?vm13) rfl (by kernel_rfl) (by kernel_rfl) (by kernel_rfl) (fun _ _ _ h => h) rfl (by rfl) ?ym13 hS ?rm13
  case ym13 => (intro wz hz; go_simp <;> with_reducible rfl)
  simp only [List.setIfInBounds_toArray, List.set_cons_zero, List.set_cons_succ]
  refine takeH (i := 14) (d := 76) (v := ?vm14) rfl (by kernel_rfl) (by kernel_rfl) (by kernel_rfl) (fun _ _ _ h => h) rfl (by rfl) ?ym14 hS ?rm14
  case ym14 => (intro wz hz; go_simp <;> with_reducible rfl)
  simp only [List.setIfInBounds_toArray, List.set_cons_zero, List.set_cons_succ]
  refine takeH (i := 15) (d := 77) (v := ?vm15) rfl (by kernel_rfl) (by kernel_rfl) (by kernel_rfl) (fun _ _ _ h => h) rfl (by rfl) ?ym15 hS ?rm15
  case ym15 => (intro wz hz; go_simp <;> with_reducible rfl)
  simp only [List.setIfInBounds_toArray, List.set_cons_zero, List.set_cons_succ]
  refine takeH (i := 16) (d := 78) (v := ?vm16) rfl (by kernel_rfl) (by kernel_rfl) (by kernel_rfl) (fun _ _ _ h => h) rfl (by rfl) ?ym16 hS ?rm16
  case ym16 => (intro wz hz; go_simp <;> with_reducible rfl)
  simp only [List.setIfInBounds_toArray, List.set_cons_zero, List.set_cons_succ]
  refine takeH (i := 17) (d := 79) (v := ?vm17) rfl (by kernel_rfl) (by kernel_rfl) (by kernel_rfl) (fun _ _ _ h => h) rfl (by rfl) ?ym17 hS ?rm17
  case ym17 => (intro wz hz; go_simp <;> with_reducible rfl)
  simp only [List.setIfInBounds_toArray, List.set_cons_zero, List.set_cons_succ]
  refine takeH (i := 18) (d := 80) (v := ?vm18) rfl (by kernel_rfl) (by kernel_rfl) (by kernel_rfl) (fun _ _ _ h => h) rfl (by rfl) ?ym18 hS ?rm18
  case ym18 => (intro wz hz; go_simp <;> with_reducible rfl)
  simp only [List.setIfInBounds_toArray, List.set_cons_zero, List.set_cons_succ]
  refine takeH (i := 19) (d := 81) (v := ?vm19) rfl (by kernel_rfl) (by kernel_rfl) (by kernel_rfl) (fun _ _ _ h => h) rfl (by rfl) ?ym19 hS ?rm19
  case ym19 => (intro wz hz; go_simp <;> with_reducible rfl)
  simp only [List.setIfInBounds_toArray, List.set_cons_zero, List.set_cons_succ]
  refine takeH (i := 20) (d := 82) (v := ?vm20) rfl (by kernel_rfl) (by kernel_rfl) (by kernel_rfl) (fun _ _ _ h => h) rfl (by rfl) ?ym20 hS ?rm20
  case ym20 => (intro wz hz; go_simp <;> with_reducible rfl)
  simp only [List.setIfInBounds_toArray, List.set_cons_zero, List.set_cons_succ]
  refine takeH (i := 21) (d := 83) (v := ?vm21) rfl (by kernel_rfl) (by kernel_rfl) (by kernel_rfl) (fun _ _ _ h => h) rfl (by rfl) ?ym21 hS ?rm21
  case ym21 => (intro wz hz; go_simp <;> with_reducible rfl)
  simp only [List.setIfInBounds_toArray, List.set_cons_zero, List.set_cons_succ]
  refine takeH (i := 22) (d := 84) (v := ?vm22) rfl (by kernel_rfl) (by kernel_rfl) (by kernel_rfl) (fun _ _ _ h => h) rfl (by rfl) ?ym22 hS ?rm22
  case ym22 => (intro wz hz; go_simp <;> with_reducible rfl)
  simp only [List.setIfInBounds_toArray, List.set_cons_zero, List.set_cons_succ]
  refine takeH (i := 23) (d := 85) (v := ?vm23) rfl (by kernel_rfl) (by kernel_rfl) (by kernel_rfl) (fun _ _ _ h => h) rfl (by rfl) ?ym23 hS ?rm23
  case ym23 => (intro wz hz; go_simp <;> with_reducible rfl)
  simp only [List.setIfInBounds_toArray, List.set_cons_zero, List.set_cons_succ]
  refine takeH (i := 24) (d := 86) (v := ?vm24) rfl (by kernel_rfl) (by kernel_rfl) (by kernel_rfl) (fun _ _ _ h => h) rfl (by rfl) ?ym24 hS ?rm24
  case ym24 => (intro wz hz; go_simp <;> with_reducible rfl)
  simp only [List.setIfInBounds_toArray, List.set_cons_zero, List.set_cons_succ]
  refine takeH (i := 25) (d := 87) (v := ?vm25) rfl (by kernel_rfl) (by kernel_rfl) (by kernel_rfl) (fun _ _ _ h => h) rfl (by rfl) ?ym25 hS ?rm25
  case ym25 => (intro wz hz; go_simp <;> with_reducible rfl)
  simp only [List.setIfInBounds_toArray, List.set_cons_zero, List.set_cons_succ]
  refine takeH (i := 26) (d := 88) (v := ?vm26) rfl (by kernel_rfl) (by kernel_rfl) (by kernel_rfl) (fun _ _ _ h => h) rfl (by rfl) ?ym26 hS ?rm26
  case ym26 => (intro wz hz; go_simp <;> with_reducible rfl)
  simp only [List.setIfInBounds_toArray, List.set_cons_zero, List.set_cons_succ]
  refine wpAnyH_ready (rs := [27]) (by kernel_rfl) (by simp) ?_
  refine AllReadyH.cons rfl (fun K hK => ?_) AllReadyH.nil
  go_simp
  refine (down_any (own g gs) g gs [0, 8, 6, 0] 1 (-1) [] false _ (TB.out.under hS).p).mono ?_
  rintro e w3 ⟨rfl, rfl⟩
  have hb := trivial
  refine hK.out _ _ (hS) (fun hT => ?_)
  clear hK hb hS
  have hS := hT
  clear hT
  refine takeH (i := 28) (d := 90) (v := ?vm28) rfl (by kernel_rfl) (by kernel_rfl) (by kernel_rfl) (fun _ _ _ h => h) rfl (by rfl) ?ym28 hS ?rm28
  case ym28 => (intro wz hz; go_simp <;> with_reducible rfl)
  simp only [List.setIfInBounds_toArray, List.set_cons_zero, List.set_cons_succ]
  refine takeH (i := 29) (d := 91) (v := ?vm29) rfl (by kernel_rfl) (by kernel_rfl) (by kernel_rfl) (fun _ _ _ h => h) rfl (by rfl) ?ym29 hS ?rm29
  case ym29 => (intro wz hz; go_simp <;> with_reducible rfl)
  simp only [List.setIfInBounds_toArray, List.set_cons_zero, List.set_cons_succ]
  refine takeH (i := 30) (d := 92) (v := ?vm30) rfl (by kernel_rfl) (by kernel_rfl) (by kernel_rfl) (fun _ _ _ h => h) rfl (by rfl) ?ym30 hS ?rm30
  case ym30 => (intro wz hz; go_simp <;> with_reducible rfl)
  simp only [List.setIfInBounds_toArray, List.set_cons_zero, List.set_cons_succ]
  refine takeH (i := 31) (d := 93) (v := ?vm31) rfl (by kernel_rfl) (by kernel_rfl) (by kernel_rfl) (fun _ _ _ h => h) rfl (by rfl) ?ym31 hS ?rm31
  case ym31 => (intro wz hz; go_simp <;> with_reducible rfl)
  simp only [List.setIfInBounds_toArray, List.set_cons_zero, List.set_cons_succ]
  refine takeH (i := 32) (d := 94) (v := ?vm32) rfl (by kernel_rfl) (by kernel_rfl) (by kernel_rfl) (fun _ _ _ h => h) rfl (by rfl) ?ym32 hS ?rm32
  case ym32 => (intro wz hz; go_simp <;> with_reducible rfl)
  simp only [List.setIfInBounds_toArray, List.set_cons_zero, List.set_cons_succ]
  refine takeH (i := 33) (d := 95) (v := ?vm33) rfl (by kernel_rfl) (by kernel_rfl) (by kernel_rfl) (fun _ _ _ h => h) rfl (by rfl) ?ym33 hS ?rm33
  case ym33 => (intro wz hz; go_simp <;> with_reducible rfl)
  simp only [List.setIfInBounds_toArray, List.set_cons_zero, List.set_cons_succ]
  refine takeH (i := 34) (d := 96) (v := ?vm34) rfl (by kernel_rfl) (by kernel_rfl) (by kernel_rfl) (fun _ _ _ h => h) rfl (by rfl) ?ym34 hS ?rm34
  case ym34 => (intro wz hz; go_simp <;> with_reducible rfl)
  simp only [List.setIfInBounds_toArray, List.set_cons_zero, List.set_cons_succ]
  refine takeH (i := 35) (d := 97) (v := ?vm35) rfl (by kernel_rfl) (by kernel_rfl) (by kernel_rfl) (fun _ _ _ h => h) rfl (by rfl) ?ym35 hS ?rm35
  case ym35 => (intro wz hz; go_simp <;> with_reducible rfl)
  simp only [List.setIfInBounds_toArray, List.set_cons_zero, List.set_cons_succ]
  refine takeH (i := 36) (d := 98) (v := .pointer (some ⟨bR, oR, none⟩)) rfl (by kernel_rfl) (by kernel_rfl) (by kernel_rfl) (fun _ _ _ h => h) rfl (by rfl) ?ym36 hS ?rm36
  case ym36 => (intro wz hz; go_simp)
  simp only [List.setIfInBounds_toArray, List.set_cons_zero, List.set_cons_succ]
  refine takeH (i := 37) (d := 99) (v := .agg (secA 0)) rfl (by kernel_rfl) (by kernel_rfl) (by kernel_rfl) (fun _ _ _ h => h) rfl (by rfl) ?ym37 hS ?rm37
  case ym37 => (intro wz hz; exact exec_load 48 (.tmp 98) rfl bR oR rfl (sec 0) _ (rangeAt_block R0.out (hz.block bR hbR)) Try.underlying48 rfl (by rw [sec_length]; exact arr_size))
  simp only [List.setIfInBounds_toArray, List.set_cons_zero, List.set_cons_succ]
  refine wpAnyH_ready (rs := [38]) (by kernel_rfl) (by simp) ?_
  refine AllReadyH.cons rfl (fun K hK => ?_) AllReadyH.nil
  go_simp
  refine (filled_any 0 _).mono ?_
  rintro e w3 ⟨rfl, hb⟩
  refine hK.out _ _ (hS.trans (hb.mono hS.size)) (fun hT => ?_)
  clear hK hb hS
  have hS := hT
  clear hT
  refine takeH (i := 39) (d := 101) (v := .bool true) rfl (by kernel_rfl) (by kernel_rfl) (by kernel_rfl) (fun _ _ _ h => h) rfl (by rfl) ?ym39 hS ?rm39
  case ym39 => (intro wz hz; exact exec_eql_same (.tmp 99) (.tmp 100) rfl 0 _ rfl rfl)
  simp only [List.setIfInBounds_toArray, List.set_cons_zero, List.set_cons_succ]
  refine takeH (i := 40) (d := 102) (v := ?vm40) rfl (by kernel_rfl) (by kernel_rfl) (by kernel_rfl) (fun _ _ _ h => h) rfl (by rfl) ?ym40 hS ?rm40
  case ym40 => (intro wz hz; go_simp <;> with_reducible rfl)
  simp only [List.setIfInBounds_toArray, List.set_cons_zero, List.set_cons_succ]
  refine takeH (i := 41) (d := 103) (v := ?vm41) rfl (by kernel_rfl) (by kernel_rfl) (by kernel_rfl) (fun _ _ _ h => h) rfl (by rfl) ?ym41 hS ?rm41
  case ym41 => (intro wz hz; go_simp <;> with_reducible rfl)
  simp only [List.setIfInBounds_toArray, List.set_cons_zero, List.set_cons_succ]
  refine takeH (i := 42) (d := 104) (v := ?vm42) rfl (by kernel_rfl) (by kernel_rfl) (by kernel_rfl) (fun _ _ _ h => h) rfl (by rfl) ?ym42 hS ?rm42
  case ym42 => (intro wz hz; go_simp <;> with_reducible rfl)
  simp only [List.setIfInBounds_toArray, List.set_cons_zero, List.set_cons_succ]
  refine takeH (i := 43) (d := 105) (v := .pointer (some ⟨bR, oR + 64, none⟩)) rfl (by kernel_rfl) (by kernel_rfl) (by kernel_rfl) (fun _ _ _ h => h) rfl (by rfl) ?ym43 hS ?rm43
  case ym43 => (intro wz hz; go_simp)
  simp only [List.setIfInBounds_toArray, List.set_cons_zero, List.set_cons_succ]
  refine takeH (i := 44) (d := 106) (v := .agg (secA 8)) rfl (by kernel_rfl) (by kernel_rfl) (by kernel_rfl) (fun _ _ _ h => h) rfl (by rfl) ?ym44 hS ?rm44
  case ym44 => (intro wz hz; exact exec_load 48 (.tmp 105) rfl bR (oR + 64) rfl (sec 8) _ (rangeAt_block R1.out (hz.block bR hbR)) Try.underlying48 rfl (by rw [sec_length]; exact arr_size))
  simp only [List.setIfInBounds_toArray, List.set_cons_zero, List.set_cons_succ]
  refine wpAnyH_ready (rs := [45]) (by kernel_rfl) (by simp) ?_
  refine AllReadyH.cons rfl (fun K hK => ?_) AllReadyH.nil
  go_simp
  refine (filled_any 8 _).mono ?_
  rintro e w3 ⟨rfl, hb⟩
  refine hK.out _ _ (hS.trans (hb.mono hS.size)) (fun hT => ?_)
  clear hK hb hS
  have hS := hT
  clear hT
  refine takeH (i := 46) (d := 108) (v := .bool true) rfl (by kernel_rfl) (by kernel_rfl) (by kernel_rfl) (fun _ _ _ h => h) rfl (by rfl) ?ym46 hS ?rm46
  case ym46 => (intro wz hz; exact exec_eql_same (.tmp 106) (.tmp 107) rfl 8 _ rfl rfl)
  simp only [List.setIfInBounds_toArray, List.set_cons_zero, List.set_cons_succ]
  refine takeH (i := 47) (d := 109) (v := ?vm47) rfl (by kernel_rfl) (by kernel_rfl) (by kernel_rfl) (fun _ _ _ h => h) rfl (by rfl) ?ym47 hS ?rm47
  case ym47 => (intro wz hz; go_simp <;> with_reducible rfl)
  simp only [List.setIfInBounds_toArray, List.set_cons_zero, List.set_cons_succ]
  refine takeH (i := 48) (d := 110) (v := ?vm48) rfl (by kernel_rfl) (by kernel_rfl) (by kernel_rfl) (fun _ _ _ h => h) rfl (by rfl) ?ym48 hS ?rm48
  case ym48 => (intro wz hz; go_simp <;> with_reducible rfl)
  simp only [List.setIfInBounds_toArray, List.set_cons_zero, List.set_cons_succ]
  refine takeH (i := 49) (d := 111) (v := ?vm49) rfl (by kernel_rfl) (by kernel_rfl) (by kernel_rfl) (fun _ _ _ h => h) rfl (by rfl) ?ym49 hS ?rm49
  case ym49 => (intro wz hz; go_simp <;> with_reducible rfl)
  simp only [List.setIfInBounds_toArray, List.set_cons_zero, List.set_cons_succ]
  refine takeH (i := 50) (d := 112) (v := .pointer (some ⟨bR, oR + 128, none⟩)) rfl (by kernel_rfl) (by kernel_rfl) (by kernel_rfl) (fun _ _ _ h => h) rfl (by rfl) ?ym50 hS ?rm50
  case ym50 => (intro wz hz; go_simp)
  simp only [List.setIfInBounds_toArray, List.set_cons_zero, List.set_cons_succ]
  refine takeH (i := 51) (d := 113) (v := .agg (secA 6)) rfl (by kernel_rfl) (by kernel_rfl) (by kernel_rfl) (fun _ _ _ h => h) rfl (by rfl) ?ym51 hS ?rm51
  case ym51 => (intro wz hz; exact exec_load 48 (.tmp 112) rfl bR (oR + 128) rfl (sec 6) _ (rangeAt_block R2.out (hz.block bR hbR)) Try.underlying48 rfl (by rw [sec_length]; exact arr_size))
  simp only [List.setIfInBounds_toArray, List.set_cons_zero, List.set_cons_succ]
  refine wpAnyH_ready (rs := [52]) (by kernel_rfl) (by simp) ?_
  refine AllReadyH.cons rfl (fun K hK => ?_) AllReadyH.nil
  go_simp
  refine (filled_any 6 _).mono ?_
  rintro e w3 ⟨rfl, hb⟩
  refine hK.out _ _ (hS.trans (hb.mono hS.size)) (fun hT => ?_)
  clear hK hb hS
  have hS := hT
  clear hT
  refine takeH (i := 53) (d := 115) (v := .bool true) rfl (by kernel_rfl) (by kernel_rfl) (by kernel_rfl) (fun _ _ _ h => h) rfl (by rfl) ?ym53 hS ?rm53
  case ym53 => (intro wz hz; exact exec_eql_same (.tmp 113) (.tmp 114) rfl 6 _ rfl rfl)
  simp only [List.setIfInBounds_toArray, List.set_cons_zero, List.set_cons_succ]
  refine takeH (i := 54) (d := 116) (v := ?vm54) rfl (by kernel_rfl) (by kernel_rfl) (by kernel_rfl) (fun _ _ _ h => h) rfl (by rfl) ?ym54 hS ?rm54
  case ym54 => (intro wz hz; go_simp <;> with_reducible rfl)
  simp only [List.setIfInBounds_toArray, List.set_cons_zero, List.set_cons_succ]
  refine takeH (i := 55) (d := 117) (v := ?vm55) rfl (by kernel_rfl) (by kernel_rfl) (by kernel_rfl) (fun _ _ _ h => h) rfl (by rfl) ?ym55 hS ?rm55
  case ym55 => (intro wz hz; go_simp <;> with_reducible rfl)
  simp only [List.setIfInBounds_toArray, List.set_cons_zero, List.set_cons_succ]
  refine takeH (i := 56) (d := 118) (v := ?vm56) rfl (by kernel_rfl) (by kernel_rfl) (by kernel_rfl) (fun _ _ _ h => h) rfl (by rfl) ?ym56 hS ?rm56
  case ym56 => (intro wz hz; go_simp <;> with_reducible rfl)
  simp only [List.setIfInBounds_toArray, List.set_cons_zero, List.set_cons_succ]
  refine wpAnyH_ready (rs := [57]) (by kernel_rfl) (by simp) ?_
  refine AllReadyH.cons rfl (fun K hK => ?_) AllReadyH.nil
  go_simp
  refine (writes_any (own g gs) g gs [0, 8, 6, 0] 1 (-1) [] false _ (TB.out.under hS).p).mono ?_
  rintro e w3 ⟨rfl, rfl⟩
  have hb := trivial
  refine hK.out _ _ (hS) (fun hT => ?_)
  clear hK hb hS
  have hS := hT
  clear hT
  refine takeH (i := 58) (d := 120) (v := ?vm58) rfl (by kernel_rfl) (by kernel_rfl) (by kernel_rfl) (fun _ _ _ h => h) rfl (by rfl) ?ym58 hS ?rm58
  case ym58 => (intro wz hz; go_simp <;> with_reducible rfl)
  simp only [List.setIfInBounds_toArray, List.set_cons_zero, List.set_cons_succ]
  refine takeH (i := 59) (d := 121) (v := ?vm59) rfl (by kernel_rfl) (by kernel_rfl) (by kernel_rfl) (fun _ _ _ h => h) rfl (by rfl) ?ym59 hS ?rm59
  case ym59 => (intro wz hz; go_simp <;> with_reducible rfl)
  simp only [List.setIfInBounds_toArray, List.set_cons_zero, List.set_cons_succ]
  refine takeH (i := 60) (d := 122) (v := ?vm60) rfl (by kernel_rfl) (by kernel_rfl) (by kernel_rfl) (fun _ _ _ h => h) rfl (by rfl) ?ym60 hS ?rm60
  case ym60 => (intro wz hz; go_simp <;> with_reducible rfl)
  simp only [List.setIfInBounds_toArray, List.set_cons_zero, List.set_cons_succ]
  refine takeH (i := 61) (d := 123) (v := ?vm61) rfl (by kernel_rfl) (by kernel_rfl) (by kernel_rfl) (fun _ _ _ h => h) rfl (by rfl) ?ym61 hS ?rm61
  case ym61 => (intro wz hz; go_simp <;> with_reducible rfl)
  simp only [List.setIfInBounds_toArray, List.set_cons_zero, List.set_cons_succ]
  refine wpAnyH_ready (rs := [62]) (by kernel_rfl) (by simp) ?_
  refine AllReadyH.cons rfl (fun K hK => ?_) AllReadyH.nil
  go_simp
  refine (size_any (own g gs) g gs [0, 8, 6, 0] 1 (-1) [] false _ (TB.out.under hS).p).mono ?_
  rintro e w3 ⟨rfl, rfl⟩
  have hb := trivial
  refine hK.out _ _ (hS) (fun hT => ?_)
  clear hK hb hS
  have hS := hT
  clear hT
  refine takeH (i := 63) (d := 125) (v := ?vm63) rfl (by kernel_rfl) (by kernel_rfl) (by kernel_rfl) (fun _ _ _ h => h) rfl (by rfl) ?ym63 hS ?rm63
  case ym63 => (intro wz hz; go_simp <;> with_reducible rfl)
  simp only [List.setIfInBounds_toArray, List.set_cons_zero, List.set_cons_succ]
  refine takeH (i := 64) (d := 126) (v := ?vm64) rfl (by kernel_rfl) (by kernel_rfl) (by kernel_rfl) (fun _ _ _ h => h) rfl (by rfl) ?ym64 hS ?rm64
  case ym64 => (intro wz hz; go_simp <;> with_reducible rfl)
  simp only [List.setIfInBounds_toArray, List.set_cons_zero, List.set_cons_succ]
  refine takeH (i := 65) (d := 127) (v := ?vm65) rfl (by kernel_rfl) (by kernel_rfl) (by kernel_rfl) (fun _ _ _ h => h) rfl (by rfl) ?ym65 hS ?rm65
  case ym65 => (intro wz hz; go_simp <;> with_reducible rfl)
  simp only [List.setIfInBounds_toArray, List.set_cons_zero, List.set_cons_succ]
  refine takeH (i := 66) (d := 128) (v := ?vm66) rfl (by kernel_rfl) (by kernel_rfl) (by kernel_rfl) (fun _ _ _ h => h) rfl (by rfl) ?ym66 hS ?rm66
  case ym66 => (intro wz hz; go_simp <;> with_reducible rfl)
  simp only [List.setIfInBounds_toArray, List.set_cons_zero, List.set_cons_succ]
  refine wpAnyH_ready (rs := [67]) (by kernel_rfl) (by simp) ?_
  refine AllReadyH.cons rfl (fun K hK => ?_) AllReadyH.nil
  go_simp
  refine (image_any (own g gs) g2 gs2 [0, 5, 6, 0] 1 (-1) [] false _ (TB.out.under hS).t (by decide)).mono ?_
  rintro e w3 ⟨A9, c9, rfl, ho9, hb⟩
  clear ho9
  refine hK.out _ _ (hS.trans (hb.mono hS.size)) (fun hT => ?_)
  clear hK hb hS
  have hS := hT
  clear hT
  refine takeH (i := 68) (d := 130) (v := ?vm68) rfl (by kernel_rfl) (by kernel_rfl) (by kernel_rfl) (fun _ _ _ h => h) rfl (by rfl) ?ym68 hS ?rm68
  case ym68 => (intro wz hz; go_simp <;> with_reducible rfl)
  simp only [List.setIfInBounds_toArray, List.set_cons_zero, List.set_cons_succ]
  refine takeH (i := 69) (d := 131) (v := ?vm69) rfl (by kernel_rfl) (by kernel_rfl) (by kernel_rfl) (fun _ _ _ h => h) rfl (by rfl) ?ym69 hS ?rm69
  case ym69 => (intro wz hz; go_simp <;> with_reducible rfl)
  simp only [List.setIfInBounds_toArray, List.set_cons_zero, List.set_cons_succ]
  refine takeH (i := 70) (d := 132) (v := ?vm70) rfl (by kernel_rfl) (by kernel_rfl) (by kernel_rfl) (fun _ _ _ h => h) rfl (by rfl) ?ym70 hS ?rm70
  case ym70 => (intro wz hz; go_simp <;> with_reducible rfl)
  simp only [List.setIfInBounds_toArray, List.set_cons_zero, List.set_cons_succ]
  refine takeH (i := 71) (d := 133) (v := ?vm71) rfl (by kernel_rfl) (by kernel_rfl) (by kernel_rfl) (fun _ _ _ h => h) rfl (by rfl) ?ym71 hS ?rm71
  case ym71 => (intro wz hz; go_simp <;> with_reducible rfl)
  simp only [List.setIfInBounds_toArray, List.set_cons_zero, List.set_cons_succ]
  refine takeH (i := 72) (d := 134) (v := ?vm72) rfl (by kernel_rfl) (by kernel_rfl) (by kernel_rfl) (fun _ _ _ h => h) rfl (by rfl) ?ym72 hS ?rm72
  case ym72 => (intro wz hz; go_simp <;> with_reducible rfl)
  simp only [List.setIfInBounds_toArray, List.set_cons_zero, List.set_cons_succ]
  refine wpAnyH_ready (rs := [73]) (by kernel_rfl) (by simp) ?_
  refine AllReadyH.cons rfl (fun K hK => ?_) AllReadyH.nil
  go_simp
  refine (image_any (own g gs) g2 gs2 [0, 5, 6, 0] 1 (-1) [] false _ (TB.out.under hS).t (by decide)).mono ?_
  rintro e w3 ⟨A8, c8, rfl, ho8, hb⟩
  obtain ⟨bI, oI, rfl, _, hbI, hrI⟩ := (Lz.of_own (X := fun _ => False) ho8 (fun _ h => h.elim)).spot (by decide)
  have RI := Lib.hid (show w3.rangeAt bI (oI + 64) (sec 5) from flat_range (k := 1) hrI (by decide))
  clear ho8 hrI
  refine hK.out _ _ (hS.trans (hb.mono hS.size)) (fun hT => ?_)
  clear hK hb hS
  have hS := hT
  clear hT
  refine takeH (i := 74) (d := 136) (v := .pointer (some ⟨bI, oI + 64, none⟩)) rfl (by kernel_rfl) (by kernel_rfl) (by kernel_rfl) (fun _ _ _ h => h) rfl (by rfl) ?ym74 hS ?rm74
  case ym74 => (intro wz hz; go_simp)
  simp only [List.setIfInBounds_toArray, List.set_cons_zero, List.set_cons_succ]
  refine wpAnyH_ready (rs := [75, 76]) (by kernel_rfl) (by simp) ?_
  refine AllReadyH.cons rfl (fun K0 hK => ?_) (AllReadyH.cons rfl (fun K0 hK => ?_) AllReadyH.nil)
  · rw [if_pos (by rfl)]
    refine wp_load_sec 137 (.tmp 136) rfl rfl bI (oI + 64) rfl 5 RI.out ?_
    simp only [List.setIfInBounds_toArray, List.set_cons_zero, List.set_cons_succ]
    refine hK.out _ _ hS (fun hT => ?_)
    clear hK hT
    refine wpAnyH_ready (rs := [76]) (by kernel_rfl) (by simp) ?_
    refine AllReadyH.cons rfl (fun K hK => ?_) AllReadyH.nil
    go_simp
    refine (filled_any 5 _).mono ?_
    rintro e w4 ⟨rfl, hb⟩
    refine hK.out _ _ (hS.trans (hb.mono hS.size)) (fun hT => ?_)
    clear hK hb hS
    have hS := hT
    clear hT
    refine takeH (i := 77) (d := 139) (v := .bool true) rfl (by kernel_rfl) (by kernel_rfl) (by kernel_rfl) (fun _ _ _ h => h) rfl (by rfl) ?yn77 hS ?rn77
    case yn77 => (intro wz hz; exact exec_eql_same (.tmp 137) (.tmp 138) rfl 5 _ rfl rfl)
    simp only [List.setIfInBounds_toArray, List.set_cons_zero, List.set_cons_succ]
    refine takeH (i := 78) (d := 140) (v := ?vn78) rfl (by kernel_rfl) (by kernel_rfl) (by kernel_rfl) (fun _ _ _ h => h) rfl (by rfl) ?yn78 hS ?rn78
    case yn78 => (intro wz hz; go_simp <;> with_reducible rfl)
    simp only [List.setIfInBounds_toArray, List.set_cons_zero, List.set_cons_succ]
    refine takeH (i := 79) (d := 0) (v := ?vn79) rfl (by kernel_rfl) (by kernel_rfl) (by kernel_rfl) (fun _ _ _ h => h) rfl (by rfl) ?yn79 hS ?rn79
    case yn79 => (intro wz hz; go_simp <;> with_reducible rfl)
    simp only [List.setIfInBounds_toArray, List.set_cons_zero]
    refine wpAnyH_done (by kernel_rfl) ?_ _
    clear RI
    have HS := Lib.hid hS
    clear hS
    go_wp2_with fail
    go_ret
    exact ⟨rfl, TB.out.below.trans (HS.out.mono TB.out.below.size)⟩
  · go_simp
    refine (filled_any 5 _).mono ?_
    rintro e w4 ⟨rfl, hb⟩
    have RJ := Lib.hid (rangeAt_block RI.out (hb.block bI hbI))
    refine hK.out _ _ (hS.trans (hb.mono hS.size)) (fun hT => ?_)
    clear hK hb hS
    have hS := hT
    clear hT
    refine wpAnyH_ready (rs := [75]) (by kernel_rfl) (by simp) ?_
    refine AllReadyH.cons rfl (fun K0 hK => ?_) AllReadyH.nil
    rw [if_pos (by rfl)]
    refine wp_load_sec 137 (.tmp 136) rfl rfl bI (oI + 64) rfl 5 RJ.out ?_
    simp only [List.setIfInBounds_toArray, List.set_cons_zero, List.set_cons_succ]
    refine hK.out _ _ hS (fun hT => ?_)
    clear hK hT
    refine takeH (i := 77) (d := 139) (v := .bool true) rfl (by kernel_rfl) (by kernel_rfl) (by kernel_rfl) (fun _ _ _ h => h) rfl (by rfl) ?yp77 hS ?rp77
    case yp77 => (intro wz hz; exact exec_eql_same (.tmp 137) (.tmp 138) rfl 5 _ rfl rfl)
    simp only [List.setIfInBounds_toArray, List.set_cons_zero, List.set_cons_succ]
    refine takeH (i := 78) (d := 140) (v := ?vp78) rfl (by kernel_rfl) (by kernel_rfl) (by kernel_rfl) (fun _ _ _ h => h) rfl (by rfl) ?yp78 hS ?rp78
    case yp78 => (intro wz hz; go_simp <;> with_reducible rfl)
    simp only [List.setIfInBounds_toArray, List.set_cons_zero, List.set_cons_succ]
    refine takeH (i := 79) (d := 0) (v := ?vp79) rfl (by kernel_rfl) (by kernel_rfl) (by kernel_rfl) (fun _ _ _ h => h) rfl (by rfl) ?yp79 hS ?rp79
    case yp79 => (intro wz hz; go_simp <;> with_reducible rfl)
    simp only [List.setIfInBounds_toArray, List.set_cons_zero]
    refine wpAnyH_done (by kernel_rfl) ?_ _
    clear RI
    have HS := Lib.hid hS
    clear hS
    go_wp2_with fail
    go_ret
    exact ⟨rfl, TB.out.below.trans (HS.out.mono TB.out.below.size)⟩
end Go.Proofs.Ytggcfbglfmcdmaa
