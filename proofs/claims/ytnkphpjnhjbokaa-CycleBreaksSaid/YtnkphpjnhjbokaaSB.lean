/-
  The walks of cmp.Compare, cmp.Or, compare.
  Conditions: none beyond those that each theorem names.
-/
import Derived.Test.YtnkphpjnhjbokaaSA
import Derived.Test.YtnkphpjnhjbokaaCH
namespace Go.Proofs.Ytnkphpjnhjbokaa
open Go.RowKit Go.Shelf
attribute [local go_sem] Oper.semAt_some
set_option maxRecDepth 20000

def cmpZ (a b : Int) : Int := if a < b then -1 else if b < a then 1 else 0
def cmpA (a b : Ar) : Int := if cmpZ (a.1 : Int) (b.1 : Int) != 0 then cmpZ (a.1 : Int) (b.1 : Int) else cmpZ (a.2 : Int) (b.2 : Int)
def arA (a : Ar) : Array Value := #[.int .u64 (a.1 : Int), .int .u64 (a.2 : Int)]
theorem nanU_any (a : Int) (w : World) : Calls Try.prog 57 #[.int .u64 a] w fun e w' => e = .returned (.bool false) ∧ w = w' := by
  go_enter Try.func57, Try.ntmps57
  go_wp2_with fail
  go_ret
  simp
theorem cmpU_any (a b : Int) (w : World) : Calls Try.prog 44 #[.int .u64 a, .int .u64 b] w fun e w' => e = .returned (.int .i64 (cmpZ a b)) ∧ w = w' := by
  unfold cmpZ
  by_cases h1 : a < b
  · rw [if_pos h1]
    go_enter Try.func44, Try.ntmps44
    go_wp2_with (go_at_call 57; refine (nanU_any _ w).mono ?_; rintro e z ⟨rfl, rfl⟩)
    go_ret
    exact ⟨rfl, rfl⟩
  · rw [if_neg h1]
    by_cases h2 : b < a
    · rw [if_pos h2]
      go_enter Try.func44, Try.ntmps44
      go_wp2_with (go_at_call 57; refine (nanU_any _ w).mono ?_; rintro e z ⟨rfl, rfl⟩)
      go_ret
      exact ⟨rfl, rfl⟩
    · rw [if_neg h2]
      go_enter Try.func44, Try.ntmps44
      go_wp2_with (go_at_call 57; refine (nanU_any _ w).mono ?_; rintro e z ⟨rfl, rfl⟩)
      go_ret
      exact ⟨rfl, rfl⟩
def OrL (w : World) (x y : Int) (i : Value) (z : World) : Prop :=
  ∃ k : Nat, k ≤ 2 ∧ i = .int .i64 (k : Int) ∧ w = z ∧ (1 ≤ k → x = 0) ∧ (2 ≤ k → y = 0)
set_option maxHeartbeats 800000 in
theorem or_any (b : Nat) (x y : Int) (w : World) (h : At w b 3 #[.int .i64 x, .int .i64 y]) : Calls Try.prog 43 #[.slice (some ⟨b, 0, none⟩) 2 2] w fun e w' => e = .returned (.int .i64 (if x != 0 then x else y)) ∧ w = w' := by
  have c0 : w.cell? ⟨b, 0, none⟩ = some (.int .i64 x) := h.cell 0
  have c1 : w.cell? ⟨b, 1, none⟩ = some (.int .i64 y) := h.cell 1
  clear h
  go_enter Try.func43, Try.ntmps43
  go_wp2_with fail
  go_loopw [8] (fun i z => OrL w x y i z) (fun i _ => 2 - (intOf i).toNat)
  case atStart => exact ⟨0, by omega, rfl, rfl, by omega, by omega⟩
  case round =>
    obtain ⟨k, hk, rfl, rfl, h1, h2⟩ := hrel
    by_cases k0 : k = 0
    · subst k0
      cases hx : (x != 0)
      · have hx0 : x = 0 := by simpa using hx
        go_wp2_with fail
        exact ⟨⟨1, by omega, rfl, rfl, fun _ => hx0, by omega⟩, by simp [intOf]⟩
      · go_wp2_with fail
        go_ret
        exact ⟨rfl, rfl⟩
    · have hx0 := h1 (by omega)
      by_cases k1 : k = 1
      · subst k1
        cases hy : (y != 0)
        · have hy0 : y = 0 := by simpa using hy
          clear h1 h2
          go_wp2_with fail
          exact ⟨⟨2, by omega, rfl, rfl, fun _ => hx0, fun _ => hy0⟩, by simp [intOf]⟩
        · clear h1 h2
          go_wp2_with fail
          go_ret
          exact ⟨rfl, rfl⟩
      · obtain rfl : k = 2 := by omega
        have hy0 := h2 (by omega)
        clear h1 h2
        go_wp2_with fail
        go_ret
        exact ⟨by first | rfl | (simp [hy0]; done) | (rw [hy0]; rfl), rfl⟩
open Go.Sort in
theorem grow_cell {z wz : World} {q : Nat} {os : Array Obj} (h : wz = Go.Sort.grow (z.drewN q) os) (a : Addr) (ha : a.block < z.heap.size) : wz.cell? a = z.cell? a := by
  rw [h, Go.Sort.cell?_grow _ _ _ (by exact ha)]
  rfl
def GrD (z wz : World) : Prop := ∃ q os, wz = Go.Sort.grow (z.drewN q) os
theorem GrD.drew (z : World) : GrD z z.drew := ⟨1, #[], by rw [Go.Sort.grow_empty]; rfl⟩
theorem GrD.alloc {z wz : World} (h : GrD z wz) (o : Obj) : GrD z (wz.alloc o) := by
  obtain ⟨q, os, rfl⟩ := h
  exact ⟨q, os ++ #[o], by rw [Go.Sort.alloc_eq_grow, Go.Sort.grow_grow]⟩
theorem GrD.cell {z wz : World} (h : GrD z wz) {a : Addr} {v : Value} (hv : z.cell? a = some v) : wz.cell? a = some v := by
  obtain ⟨q, os, e⟩ := h
  rw [grow_cell e a (World.block_lt_of_cell? z a hv)]
  exact hv
theorem GrD.from {w z : World} {os : Array Obj} (hz : z = Go.Sort.grow w os) {wz : World} (h : GrD z wz) : GrD w wz := by
  obtain ⟨q, os', rfl⟩ := h
  exact ⟨q, os ++ os', by rw [hz, ← Go.Sort.grow_grow]; rfl⟩
theorem wp_lit2 {o : Oper} {a : Act} {w : World} {K : Act → World → Prop} {Q : Exit → Act → World → Prop} {X Y : Int} (d : Nat) (x y : Operand) (hop : o.dst = some d) (ho : o.op = .buildSlice 79 2 #[(0, x), (1, y)]) (hx : a.eval x = .int .i64 X) (hy : a.eval y = .int .i64 Y)
    (h : K (a.put (some d) (.slice (some ⟨w.heap.size, 0, none⟩) 2 2)) (w.alloc (.cells #[.int .i64 X, .int .i64 Y] 3))) : o.wp Try.prog a w K Q := by
  have hrun : (Instr.buildSlice 79 2 #[(0, .int .i64 X), (1, .int .i64 Y)]).run Try.prog w = .ok (.slice (some ⟨w.heap.size, 0, none⟩) 2 2) (w.alloc (.cells #[.int .i64 X, .int .i64 Y] 3)) := by go_simp
  unfold Oper.wp
  simp [execOp, ho, hx, hy, hrun, Result.andThen]
  simp only [Oper.upon]
  rw [hop]
  exact h
set_option maxHeartbeats 1600000 in
theorem compare_any (a b : Ar) (w : World) : Calls Try.prog 35 #[.agg (arA a), .agg (arA b)] w fun e w' => e = .returned (.int .i64 (cmpA a b)) ∧ GrD w w' := by
  obtain ⟨a1, a2⟩ := a
  obtain ⟨b1, b2⟩ := b
  obtain ⟨X, hX⟩ : ∃ X, cmpZ (a1 : Int) (b1 : Int) = X := ⟨_, rfl⟩
  obtain ⟨Y, hY⟩ : ∃ Y, cmpZ (a2 : Int) (b2 : Int) = Y := ⟨_, rfl⟩
  obtain ⟨R, hR⟩ : ∃ R, cmpA (a1, a2) (b1, b2) = R := ⟨_, rfl⟩
  have HR : Hid ((if X != 0 then X else Y) = R) := by
    show _ = _
    rw [← hR, ← hX, ← hY]
    rfl
  have HCI : Hid (∀ W, Calls Try.prog 44 #[.int .u64 (a1 : Int), .int .u64 (b1 : Int)] W fun e w' => e = .returned (.int .i64 X) ∧ W = w') := fun W => by
    have := cmpU_any (a1 : Int) (b1 : Int) W
    rwa [hX] at this
  have HCU : Hid (∀ W, Calls Try.prog 44 #[.int .u64 (a2 : Int), .int .u64 (b2 : Int)] W fun e w' => e = .returned (.int .i64 Y) ∧ W = w') := fun W => by
    have := cmpU_any (a2 : Int) (b2 : Int) W
    rwa [hY] at this
  rw [hR]
  obtain ⟨z, hz⟩ : ∃ z, (w.alloc (.cells (arA (a1, a2)) 40)).alloc (.cells (arA (b1, b2)) 40) = z := ⟨_, rfl⟩
  have HZ : Hid (z = Go.Sort.grow w (#[.cells (arA (a1, a2)) 40] ++ #[.cells (arA (b1, b2)) 40])) := by
    show _ = _
    rw [← hz, Go.Sort.alloc_eq_grow, Go.Sort.alloc_eq_grow, Go.Sort.grow_grow]
  have A2 : At z w.heap.size 40 (arA (a1, a2)) := hz ▸ (At.new w 40 (arA (a1, a2))).alloc _
  have A3 : At z (w.heap.size + 1) 40 (arA (b1, b2)) := by
    have := At.new (w.alloc (.cells (arA (a1, a2)) 40)) 40 (arA (b1, b2))
    rw [hz] at this
    simpa using this
  have c0 : z.cell? ⟨w.heap.size, 0, none⟩ = some (.int .u64 (a1 : Int)) := A2.cell 0
  have c1 : z.cell? ⟨w.heap.size, 1, none⟩ = some (.int .u64 (a2 : Int)) := A2.cell 1
  have c2 : z.cell? ⟨w.heap.size + 1, 0, none⟩ = some (.int .u64 (b1 : Int)) := A3.cell 0
  have c3 : z.cell? ⟨w.heap.size + 1, 1, none⟩ = some (.int .u64 (b2 : Int)) := A3.cell 1
  clear A2 A3 hX hY hR
  unfold arA at *
  go_enter Try.func35, Try.ntmps35
  go_upto_region 1 with fail
  clear hz
  refine wp_region_held_drew (S := GrD z) (by kernel_rfl) (GrD.drew z) (fun hS => ?_)
  refine tk 0 hS ?_
  refine tk 1 hS ?_ (hy := by intro wz hz; have p0 := hz.cell c0; have p1 := hz.cell c1; have p2 := hz.cell c2; have p3 := hz.cell c3; go_simp <;> with_reducible rfl)
  refine tk 2 hS ?_
  refine tk 3 hS ?_ (hy := by intro wz hz; have p0 := hz.cell c0; have p1 := hz.cell c1; have p2 := hz.cell c2; have p3 := hz.cell c3; go_simp <;> with_reducible rfl)
  refine tk 5 hS ?_
  refine tk 6 hS ?_ (hy := by intro wz hz; have p0 := hz.cell c0; have p1 := hz.cell c1; have p2 := hz.cell c2; have p3 := hz.cell c3; go_simp <;> with_reducible rfl)
  refine tk 7 hS ?_
  refine tk 8 hS ?_ (hy := by intro wz hz; have p0 := hz.cell c0; have p1 := hz.cell c1; have p2 := hz.cell c2; have p3 := hz.cell c3; go_simp <;> with_reducible rfl)
  refine wpAnyH_ready (rs := [4]) (by kernel_rfl) (by simp) ?_
  refine AllReadyH.cons rfl (fun K hK => ?_) AllReadyH.nil
  go_simp
  refine (HCI.out _).mono ?_
  rintro e y1 ⟨rfl, rfl⟩
  have hb : True := trivial
  refine hK.out _ _ (hS) (fun hT => ?_)
  clear hK hb hS
  have hS := hT
  clear hT
  refine wpAnyH_ready (rs := [9]) (by kernel_rfl) (by simp) ?_
  refine AllReadyH.cons rfl (fun K hK => ?_) AllReadyH.nil
  go_simp
  refine (HCU.out _).mono ?_
  rintro e y2 ⟨rfl, rfl⟩
  have hb : True := trivial
  refine hK.out _ _ (hS) (fun hT => ?_)
  clear hK hb hS
  have hS := hT
  clear hT
  refine wpAnyH_ready (rs := [10]) (by kernel_rfl) (by simp) ?_
  refine AllReadyH.cons rfl (fun K hK => ?_) AllReadyH.nil
  rw [if_pos (by rfl)]
  refine wp_lit2 15 (.tmp 9) (.tmp 14) rfl rfl rfl rfl ?_
  refine hK.out _ _ (hS.alloc _) (fun hT => ?_)
  clear hK hS
  have hS := hT
  clear hT
  refine wpAnyH_ready (rs := [11]) (by kernel_rfl) (by simp) ?_
  refine AllReadyH.cons rfl (fun K hK => ?_) AllReadyH.nil
  go_simp
  have hor := (or_any z.heap.size X Y (z.alloc (.cells #[.int .i64 X, .int .i64 Y] 3)).drew (show At (z.alloc (.cells #[.int .i64 X, .int .i64 Y] 3)).drew z.heap.size 3 #[.int .i64 X, .int .i64 Y] from At.new z 3 #[.int .i64 X, .int .i64 Y]))
  rw [HR.out] at hor
  refine hor.mono ?_
  clear hor
  rintro e y3 ⟨rfl, rfl⟩
  refine hK.out _ _ (hS) (fun hT => ?_)
  clear hK hS
  have hS := hT
  clear hT
  refine tk 12 hS ?_
  refine wpAnyH_done (by kernel_rfl) ?_ _
  go_wp2_with fail
  go_ret
  exact ⟨rfl, GrD.from HZ.out hS⟩
end Go.Proofs.Ytnkphpjnhjbokaa
